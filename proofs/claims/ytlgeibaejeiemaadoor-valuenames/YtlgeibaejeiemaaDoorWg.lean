/-
  A region that draws its order: some of its operations (the held ones) only read, and yield what they yield in each world that meets S; once all of these have come up nothing more is asked of S. And how such a region is walked in a round of a loop over a function. Nothing of the program is named here.
-/
import Derived.OrdersHeld
import Derived.RegionTactic
import Derived.OrdersIn
import Derived.RangeFuncCalls
import Derived.OwnWalkIn
namespace Go.Proofs.YtlgeibaejeiemaaDoor.Wd
set_option linter.unusedVariables false
open Go.RowKit

section
variable {P : Program} {ops : Array Oper} {Q : Exit → Act → World → Prop} {md : Region.Mode} {S : World → Prop} {held : List Nat}

/-- number j comes up behind all of the held ones -/
def Late (md : Region.Mode) (ops : Array Oper) (held : List Nat) (j : Nat) : Prop := ∀ o, ops[j]? = some o → ∀ i ∈ held, ∃ e ∈ o.after, Region.binds md e = true ∧ e.on = i
def lateB (md : Region.Mode) (ops : Array Oper) (held : List Nat) (j : Nat) : Bool :=
  match ops[j]? with
  | none => true
  | some o => held.all fun i => o.after.toList.any fun e => Region.binds md e && e.on == i
theorem late_of {j : Nat} (h : lateB md ops held j = true) : Late md ops held j := by
  intro o ho i hi
  unfold lateB at h
  rw [ho] at h
  have h1 := List.all_eq_true.1 h i hi
  obtain ⟨e, he, h2⟩ := List.any_eq_true.1 h1
  rw [Bool.and_eq_true] at h2
  exact ⟨e, by simpa using he, h2.1, by simpa using h2.2⟩

def anyG (P : Program) (md : Region.Mode) (ops : Array Oper) (Q : Exit → Act → World → Prop) (S : World → Prop) (held : List Nat) : Nat → Array Bool → Act → World → Prop
  | 0, L, a, w => Region.ready md ops L = [] ∧ Q .normal a w
  | f + 1, L, a, w => (Region.ready md ops L = [] → Q .normal a w) ∧
    ∀ i ∈ Region.ready md ops L, wpOp P ops Q i (fun a' w' => (Late md ops held i ∨ S w') ∧ anyG P md ops Q S held f (L.setIfInBounds i true) a' w') a w

theorem any_of : ∀ (f : Nat) (L : Array Bool) (a : Act) (w : World), anyG P md ops Q S held f L a w → wpAny P md ops Q f L a w
  | 0, _, _, _, h => h
  | f + 1, _, _, _, h => ⟨h.1, fun i hi => wpOp_mono (fun a' w' h' => any_of f _ a' w' h'.2) (h.2 i hi)⟩

theorem any_first {i : Nat} {oi : Oper} {v : Value} (hi : ops[i]? = some oi) (hh : i ∈ held) (hsel : ∀ (j : Nat) (o : Oper) cs b, ops[j]? = some o → o.op ≠ .select cs b)
    (hQ : ∀ c a w, Q (.panic c) (a.put oi.dst v) w → Q (.panic c) a w) :
    ∀ (f : Nat) (L : Array Bool) (a : Act) (w : World),
      (∀ j oj, ops[j]? = some oj → j ≠ i → L.getD j true = false → (∀ e ∈ oj.after, Region.binds md e = true → e.on ≠ i) → oi.apart ops oj = true) →
      i ∈ Region.ready md ops L → YieldsIf P ops S oi v a → S w →
      anyG P md ops Q S held f (L.setIfInBounds i true) (a.put oi.dst v) w → anyG P md ops Q S held (f + 1) L a w := by
  intro f
  induction f with
  | zero =>
    intro L a w _ hr hy hS H
    refine ⟨fun h => (by rw [h] at hr; cases hr), fun j hj => ?_⟩
    by_cases hji : j = i
    · subst hji; exact hy.wpOp hi hS ⟨.inr hS, H⟩
    · have := ready_mono hj hji
      rw [H.1] at this
      cases this
  | succ f ih =>
    intro L a w hfree hr hy hS H
    refine ⟨fun h => (by rw [h] at hr; cases hr), fun j hj => ?_⟩
    by_cases hji : j = i
    · subst hji; exact hy.wpOp hi hS ⟨.inr hS, H⟩
    · have h1 := H.2 j (ready_mono hj hji)
      obtain ⟨hjun, oj, hoj, hall⟩ := mem_ready.1 hj
      have hun := (mem_ready.1 hr).1
      have hnot : ∀ e ∈ oj.after, Region.binds md e = true → e.on ≠ i := fun e he hb heq => by
        have h1 := hall e he hb
        rw [heq] at h1
        rcases Nat.lt_or_ge i L.size with h' | h'
        · simp [h'] at hun h1; rw [hun] at h1; cases h1
        · simp [Array.getElem?_eq_none h'] at h1
      have h2 := wpOp_putIf hoj (hfree j oj hoj hji hjun hnot) (fun cs b => hsel i oi cs b hi) (fun cs b => hsel j oj cs b hoj) hQ hy h1
      have hfree' : ∀ k ok, ops[k]? = some ok → k ≠ i → (L.setIfInBounds j true).getD k true = false →
          (∀ e ∈ ok.after, Region.binds md e = true → e.on ≠ i) → oi.apart ops ok = true := fun k ok hk hki hun hno => by
        refine hfree k ok hk hki ?_ hno
        by_cases hjk : j = k
        · subst hjk; exact hjun
        · rw [getD_set_ne true hjk] at hun; exact hun
      have hS' : ∀ {w'}, (Late md ops held j ∨ S w') → S w' := fun h => by
        rcases h with h | h
        · obtain ⟨e, he, hb, heq⟩ := h oj hoj i hh
          exact absurd heq (hnot e he hb)
        · exact h
      refine wpOp_mono (fun a' w' h3 => ⟨.inr (hS' h3.2.1), ih (L.setIfInBounds j true) a' w' hfree' (ready_mono hr (Ne.symm hji)) h3.1 (hS' h3.2.1) ?_⟩) h2
      rw [Array.setIfInBounds_comm _ _ hji]
      exact h3.2.2

/-- number i, one of the held, is taken first -/
theorem any_take {i : Nat} {oi : Oper} {v : Value} {f : Nat} {L : Array Bool} {a : Act} {w : World} (hi : ops[i]? = some oi) (hh : held.contains i = true)
    (hs : Region.noSelect ops = true) (hf : Region.free md ops L i = true) (hr : (Region.ready md ops L).contains i = true)
    (hQ : ∀ c a w, Q (.panic c) (a.put oi.dst v) w → Q (.panic c) a w) (hy : YieldsIf P ops S oi v a) (hS : S w)
    (h : anyG P md ops Q S held f (L.setIfInBounds i true) (a.put oi.dst v) w) : anyG P md ops Q S held (f + 1) L a w :=
  any_first hi (by simpa using hh) (Region.noSelect_spec hs) hQ f L a w (Region.free_spec hi hf) (by simpa using hr) hy hS h

/-- the same, where the operation lays its value said apart -/
theorem any_takeD (i : Nat) (d : Tmp) (v : Value) {oi : Oper} {f : Nat} {L : Array Bool} {a : Act} {w : World} (hi : ops[i]? = some oi) (hd : oi.dst = some d) (hh : held.contains i = true)
    (hs : Region.noSelect ops = true) (hf : Region.free md ops L i = true) (hr : (Region.ready md ops L).contains i = true)
    (hQ : ∀ c a w, Q (.panic c) (a.put (some d) v) w → Q (.panic c) a w) (hw : Region.wanted oi (yielded ops a.tmps) = true) (hy : ∀ w, S w → (execOp a.eval oi).run P w = .ok (.value v) w) (hS : S w)
    (h : anyG P md ops Q S held f (L.setIfInBounds i true) (a.put (some d) v) w) : anyG P md ops Q S held (f + 1) L a w := by
  rw [← hd] at hQ h
  exact any_take hi hh hs hf hr hQ (.inl ⟨hw, hy⟩) hS h

/-- number i alone may come up -/
theorem any_one (i : Nat) {o : Oper} {f : Nat} {L : Array Bool} {a : Act} {w : World} (hr : Region.ready md ops L = [i]) (ho : ops[i]? = some o) (hw : Region.wanted o (yielded ops a.tmps) = true)
    (h : ∀ K' : Act → World → Prop, (∀ a w, (Late md ops held i ∨ S w) → anyG P md ops Q S held f (L.setIfInBounds i true) a w → K' a w) → Oper.wp P o a w K' Q) : anyG P md ops Q S held (f + 1) L a w := by
  refine ⟨fun h0 => (by rw [hr] at h0; cases h0), fun j hj => ?_⟩
  rw [hr] at hj
  obtain rfl : j = i := by simpa using hj
  refine wpOp_step ho fun K' hK => ?_
  rw [if_pos hw]
  exact h K' fun a w h1 h2 => hK a w ⟨h1, h2⟩
/-- it yields a value -/
theorem any_runD (i : Nat) (d : Tmp) (v : Value) (w' : World) {o : Oper} {f : Nat} {L : Array Bool} {a : Act} {w : World} (hr : Region.ready md ops L = [i]) (ho : ops[i]? = some o) (hd : o.dst = some d) (hw : Region.wanted o (yielded ops a.tmps) = true)
    (hrun : (execOp a.eval o).run P w = .ok (.value v) w') (hS : Late md ops held i ∨ S w') (h : anyG P md ops Q S held f (L.setIfInBounds i true) (a.put (some d) v) w') : anyG P md ops Q S held (f + 1) L a w := by
  refine any_one i hr ho hw fun K' hK => ?_
  unfold Oper.wp
  rw [hrun, Oper.upon_value, hd]
  exact hK _ _ hS h
/-- it lays nothing down -/
theorem any_run0 (i : Nat) (w' : World) {o : Oper} {f : Nat} {L : Array Bool} {a : Act} {w : World} (hr : Region.ready md ops L = [i]) (ho : ops[i]? = some o) (hd : o.dst = none) (hw : Region.wanted o (yielded ops a.tmps) = true)
    (hrun : (execOp a.eval o).run P w = .ok .skip w') (hS : Late md ops held i ∨ S w') (h : anyG P md ops Q S held f (L.setIfInBounds i true) a w') : anyG P md ops Q S held (f + 1) L a w := by
  refine any_one i hr ho hw fun K' hK => ?_
  unfold Oper.wp
  rw [hrun, Oper.upon_skip, hd]
  exact hK _ _ hS h
/-- it appends to a row of the call's own -/
theorem any_appD (i : Nat) (d : Tmp) {o : Oper} {f : Nat} {L : Array Bool} {a : Act} {w : World} (hr : Region.ready md ops L = [i]) (ho : ops[i]? = some o) (hd : o.dst = some d) (hw : Region.wanted o (yielded ops a.tmps) = true)
    (s x : Operand) (t : TypeId) (hop : o.op = Op.call { callee := Callee.builtin Builtin.append, args := #[s, x], argTypes := #[t, t] })
    (base : Nat) (e : TypeId) (ti : TypeInfo) (z : Value) (size bytes : Nat) (h1 : P.underlying t = some (.slice e)) (h2 : P.info? e = some ti) (h3 : ti.zero = some z) (h4 : ti.size = size) (h5 : ti.bytes = bytes) (h6 : z.cells.size = size) (h7 : 0 < size)
    (v : Value) (k : Nat) (xs : List Value) (hs : a.eval s = v) (hown : w.ownsRow base e size v k xs) (ad : Addr) (m c : Nat) (news : List Value) (hx : a.eval x = .slice (some ad) m c) (hn : news.length = m * size)
    (hc : ∀ j u, news[j]? = some u → w.cell? (ad.add j) = some u) (h1c : ∀ u ∈ news, u.oneCell' = true) (b1 : k + m ≤ maxLen) (b2 : (k + m) * bytes ≤ 140737488355328) (b3 : base ≤ w.heap.size)
    (h : ∀ v' w', w'.ownsRow base e size v' (k + m) (xs ++ news) → w.grownBy w' v.ownBlock → (Late md ops held i ∨ S w') ∧ anyG P md ops Q S held f (L.setIfInBounds i true) (a.put (some d) v') w') : anyG P md ops Q S held (f + 1) L a w := by
  obtain ⟨v', w', hrun, r1, r2, r3⟩ := run_append_own (P := P) w base t o.type e ti z size bytes h1 h2 h3 h4 h5 h6 h7 v k xs hown ad m c news hn hc h1c b1 b2 b3
  refine any_one i hr ho hw fun K' hK => ?_
  have := h v' w' r1 r2
  unfold Oper.wp
  simp [execOp, hop, resolve, invoke, builtin, hs, hx, hrun, Result.andThen]
  rw [Oper.upon_value, hd]
  exact hK _ _ this.1 this.2
theorem any_done {L : Array Bool} {a : Act} {w : World} (hr : Region.ready md ops L = []) (h : Q .normal a w) : ∀ f, anyG P md ops Q S held f L a w
  | 0 => ⟨hr, h⟩
  | _ + 1 => ⟨fun _ => h, by rw [hr]; simp⟩
theorem region_any {id : Nat} {a : Act} {w : World} (S : World → Prop) (held : List Nat) (hm : P.follows .mixedOrders = true) (h : anyG P .any ops Q S held ops.size (Array.replicate ops.size false) a w.drew) : (Code.region id ops true).wp P Q a w :=
  wp_region_any hm (any_of _ _ _ _ h)

/-- where no operation panics, nothing is asked of a panic -/
def calm (Q : Exit → Act → World → Prop) : Exit → Act → World → Prop
  | .panic _, _, _ => False
  | e, a, w => Q e a w
theorem calm_normal {a : Act} {w : World} (h : Q .normal a w) : calm Q .normal a w := h
theorem region_calm {id : Nat} {a : Act} {w : World} (S : World → Prop) (held : List Nat) (hm : P.follows .mixedOrders = true) (h : anyG P .any ops (calm Q) S held ops.size (Array.replicate ops.size false) a w.drew) : (Code.region id ops true).wp P Q a w :=
  wp_mono (region_any S held hm h) fun e a w h => by cases e <;> first | exact h | exact False.elim h

/-- an operation that is no defer statement is in a round what it is elsewhere -/
theorem oper_round {l n : Nat} {o : Oper} {a : Act} {w : World} {K : Act → World → Prop} (hd : ∀ c, o.op ≠ .defer c) (h : Oper.wp P o a w K Q) : o.wpIn (Fence.wide.inRound l) n P a w K Q := by
  refine ⟨fun _ _ => trivial, ?_⟩
  rw [show (Fence.wide.inRound l).round = some l from rfl, Oper.semAt_some l _ _ hd]
  unfold Oper.wp at h
  generalize (execOp a.eval o).run P w = r at *
  cases r with
  | ok x w' =>
    cases x <;> first
      | exact h
      | exact ⟨fun e => absurd e (by simp [Fence.wide]), CallsIn.inRound l (callsIn_wide.2 h)⟩
      | exact ⟨fun e => absurd e (by simp [Fence.wide]), fun c cs _ => by obtain ⟨v, w', r, s⟩ := h c cs; exact ⟨v, w', r, (stepsIn_wide.2 s : StepsIn (Machine.fenced P Fence.wide) P _ _)⟩⟩
      | exact False.elim h
  | halt x w' => cases x <;> exact h
theorem any_round {l n : Nat} (hd : ∀ (j : Nat) (o : Oper) c, ops[j]? = some o → o.op ≠ .defer c) (hno : ¬ LetsOut Q) : ∀ (f : Nat) (L : Array Bool) (a : Act) (w : World), wpAny P md ops Q f L a w → wpAnyIn (Fence.wide.inRound l) n P md ops Q f L a w
  | 0, _, _, _, h => h
  | f + 1, L, a, w, h => ⟨h.1, fun i hi => by
    have h2 := h.2 i hi
    have h3 : wpOp P ops Q i (wpAnyIn (Fence.wide.inRound l) n P md ops Q f (L.setIfInBounds i true)) a w := wpOp_mono (fun a' w' h' => any_round hd hno f _ a' w' h') h2
    unfold wpOp at h3
    unfold wpOpIn
    cases ho : ops[i]? with
    | none => rw [ho] at h3; exact h3
    | some o =>
      rw [ho] at h3
      simp only at h3 ⊢
      split
      · rename_i hw
        rw [if_pos hw] at h3
        rcases h3 with h3 | h3
        · exact oper_round (fun c => hd i o c ho) h3
        · exact absurd h3.2 hno
      · rename_i hw
        rw [if_neg hw] at h3
        exact ⟨fun _ _ => trivial, h3⟩⟩
def noDefer (ops : Array Oper) : Bool := ops.toList.all fun o => match o.op with | .defer _ => false | _ => true
theorem noDefer_spec (h : noDefer ops = true) (j : Nat) (o : Oper) (c : Call) (hj : ops[j]? = some o) : o.op ≠ .defer c := by
  intro e
  have := List.all_eq_true.1 h o (by have := Array.mem_of_getElem? hj; simpa using this)
  rw [e] at this
  cases this
theorem region_round {l n id : Nat} {a : Act} {w : World} (S : World → Prop) (held : List Nat) (hm : P.follows .mixedOrders = true) (hd : noDefer ops = true) (hno : ¬ LetsOut Q)
    (h : anyG P .any ops Q S held ops.size (Array.replicate ops.size false) a w.drew) : (Code.region id ops true).wpIn (Fence.wide.inRound l) n P Q a w :=
  wpIn_region_any hm (any_round (fun j o c hj => noDefer_spec hd j o c hj) hno _ _ _ _ (any_of _ _ _ _ h))

end
end Go.Proofs.YtlgeibaejeiemaaDoor.Wd
