/-
  One text appended to texts of the call's own: where the new row lies, what the old one reads.
-/
import Derived.Test.YtlgeibaejeiemaaDoorVz
import Derived.ArgAppend
namespace Go.Proofs.YtlgeibaejeiemaaDoor
set_option linter.unusedVariables false
set_option linter.unusedSimpArgs false
open Go.RowKit
namespace Vt
open Wd We

/-- what is known behind the append -/
structure AS (w w' : World) (B : Option Addr) (q d : Nat) (n : List ByteArray) (y : ByteArray) (G : Nat) : Prop where
  up : Below 0 w w'
  same : ∀ x, x < w.heap.size → (Value.slice B q d).ownBlock ≠ some x → w'.heap[x]? = w.heap[x]?
  row : ∀ (i : Nat) (s : ByteArray), (n ++ [y])[i]? = some s → w'.cell? ⟨G, i, none⟩ = some (.string s)
  old : Nm w' B q d n
  lt : G < w'.heap.size
  at_ : (Value.slice B q d).ownBlock = some G ∨ w.heap.size ≤ G
theorem nm_of_own {w : World} {B : Nat} {e : TypeId} {A : Option Addr} {m c : Nat} {n : List ByteArray} (h : w.ownsRow B e 1 (.slice A m c) m (n.map Value.string)) (hz : m * 16 ≤ 140737488351232) : Nm w A m c n := by
  obtain ⟨A', c', he, hn, _⟩ := nm_own h (by have := h.1; simpa using this) hz
  injection he with h1 h2 h3
  subst h1 h3
  exact hn
theorem wp_appS {P : Program} {w : World} {ops : Array Oper} {rest : List Oper} {o : Oper} {a : Act} {Q : Exit → Act → World → Prop} (hgd : o.guard = none) (s x : Operand) (t : TypeId)
    (ho : o.op = .call { callee := .builtin .append, args := #[s, x], argTypes := #[t, t] }) {e : TypeId} {i : TypeInfo} {z : Value} (ht : P.underlying t = some (.slice e)) (hi : P.info? e = some i) (hz : i.zero = some z) (hs1 : i.size = 1) (hby : i.bytes = 16) (hzc : z.cells.size = 1)
    {B : Option Addr} {q d base : Nat} {n : List ByteArray} (hs : a.eval s = .slice B q d) (hown : w.ownsRow base e 1 (.slice B q d) q (n.map Value.string)) {g : Nat} {y : ByteArray} (hx : a.eval x = .slice (some ⟨g, 0, none⟩) 1 1) (hg : w.cell? ⟨g, 0, none⟩ = some (.string y)) (hgo : (Value.slice B q d).ownBlock ≠ some g)
    (hq : q * 16 ≤ 140737488351232) (hb : base ≤ w.heap.size)
    (h : ∀ G cap w', AS w w' B q d n y G → wpList P ops Q rest (a.put o.dst (.slice (some ⟨G, 0, none⟩) (q + 1) cap)) w') : wpList P ops Q (o :: rest) a w := by
  have hnl : n.length = q := by have := hown.1; simpa using this
  have hnews : ∀ (j : Nat) u, [Value.string y][j]? = some u → w.cell? ((⟨g, 0, none⟩ : Addr).add j) = some u := fun j u hu => by
    obtain rfl : j = 0 := by have := (List.getElem?_eq_some_iff.1 hu).1; simp at this; omega
    simp at hu; subst hu
    simpa [Addr.add] using hg
  have hrow : ∀ {v' : Value} {w' : World}, w'.ownsRow w.heap.size e 1 v' (q + 1) (n.map Value.string ++ [.string y]) → ∃ G cap, v' = .slice (some ⟨G, 0, none⟩) (q + 1) cap ∧ w.heap.size ≤ G ∧ G < w'.heap.size ∧ ∀ (i : Nat) (s : ByteArray), (n ++ [y])[i]? = some s → w'.cell? ⟨G, i, none⟩ = some (.string s) := by
    intro v' w' hr
    obtain ⟨hxl, ⟨_, h0⟩ | ⟨G, cap, cu, rfl, hG, hgc, hnc, hcm, hcs, htk⟩⟩ := hr
    · omega
    · refine ⟨G, cap, rfl, hG, (Array.getElem?_eq_some_iff.1 hgc).1, fun i s hi => ?_⟩
      have hil := (List.getElem?_eq_some_iff.1 hi).1
      rw [List.length_append, hnl] at hil
      have h1 : (n.map Value.string ++ [.string y])[i]? = some (.string s) := by
        have h2 : ((n ++ [y]).map Value.string)[i]? = some (.string s) := by rw [List.getElem?_map, hi]; rfl
        simpa using h2
      rw [← htk, List.getElem?_take, if_pos (by simp at hil ⊢; omega)] at h1
      simp only [World.cell?, hgc]
      simpa using h1
  have hfresh : ∀ v' w', w'.ownsRow w.heap.size e 1 v' (q + 1) (n.map Value.string ++ [.string y]) → w.grownBy w' none → wpList P ops Q rest (a.put o.dst v') w' := fun v' w' hr hgr => by
    obtain ⟨G, cap, rfl, h1, h2, h3⟩ := hrow hr
    have hbl := below_grown hgr
    exact h G cap w' ⟨hbl.mono (Nat.zero_le _), fun x hx _ => hbl.block x hx, h3, (nm_of_own hown hq).below hbl, h2, .inr h1⟩
  rcases hown.2 with ⟨hv, hq0⟩ | ⟨g0, cap0, cur, hv, hb0, hgc, hnc, hcm, hcs, htk⟩
  · injection hv with e1 _ e3
    subst e1 e3 hq0
    obtain rfl : n = [] := List.eq_nil_of_length_eq_zero hnl
    refine wpList_append_own_at (P := P) w hgd s x t ho w.heap.size e i z 1 16 ht hi hz hs1 hby hzc (by omega) _ 0 [] hs (World.ownsRow_nil _ _ _ _) _ 1 1 [.string y] hx rfl hnews (fun u hu => by simp at hu; subst hu; rfl) (by unfold maxLen; omega) (by omega) (Nat.le_refl _) ?_
    intro v' w' ho' hgr _ _
    exact hfresh v' w' (by simpa using ho') hgr
  · injection hv with e1 _ e3
    subst e1 e3
    have hlt0 : g0 < w.heap.size := (Array.getElem?_eq_some_iff.1 hgc).1
    refine wpList_append_arg w hgd s x t ho e i z 1 16 ht hi hz hs1 hby hzc (by omega) g0 0 q d (n.map Value.string) hs (by simp [hnl]) (fun j u hu => ?_) _ 1 1 [.string y] hx rfl hnews (fun u hu => by simp at hu; subst hu; rfl) (fun hr j hj => ?_) (by unfold maxLen; omega) (by omega) (fun hr => ?_) (fun hr v' w' ho' hgr => hfresh v' w' ho' hgr)
    · have hj := (List.getElem?_eq_some_iff.1 hu).1
      rw [List.length_map, hnl] at hj
      rw [← htk, List.getElem?_take, if_pos (by omega)] at hu
      simp only [World.cell?, hgc]
      rw [Nat.zero_add]
      simpa using hu
    · have hj0 : j = 0 := by simpa using hj
      subst hj0
      refine ⟨?_, by simp [World.frozen?, hgc]⟩
      simp only [World.cell?, hgc]
      simp
      omega
    · have hset : w.setCells g0 (0 + q * 1) [.string y] = w.setCell ⟨g0, q, none⟩ (.string y) := by simp [World.setCells]
      rw [hset]
      have hcell : ∃ u, w.cell? ⟨g0, q, none⟩ = some u := by
        simp only [World.cell?, hgc]
        exact ⟨cur[q]'(by omega), by simp⟩
      obtain ⟨u, hu⟩ := hcell
      have hold := nm_of_own hown hq
      have hrd : ∀ (i : Nat) (s : ByteArray), n[i]? = some s → w.cell? ⟨g0, i, none⟩ = some (.string s) := fun i s hi => by
        have hil := (List.getElem?_eq_some_iff.1 hi).1
        obtain ⟨g1, o1, e1, hc⟩ := hold.row (by omega)
        injection e1 with e1
        injection e1 with e1 e2
        subst e1 e2
        have := hc i s hi
        rwa [Nat.zero_add] at this
      refine h g0 d _ ⟨(Below.refl 0 w).setCell (Nat.zero_le _) _, fun x hx hne => Below.heap_setCell _ _ _ _ (fun e => hne (by rw [e]; rfl)), fun i s hi => ?_, ⟨hold.len, hold.le, hold.max, hold.nil, hold.small, fun hm => ⟨g0, 0, rfl, fun i s hi => ?_⟩⟩, by rw [World.size_setCell]; exact hlt0, .inl rfl⟩
      · by_cases hiq : i = q
        · subst hiq
          rw [List.getElem?_append_right (by omega), hnl, Nat.sub_self] at hi
          simp at hi
          subst hi
          exact cs_same _ hu
        · have hil := (List.getElem?_eq_some_iff.1 hi).1
          rw [List.length_append, hnl] at hil
          simp at hil
          rw [List.getElem?_append_left (by omega)] at hi
          exact (cs_other _ (fun e => hiq e.symm)).trans (hrd i s hi)
      · have hil := (List.getElem?_eq_some_iff.1 hi).1
        rw [Nat.zero_add]
        exact (cs_other _ (by omega)).trans (hrd i s hi)
theorem own_up {w w' : World} {B : Nat} {e : TypeId} {s : Nat} {v : Value} {n : Nat} {xs : List Value} (h : w.ownsRow B e s v n xs) (hb : Below w.heap.size w w') : w'.ownsRow B e s v n xs :=
  h.kept (⟨hb.os, hb.tape, hb.output, hb.size, fun k hk _ => hb.block k hk⟩ : w.grownBy w' none) (by cases v.ownBlock <;> simp)
def zeroT : Tr := .mk 0 false ⟨#[]⟩ [] []
/-- what Get answers, said the same way whether there is one or none -/
def GtR (t : Tr) (o : Bool) (w : World) (e : Ending) (w' : World) : Prop := ∃ A m c B q d, e = .returned (.tuple #[.agg #[.int .i64 t.kind, .bool t.isB, .string t.text, .slice A m c, .slice B q d], .bool o]) ∧ Below w.heap.size w w' ∧
  OV 25 9 w' (fun x => w.heap.size ≤ x ∧ x < w'.heap.size) (.agg #[.int .i64 t.kind, .bool t.isB, .string t.text, .slice A m c, .slice B q d]) t
theorem ov_zero {e es : TypeId} {w : World} {S : Nat → Prop} : OV e es w S (.agg #[.int .i64 0, .bool false, .string ⟨#[]⟩, .slice none 0 0, .slice none 0 0]) zeroT :=
  OV.mk 1 0 #[] #[] (fun _ => .nilIface) (fun _ _ => False) ⟨by omega, by omega⟩ (by decide) rfl (Nat.le_refl _) (Nat.zero_le _) (fun _ => rfl) (by omega) (fun g => absurd rfl g) (fun i hi => absurd hi (Nat.not_lt_zero i)) (fun i t ht => by cases ht) (fun i hi => absurd hi (Nat.not_lt_zero i)) (fun i j _ hj => absurd hj (Nat.not_lt_zero j)) (Nm.none_ w) (fun g => absurd rfl g)
theorem gtQ {r : Option Tr} {w : World} {e : Ending} {w' : World} (h : GtP r w e w') : GtR (r.getD zeroT) r.isSome w e w' := by
  obtain ⟨hb, h⟩ := h
  cases r with
  | none => exact ⟨none, 0, 0, none, 0, 0, h, hb, ov_zero⟩
  | some t =>
    obtain ⟨A, m, c, B, q, d, h1, h2⟩ := h
    exact ⟨A, m, c, B, q, d, h1, hb, h2⟩
/-- what Make answers, said the same way whether it makes a value or not -/
def MkR (t : Tr) (o : Int) (w : World) (e : Ending) (w' : World) : Prop := ∃ A m c B q d, e = .returned (.tuple #[.agg #[.int .i64 t.kind, .bool t.isB, .string t.text, .slice A m c, .slice B q d], .int .i64 o]) ∧ Below w.heap.size w w' ∧
  OV 25 9 w' (fun x => w.heap.size ≤ x ∧ x < w'.heap.size) (.agg #[.int .i64 t.kind, .bool t.isB, .string t.text, .slice A m c, .slice B q d]) t
def mkT (l : List Tr) (n : List ByteArray) : Tr := if n.length = l.length then .mk 5 false ⟨#[]⟩ l n else zeroT
def mkE (l : List Tr) (n : List ByteArray) : Int := if n.length = l.length then 0 else 2
theorem mkR {l : List Tr} {n : List ByteArray} {w : World} {e : Ending} {w' : World} (h : MkP l n w e w') : MkR (mkT l n) (mkE l n) w e w' := by
  obtain ⟨hb, h⟩ := h
  unfold mkT mkE
  by_cases he : n.length = l.length
  · rw [if_pos he] at h
    obtain ⟨A, m, c, B, q, d, h1, h2⟩ := h
    rw [if_pos he, if_pos he]
    exact ⟨A, m, c, B, q, d, h1, hb, h2⟩
  · rw [if_neg he] at h
    rw [if_neg he, if_neg he]
    exact ⟨none, 0, 0, none, 0, 0, h, hb, ov_zero⟩
/-- what List answers -/
def LsP (l : List Tr) (w : World) (e : Ending) (w' : World) : Prop := ∃ A m c B q d, e = .returned (.agg #[.int .i64 4, .bool false, .string ⟨#[]⟩, .slice A m c, .slice B q d]) ∧ Below w.heap.size w w' ∧
  OV 25 9 w' (fun x => w.heap.size ≤ x ∧ x < w'.heap.size) (.agg #[.int .i64 4, .bool false, .string ⟨#[]⟩, .slice A m c, .slice B q d]) (.mk 4 false ⟨#[]⟩ l [])
theorem lsP {l : List Tr} {w : World} {e : Ending} {w' : World} (h : CpP (.mk 4 false ⟨#[]⟩ l []) w e w') : LsP l w e w' := h
theorem sm_zero : Sm zeroT := Sm.mk (fun x hx => by cases hx) (fun x hx => by cases hx)
theorem gt_mem {n : List ByteArray} {l : List Tr} {s : ByteArray} {x : Tr} : ∀ {i : Nat}, gt n l s i = some x → x ∈ l
  | 0, h => by cases h
  | i + 1, h => by
    rw [gt_succ] at h
    split at h
    · exact List.mem_of_getElem? h
    · exact gt_mem h
theorem sm_get {t : Tr} (h : Sm t) (s : ByteArray) : Sm ((getT t s).getD zeroT) := by
  cases hg : getT t s with
  | none => exact sm_zero
  | some x =>
    unfold getT at hg
    split at hg
    · exact h.list x (gt_mem hg)
    · cases hg
theorem sm_make {l : List Tr} {n : List ByteArray} (hl : ∀ x ∈ l, Sm x) (hn : ∀ x ∈ n, x.size ≤ 140737488351232) : Sm (mkT l n) := by
  unfold mkT
  split
  · exact Sm.mk hn hl
  · exact sm_zero
end Vt
end Go.Proofs.YtlgeibaejeiemaaDoor
