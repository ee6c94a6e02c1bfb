/-
  A region that draws its order and holds a call, and an append of one value onto a row of the call's own, where all that may come up is one operation. Nothing of the program is named here.
-/
import Derived.Test.YtigiiofiajhnlaaGreatDoorFp
import Derived.Test.YtigiiofiajhnlaaGreatDoorWh
namespace Go.Proofs.YtigiiofiajhnlaaGreatDoor.Wd
set_option linter.unusedVariables false
open Go.RowKit

section
variable {P : Program} {ops : Array Oper} {Q : Exit → Act → World → Prop} {md : Region.Mode} {S : World → Prop} {held : List Nat}
/-- number i calls a function -/
theorem any_callD (i : Nat) (d : Tmp) {o : Oper} {f : Nat} {L : Array Bool} {a : Act} {w : World} (hr : Region.ready md ops L = [i]) (ho : ops[i]? = some o) (hd : o.dst = some d) (hw : Region.wanted o (yielded ops a.tmps) = true)
    {fn : FuncId} {args : Array Value} (hrun : (execOp a.eval o).run P w = .ok (.enter fn args) w) {R : Ending → World → Prop} (hc : Calls P fn args w R)
    (h : ∀ e w', R e w' → ∃ v, e = .returned v ∧ (Late md ops held i ∨ S w') ∧ anyG P md ops Q S held f (L.setIfInBounds i true) (a.put (some d) v) w') : anyG P md ops Q S held (f + 1) L a w := by
  refine any_one i hr ho hw fun K' hK => ?_
  unfold Oper.wp
  rw [hrun, Oper.upon_enter]
  refine hc.mono ?_
  intro e w' he
  obtain ⟨v, rfl, h1, h2⟩ := h e w' he
  show K' (a.put o.dst v) w'
  rw [hd]; exact hK _ _ h1 h2
/-- number i appends to a row of the call's own, up to more bytes -/
theorem any_appW (i : Nat) (d : Tmp) {o : Oper} {f : Nat} {L : Array Bool} {a : Act} {w : World} (hr : Region.ready md ops L = [i]) (ho : ops[i]? = some o) (hd : o.dst = some d) (hw : Region.wanted o (yielded ops a.tmps) = true)
    (s x : Operand) (t : TypeId) (hop : o.op = Op.call { callee := Callee.builtin Builtin.append, args := #[s, x], argTypes := #[t, t] })
    (base : Nat) (e : TypeId) (ti : TypeInfo) (z : Value) (bytes : Nat) (h1 : P.underlying t = some (.slice e)) (h2 : P.info? e = some ti) (h3 : ti.zero = some z) (h4 : ti.size = 1) (h5 : ti.bytes = bytes) (h6 : z.cells.size = 1)
    (v : Value) (k : Nat) (xs : List Value) (hs : a.eval s = v) (hown : w.ownsRow base e 1 v k xs) (ad : Addr) (m c : Nat) (news : List Value) (hx : a.eval x = .slice (some ad) m c) (hn : news.length = m)
    (hc : ∀ j u, news[j]? = some u → w.cell? (ad.add j) = some u) (h1c : ∀ u ∈ news, u.oneCell' = true) (b1 : k + m ≤ maxLen) (b2 : ((k + m) + (k + m) / 4 + 192) * bytes ≤ 281474976710656) (b3 : base ≤ w.heap.size)
    (h : ∀ v' w', w'.ownsRow base e 1 v' (k + m) (xs ++ news) → w.grownBy w' v.ownBlock → (v'.ownBlock = v.ownBlock ∨ ∃ g, v'.ownBlock = some g ∧ w.heap.size ≤ g) → (Late md ops held i ∨ S w') ∧ anyG P md ops Q S held f (L.setIfInBounds i true) (a.put (some d) v') w') : anyG P md ops Q S held (f + 1) L a w := by
  obtain ⟨v', w', hrun, r1, r2, r3⟩ := run_own_at (P := P) w base t o.type e ti z bytes h1 h2 h3 h4 h5 h6 v k xs hown ad m c news hn hc h1c b1 b2 b3
  refine any_one i hr ho hw fun K' hK => ?_
  have := h v' w' r1 r2 r3
  unfold Oper.wp
  simp [execOp, hop, resolve, invoke, builtin, hs, hx, hrun, Result.andThen]
  rw [Oper.upon_value, hd]
  exact hK _ _ this.1 this.2
end

theorem boxed_below {w w' : World} {B : Nat} {t : TypeId} {v : Value} (h : Boxed w B t v) (hb : Below w.heap.size w w') : Boxed w' B t v := (hb.block _ h.lt).trans h
/-- an append onto a row of the call's own: what is no cells stays -/
theorem keeps_grown {w w' : World} {B : Nat} {e : TypeId} {size : Nat} {v : Value} {m : Nat} {xs : List Value} (h : w.ownsRow B e size v m xs) (hg : w.grownBy w' v.ownBlock) : KeepsOthers w w' :=
  KeepsOthers.of_grownBy hg fun j o ej hj => by
    rcases h.2 with ⟨rfl, _⟩ | ⟨g, cap, cur, rfl, _, hgb, _⟩
    · simp [Value.ownBlock] at ej
    · obtain rfl : g = j := by simpa [Value.ownBlock] using ej
      rw [hgb] at hj; cases hj; rfl
/-- slices of the call's own behind slices of the call's own -/
theorem ol_apps {t e : TypeId} {X : Nat → Prop} {w w' : World} {B : Nat} {v v' : Value} {ls ms : List (List Int)} {vs us : List Value} (hte : t ≠ e) (hrow : w.ownsRow B t 1 v ls.length vs)
    (he : ∀ (i : Nat) (l : List Int), ls[i]? = some l → ∃ x, vs[i]? = some x ∧ Own .u8 e w B x l ∧ ∀ g, x.ownBlock = some g → X g)
    (hu : ∀ (i : Nat) (l : List Int), ms[i]? = some l → ∃ x, us[i]? = some x ∧ Own .u8 e w B x l ∧ ∀ g, x.ownBlock = some g → X g)
    (hrow' : w'.ownsRow B t 1 v' (ls ++ ms).length (vs ++ us)) (hg : w.grownBy w' v.ownBlock) : OL t e w' B X v' (ls ++ ms) := by
  have hk : ∀ {x : Value} {l : List Int}, Own .u8 e w B x l → Own .u8 e w' B x l := fun {x l} h =>
    h.stay (S := fun k => v.ownBlock = some k) (Stay.grown hg (fun k e => e)) (fun g hg' c => row_ne hrow h hte g c hg')
  have hlen : vs.length = ls.length := by have := hrow.1; omega
  refine ⟨vs ++ us, hrow', fun i l hi => ?_⟩
  by_cases h : i < ls.length
  · rw [List.getElem?_append_left h] at hi
    obtain ⟨x, h1, h2, h3⟩ := he i l hi
    exact ⟨x, by rw [List.getElem?_append_left (by omega)]; exact h1, hk h2, h3⟩
  · rw [List.getElem?_append_right (by omega)] at hi
    obtain ⟨x, h1, h2, h3⟩ := hu _ l hi
    exact ⟨x, by rw [List.getElem?_append_right (by omega), hlen]; exact h1, hk h2, h3⟩
theorem one_at {e : TypeId} {X : Nat → Prop} {w : World} {B : Nat} {u : Value} {k : List Int} (h : Own .u8 e w B u k) (hx : ∀ g, u.ownBlock = some g → X g) : ∀ (i : Nat) (l : List Int), [k][i]? = some l → ∃ x, [u][i]? = some x ∧ Own .u8 e w B x l ∧ ∀ g, x.ownBlock = some g → X g := by
  intro i l hi
  rcases i with _ | i
  · simp at hi; subst hi; exact ⟨u, rfl, h, hx⟩
  · simp at hi
end Go.Proofs.YtigiiofiajhnlaaGreatDoor.Wd
