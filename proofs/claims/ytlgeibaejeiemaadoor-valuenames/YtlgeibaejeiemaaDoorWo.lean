/-
  Words of memory, more: a slice that is whole (length, capacity); a slice of the call's own; append onto it from any source. Nothing of the program is named here.
-/
import Derived.Test.YtlgeibaejeiemaaDoorWd
import Derived.Laws.AppendOwnNone
import Derived.OwnWalk
import Derived.Maps.AppendAt
import Derived.Deep.OwnRows
namespace Go.Proofs.YtlgeibaejeiemaaDoor.Wd
set_option linter.unusedVariables false
open Go.RowKit

/-- '.slice A n c' is a slice as Go has them, and holds the numbers l -/
structure Sl (k : IntKind) (w : World) (A : Option Addr) (n c : Nat) (l : List Int) : Prop where
  row : Row k w A n l
  le : n ≤ c
  max : c ≤ maxLen
  nil : A = none → c = 0

section
variable {k : IntKind} {w w' : World} {A : Option Addr} {n c : Nat} {l : List Int}
theorem Sl.len (h : Sl k w A n c l) : l.length = n := h.row.1
theorem Sl.below (h : Sl k w A n c l) (hb : Below w.heap.size w w') : Sl k w' A n c l := ⟨h.row.below hb, h.le, h.max, h.nil⟩
theorem Sl.drewN (h : Sl k w A n c l) (m : Nat) : Sl k (w.drewN m) A n c l := ⟨h.row.drewN m, h.le, h.max, h.nil⟩
theorem Sl.drew (h : Sl k w A n c l) : Sl k w.drew A n c l := ⟨h.row.drew, h.le, h.max, h.nil⟩
theorem Sl.alloc (h : Sl k w A n c l) (o : Obj) : Sl k (w.alloc o) A n c l := ⟨h.row.alloc o, h.le, h.max, h.nil⟩
theorem Sl.none_ : Sl k w none 0 0 [] := ⟨Row.nil, Nat.le_refl _, Nat.zero_le _, fun _ => rfl⟩
theorem Sl.new (w : World) (l : List Int) (t : TypeId) (k : IntKind) (h : l.length ≤ maxLen) : Sl k (w.alloc (.cells (l.map (Value.int k)).toArray t)) (some ⟨w.heap.size, 0, none⟩) l.length l.length l :=
  ⟨Row.new w l t k, Nat.le_refl _, h, fun e => by cases e⟩
theorem Sl.newAt (w : World) (l : List Int) (t : TypeId) (k : IntKind) (h : l.length ≤ maxLen) {B : Nat} (hB : w.heap.size = B) : Sl k (w.alloc (.cells (l.map (Value.int k)).toArray t)) (some ⟨B, 0, none⟩) l.length l.length l := by
  subst hB; exact Sl.new w l t k h
theorem Sl.cut0 (h : Sl k w A n c l) (m : Nat) (hm : m ≤ n) : Sl k w A m c (l.take m) := ⟨h.row.cut0 m hm, Nat.le_trans hm h.le, h.max, h.nil⟩
end

theorem Row.cutS {k : IntKind} {w : World} {b off n : Nat} {l : List Int} (h : Row k w (some ⟨b, off, none⟩) n l) (i m : Nat) (hm : i + m ≤ n) : Row k w (some ⟨b, off + i, none⟩) m ((l.drop i).take m) := by
  have := h.cut i m hm
  by_cases h0 : i = 0
  · subst h0; simpa [Addr.add] using this
  · simpa [Addr.add, h0] using this
theorem Sl.cutS {k : IntKind} {w : World} {b off n c : Nat} {l : List Int} (h : Sl k w (some ⟨b, off, none⟩) n c l) (i m : Nat) (hm : i + m ≤ n) : Sl k w (some ⟨b, off + i, none⟩) m (c - i) ((l.drop i).take m) :=
  ⟨h.row.cutS i m hm, by have := h.le; omega, by have := h.max; omega, fun e => by cases e⟩

/-- a store into another block -/
theorem Row.keepFar {k : IntKind} {w : World} {g off n : Nat} {l : List Int} (h : Row k w (some ⟨g, off, none⟩) n l) (p : Addr) (u : Value) (hp : p.block ≠ g) : Row k (w.setCell p u) (some ⟨g, off, none⟩) n l := by
  refine ⟨h.1, fun hn => ?_⟩
  obtain ⟨b, o, e, hc⟩ := h.2 hn
  refine ⟨b, o, e, fun j x hx => ?_⟩
  injection e with e
  injection e with e1 e2
  subst e1
  exact (World.cell?_setCell_other w p ⟨g, o + j, none⟩ u (fun e => hp (by rw [e]))).trans (hc j x hx)

theorem below_drewN {B : Nat} {a w : World} (h : Below B a w) (m : Nat) : Below B a (w.drewN m) := ⟨h.os, h.tape, h.output, h.size, h.block⟩

/-- the slice value v is the call's own, in a block from B on, and holds the numbers l -/
def Own (k : IntKind) (e : TypeId) (w : World) (B : Nat) (v : Value) (l : List Int) : Prop := w.ownsRow B e 1 v l.length (l.map (Value.int k))

section
variable {k : IntKind} {e : TypeId} {w w' : World} {B : Nat} {v : Value} {l : List Int}
theorem Own.nil : Own k e w B (.slice none 0 0) [] := World.ownsRow_nil w B e 1
theorem Own.sl (h : Own k e w B v l) : ∃ A c, v = .slice A l.length c ∧ Sl k w A l.length c l ∧ (∀ x, A = some x → B ≤ x.block) := by
  rcases h.2 with ⟨rfl, h0⟩ | ⟨g, cap, cur, rfl, hg, hh, hn, hm, hs, ht⟩
  · obtain rfl : l = [] := List.eq_nil_of_length_eq_zero h0
    exact ⟨none, 0, rfl, Sl.none_, fun x hx => by cases hx⟩
  · refine ⟨_, cap, rfl, ⟨⟨rfl, fun _ => ⟨g, 0, rfl, fun j x hx => ?_⟩⟩, hn, hm, fun e => by cases e⟩, fun x hx => by injection hx with hx; subst hx; exact hg⟩
    rw [Nat.zero_add, cell_of_row _ _ _ _ _ _ hh]
    have h1 : (l.map (Value.int k))[j]? = some (.int k x) := by simp [hx]
    rw [← ht, List.getElem?_take] at h1
    split at h1
    · simpa using h1
    · cases h1
theorem Own.below (h : Own k e w B v l) {B' : Nat} (hb : Below B' w w') (hB : ∀ g, v.ownBlock = some g → g < B') : Own k e w' B v l := by
  refine ⟨h.1, ?_⟩
  rcases h.2 with g | ⟨g, cap, cur, rfl, hg, hh, r⟩
  · exact .inl g
  · exact .inr ⟨g, cap, cur, rfl, hg, (hb.block g (hB g rfl)).trans hh, r⟩
theorem Own.lt (h : Own k e w B v l) {g : Nat} (hg : v.ownBlock = some g) : B ≤ g ∧ g < w.heap.size := World.ownsRow.lt h g hg
theorem Own.mono (h : Own k e w B v l) {B' : Nat} (hB : B' ≤ B) : Own k e w B' v l := by
  refine ⟨h.1, ?_⟩
  rcases h.2 with g | ⟨g, cap, cur, rfl, hg, r⟩
  · exact .inl g
  · exact .inr ⟨g, cap, cur, rfl, Nat.le_trans hB hg, r⟩
end

theorem Own.new (w : World) (l : List Int) (e : TypeId) (k : IntKind) (h : l.length ≤ maxLen) {B : Nat} (hB : B ≤ w.heap.size) : Own k e (w.alloc (.cells (l.map (Value.int k)).toArray e)) B (.slice (some ⟨w.heap.size, 0, none⟩) l.length l.length) l :=
  ⟨by simp, .inr ⟨w.heap.size, l.length, _, rfl, hB, heap_alloc_new w _, Nat.le_refl _, h, by simp, List.take_of_length_le (by simp)⟩⟩
/-- a slice, cut at some length -/
theorem Sl.most {k : IntKind} {w : World} {A : Option Addr} {n c : Nat} {l : List Int} (h : Sl k w A n c l) (z : Nat) : ∃ m, Sl k w A m c (l.take z) ∧ m ≤ z ∧ m ≤ n ∧ ((n ≤ z ∧ m = n) ∨ (z < n ∧ m = z)) := by
  by_cases g : n ≤ z
  · exact ⟨n, by rw [List.take_of_length_le (by rw [h.len]; omega)]; exact h, by omega, by omega, .inl ⟨g, rfl⟩⟩
  · exact ⟨z, h.cut0 z (by omega), by omega, by omega, .inr ⟨by omega, rfl⟩⟩

/-- append(v, x...): v the call's own, x whatever slice -/
theorem wp_app_at {P : Program} {w : World} {ops : Array Oper} {rest : List Oper} {o : Oper} {a : Act} {Q : Exit → Act → World → Prop} (hgd : o.guard = none) (s x : Operand) (t : TypeId)
    (ho : o.op = .call { callee := .builtin .append, args := #[s, x], argTypes := #[t, t] })
    (B : Nat) {e : TypeId} {i : TypeInfo} {z : Value} {wide : Nat} (ht : P.underlying t = some (.slice e)) (hi : P.info? e = some i) (hz : i.zero = some z) (hs1 : i.size = 1) (hby : i.bytes = wide) (hzc : z.cells.size = 1)
    {k : IntKind} {v : Value} {l : List Int} (hs : a.eval s = v) (hown : Own k e w B v l) {A : Option Addr} {m c : Nat} {r : List Int} (hx : a.eval x = .slice A m c) (hr : Sl k w A m c r)
    (hlen : (l.length + m) * wide ≤ 140737488355328) (hmax : l.length + m ≤ maxLen) (hB : B ≤ w.heap.size)
    (h : ∀ v' w', Own k e w' B v' (l ++ r) → Below B w w' → w.grownBy w' v.ownBlock → (v'.ownBlock = v.ownBlock ∨ v'.ownBlock = some w.heap.size) → wpList P ops Q rest (a.put o.dst v') w') : wpList P ops Q (o :: rest) a w := by
  have hl : r.length = m := hr.row.1
  rcases A with _ | ad
  · have hc := hr.nil rfl
    subst hc
    have hm : m = 0 := by have := hr.le; omega
    subst hm
    obtain rfl : r = [] := List.eq_nil_of_length_eq_zero hl
    refine wpList_append_own_none hgd s x t ho B e i 1 ht hi v l.length _ hs hown hx (h v w ?_ (Below.refl _ _) ⟨rfl, rfl, rfl, Nat.le_refl _, fun _ _ _ => rfl⟩ (.inl rfl))
    simpa using hown
  · refine wpList_append_own_at (P := P) w hgd s x t ho B e i z 1 wide ht hi hz hs1 hby hzc (by omega) v l.length (l.map (Value.int k)) hs hown ad m c (r.map (Value.int k)) hx (by simp [hl]) ?_ ?_ hmax hlen hB ?_
    · intro j u hu
      have hne : r ≠ [] := by rintro rfl; simp at hu
      obtain ⟨b, off, e', hcell⟩ := hr.row.2 hne
      injection e' with e'
      subst e'
      rw [List.getElem?_map] at hu
      cases hj : r[j]? with
      | none => rw [hj] at hu; cases hu
      | some y =>
        rw [hj] at hu
        injection hu with hu
        subst hu
        have := hcell j y hj
        by_cases h0 : j = 0
        · subst h0; simpa [Addr.add] using this
        · simpa [Addr.add, h0] using this
    · intro u hu
      obtain ⟨y, _, rfl⟩ := List.mem_map.1 hu
      rfl
    · intro v' w' ho' hg _ hat
      refine h v' w' ?_ ((Below.refl _ _).grown hg hB (fun g hg' => (hown.lt hg').1)) hg hat
      have : (l.map (Value.int k) ++ r.map (Value.int k)) = (l ++ r).map (Value.int k) := by simp
      rw [this] at ho'
      have h2 : l.length + m = (l ++ r).length := by simp [hl]
      rw [h2] at ho'
      exact ho'

theorem wp_app {P : Program} {w : World} {ops : Array Oper} {rest : List Oper} {o : Oper} {a : Act} {Q : Exit → Act → World → Prop} (hgd : o.guard = none) (s x : Operand) (t : TypeId)
    (ho : o.op = .call { callee := .builtin .append, args := #[s, x], argTypes := #[t, t] })
    (B : Nat) {e : TypeId} {i : TypeInfo} {z : Value} {wide : Nat} (ht : P.underlying t = some (.slice e)) (hi : P.info? e = some i) (hz : i.zero = some z) (hs1 : i.size = 1) (hby : i.bytes = wide) (hzc : z.cells.size = 1)
    {k : IntKind} {v : Value} {l : List Int} (hs : a.eval s = v) (hown : Own k e w B v l) {A : Option Addr} {m c : Nat} {r : List Int} (hx : a.eval x = .slice A m c) (hr : Sl k w A m c r)
    (hlen : (l.length + m) * wide ≤ 140737488355328) (hmax : l.length + m ≤ maxLen) (hB : B ≤ w.heap.size)
    (h : ∀ v' w', Own k e w' B v' (l ++ r) → Below B w w' → w.grownBy w' v.ownBlock → wpList P ops Q rest (a.put o.dst v') w') : wpList P ops Q (o :: rest) a w :=
  wp_app_at hgd s x t ho B ht hi hz hs1 hby hzc hs hown hx hr hlen hmax hB fun v' w' h1 h2 h3 _ => h v' w' h1 h2 h3
/-- what is the call's own stays, where another row is appended to -/
theorem Own.kept {k : IntKind} {e : TypeId} {w w' : World} {B : Nat} {v : Value} {l : List Int} {row : Option Nat} (h : Own k e w B v l) (hg : w.grownBy w' row) (hne : v.ownBlock ≠ row) : Own k e w' B v l :=
  World.ownsRow.kept h hg (.inr hne)
end Go.Proofs.YtlgeibaejeiemaaDoor.Wd
