/-
  For the walk of LinesAll: what lies in its memory.
-/
import Derived.Test.YtlicfeepmhaemaaRd
import Derived.Test.YtlicfeepmhaemaaLy
import Derived.Test.YtlicfeepmhaemaaWh
import Derived.Test.YtlicfeepmhaemaaWp
namespace Go.Proofs.Ytlicfeepmhaemaa
set_option linter.unusedVariables false
set_option linter.unusedSimpArgs false
open Go.RowKit Go.ChangeShapes Go.WideShapes Go.Shelf
open Utf Wd Wr We Wi Lm Lc
namespace Lc

theorem Sp.cell_at {W : World} {B g m cap : Nat} {L : List (Nat × Nat)} (h : Sp W B (.slice (some ⟨g, 0, none⟩) m cap) L) {j : Nat} {x : Nat × Nat} (hx : L[j]? = some x) : W.cell? ⟨g, j * 2, none⟩ = some (.int .i64 (x.1 : Int)) ∧ W.cell? ⟨g, j * 2 + 1, none⟩ = some (.int .i64 (x.2 : Int)) := by
  obtain ⟨g', cap', e, _, _, _, _, h5⟩ := h.rd (by have := lt_of_some hx; omega)
  cases e
  exact h5 j x hx

/-- what the law's memory holds: where to stop, the answer; the index; the document's index, and where it lies -/
structure AB (w : World) (b : List Int) (st : Int) (B P X Yb : Nat) (vi vw vp : Value) (W : World) : Prop where
  bP : Boxed W P 55 vi
  hg : ∀ g, vi.ownBlock = some g → g < W.heap.size
  bS : Boxed W w.heap.size 3 (.int .i64 st)
  bR : Boxed W (w.heap.size + 1) 4 (.bool false)
  idx : Idx W B P (lns b)
  bi : Bi W B X vw vp (whs b) (lns b)
  bY : Boxed W Yb 28 (.pointer (some ⟨X, 0, none⟩))
  lo : B ≤ Yb
  bB : Below w.heap.size w W
section
variable {w W W' : World} {b : List Int} {st : Int} {B P X Yb : Nat} {vi vw vp : Value}
theorem AB.ext (h : AB w b st B P X Yb vi vw vp W) (hb : Below W.heap.size W W') : AB w b st B P X Yb vi vw vp W' :=
  ⟨(hb.block _ h.bP.lt).trans h.bP, fun g e => Nat.lt_of_lt_of_le (h.hg g e) hb.size, (hb.block _ h.bS.lt).trans h.bS, (hb.block _ h.bR.lt).trans h.bR, h.idx.ext hb, h.bi.ext hb, (hb.block _ h.bY.lt).trans h.bY, h.lo, ext_trans h.bB hb⟩
theorem AB.alloc (h : AB w b st B P X Yb vi vw vp W) (o : Obj) : AB w b st B P X Yb vi vw vp (W.alloc o) := h.ext (below_alloc W o)
theorem AB.drewN (h : AB w b st B P X Yb vi vw vp W) (q : Nat) : AB w b st B P X Yb vi vw vp (W.drewN q) := h.ext (below_drewN (Below.refl _ W) q)
theorem Bi.mono {Lw Lp : List (Nat × Nat)} {B' : Nat} (h : Bi W B X vw vp Lw Lp) (hB : B' ≤ B) : Bi W B' X vw vp Lw Lp := by
  have hm : ∀ {v L}, Sp W B v L → Sp W B' v L := fun {v L} hs => by
    refine ⟨hs.1, ?_⟩
    rcases hs.2 with h0 | ⟨g, cap, cur, h2, h3, h4⟩
    · exact .inl h0
    · exact .inr ⟨g, cap, cur, h2, Nat.le_trans hB h3, h4⟩
  exact ⟨h.two, hm h.rw_, hm h.rp, h.ap, Nat.le_trans hB h.lo⟩
/-- another block below B changes -/
theorem AB.other {row : Nat} (h : AB w b st B P X Yb vi vw vp W) (hg : W.grownBy W' (some row)) (h1 : row < B) (h2 : w.heap.size + 1 < row) : AB w b st B P X Yb vi vw vp W' := by
  have hlo := h.lo
  have hX := h.bi.lo
  have hP := h.idx.1
  have hne : ∀ g, B ≤ g → some g ≠ some row := fun g hg' e => by cases e; omega
  have hown : ∀ {v L}, Sp W B v L → (v.ownBlock = none ∨ v.ownBlock ≠ some row) := fun {v L} hs => by
    cases ho : v.ownBlock with
    | none => exact .inl rfl
    | some g => exact .inr (hne g (hs.lt ho).1)
  obtain ⟨h3, v, hv, hr⟩ := h.idx
  refine ⟨h.bP.kept hg (hne P hP), fun g e => Nat.lt_of_lt_of_le (h.hg g e) hg.size, h.bS.kept hg (fun e => by cases e; omega), h.bR.kept hg (fun e => by cases e; omega), ⟨h3, v, hv.kept hg (hne P hP), Sp.kept hr hg (hown hr)⟩, ⟨h.bi.two.kept hg (hne X hX), h.bi.rw_.kept hg (hown h.bi.rw_), h.bi.rp.kept hg (hown h.bi.rp), h.bi.ap, h.bi.lo⟩, h.bY.kept hg (hne Yb hlo), h.lo, h.bB.grown hg h.bB.size (fun k e => by cases e; omega)⟩
/-- where to stop is laid anew -/
theorem AB.setS (h : AB w b st B P X Yb vi vw vp W) (hB : w.heap.size < B) (st' : Int) : AB w b st' B P X Yb vi vw vp (W.setCell ⟨w.heap.size, 0, none⟩ (.int .i64 st')) := by
  have hg := grownBy_setCell' W w.heap.size (.int .i64 st')
  have hlo := h.lo
  have hX := h.bi.lo
  have hP := h.idx.1
  have hne : ∀ g, B ≤ g → some g ≠ some w.heap.size := fun g hg' e => by cases e; omega
  have hown : ∀ {v L}, Sp W B v L → (v.ownBlock = none ∨ v.ownBlock ≠ some w.heap.size) := fun {v L} hs => by
    cases ho : v.ownBlock with
    | none => exact .inl rfl
    | some g => exact .inr (hne g (hs.lt ho).1)
  obtain ⟨h3, v, hv, hr⟩ := h.idx
  exact ⟨h.bP.kept hg (hne P hP), fun g e => Nat.lt_of_lt_of_le (h.hg g e) hg.size, h.bS.set _, h.bR.kept hg (fun e => by injection e with e; omega), ⟨h3, v, hv.kept hg (hne P hP), Sp.kept hr hg (hown hr)⟩, ⟨h.bi.two.kept hg (hne X hX), h.bi.rw_.kept hg (hown h.bi.rw_), h.bi.rp.kept hg (hown h.bi.rp), h.bi.ap, h.bi.lo⟩, h.bY.kept hg (hne Yb hlo), h.lo, h.bB.setCell (p := ⟨w.heap.size, 0, none⟩) (Nat.le_refl _) _⟩
/-- a block from B' on that is no cells changes: for a loop over a function -/
theorem AB.own {β : Type} {B' : Nat} (hB : w.heap.size ≤ B') : OwnFrom B' (fun (_ : β) W => AB w b st B P X Yb vi vw vp W) := by
  rintro pre X' Y' row h hg hr
  have cell : ∀ {k : Nat} {c : Array Value} {t : TypeId} {f : Nat × Nat}, X'.heap[k]? = some (.cells c t f) → some k ≠ row := fun {k c t f} hk e => by
    obtain ⟨_, o, ho, hc⟩ := hr k e.symm
    rw [hk] at ho
    cases ho; cases hc
  have hown : ∀ {v L}, Sp X' B v L → (v.ownBlock = none ∨ v.ownBlock ≠ row) := fun {v L} hs => by
    rcases hs.2 with ⟨rfl, _⟩ | ⟨g, cap, cur, rfl, _, hgb, _⟩
    · exact .inl rfl
    · exact .inr (cell hgb)
  obtain ⟨h3, v, hv, hr'⟩ := h.idx
  exact ⟨h.bP.kept hg (cell h.bP), fun g e => Nat.lt_of_lt_of_le (h.hg g e) hg.size, h.bS.kept hg (cell h.bS), h.bR.kept hg (cell h.bR), ⟨h3, v, hv.kept hg (cell hv), Sp.kept hr' hg (hown hr')⟩, ⟨h.bi.two.kept hg (cell h.bi.two), h.bi.rw_.kept hg (hown h.bi.rw_), h.bi.rp.kept hg (hown h.bi.rp), h.bi.ap, h.bi.lo⟩, h.bY.kept hg (cell h.bY), h.lo, h.bB.grown hg h.bB.size (fun j e => by have := (hr j e).1; omega)⟩
end

theorem AB.rd {w W : World} {b : List Int} {st : Int} {B P X Yb : Nat} {vi vw vp : Value} (h : AB w b st B P X Yb vi vw vp W) : ∃ g cap, vi = .slice (some ⟨g, 0, none⟩) (lns b).length cap ∧ Rd W P g cap (lns b) := by
  obtain ⟨g, cap, hr, _⟩ := h.idx.rd (lns_ne b)
  have h1 := h.bP.cell
  rw [hr.1] at h1
  injection h1 with h1
  exact ⟨g, cap, h1.symm, hr⟩
/-- all of it lies below n -/
structure Lts (w : World) (P X Yb : Nat) (vi vw vp : Value) (n : Nat) : Prop where
  s : w.heap.size + 1 < n
  P : P < n
  X : X < n
  Y : Yb < n
  i : ∀ g, vi.ownBlock = some g → g < n
  w : ∀ g, vw.ownBlock = some g → g < n
  p : ∀ g, vp.ownBlock = some g → g < n
theorem AB.lts {w W : World} {b : List Int} {st : Int} {B P X Yb : Nat} {vi vw vp : Value} (h : AB w b st B P X Yb vi vw vp W) : Lts w P X Yb vi vw vp W.heap.size :=
  ⟨h.bR.lt, h.bP.lt, h.bi.two.lt, h.bY.lt, h.hg, fun g e => (h.bi.rw_.lt e).2, fun g e => (h.bi.rp.lt e).2⟩
theorem sp_below {W W' : World} {B n : Nat} {v : Value} {L : List (Nat × Nat)} (h : Sp W B v L) (hb : Below n W W') (hv : ∀ g, v.ownBlock = some g → g < n) : Sp W' B v L := by
  refine ⟨h.1, ?_⟩
  rcases h.2 with h0 | ⟨g, cap, cur, h2, h3, h4, h5⟩
  · exact .inl h0
  · exact .inr ⟨g, cap, cur, h2, h3, (hb.block g (hv g (by rw [h2]; rfl))).trans h4, h5⟩
theorem AB.keepB {w W W' : World} {b : List Int} {st : Int} {B P X Yb n : Nat} {vi vw vp : Value} (h : AB w b st B P X Yb vi vw vp W) (l : Lts w P X Yb vi vw vp n) (hb : Below n W W') : AB w b st B P X Yb vi vw vp W' := by
  obtain ⟨h3, v, hv, hr⟩ := h.idx
  obtain rfl := own_of_box hv h.bP
  have ls := l.s
  have bP' : Boxed W' P 55 v := (hb.block P l.P).trans h.bP
  exact ⟨bP', fun g e => Nat.lt_of_lt_of_le (h.hg g e) hb.size, (hb.block _ (by omega)).trans h.bS, (hb.block _ ls).trans h.bR, ⟨h3, v, bP', sp_below hr hb l.i⟩, ⟨h.bi.two.below hb l.X, sp_below h.bi.rw_ hb l.w, sp_below h.bi.rp hb l.p, h.bi.ap, h.bi.lo⟩, (hb.block Yb l.Y).trans h.bY, h.lo, h.bB.trans (hb.mono (by omega))⟩
/-- between two rounds of the loop over All, pre having come -/
def AI (w : World) (b : List Int) (st : Int) (B P X Yb : Nat) (vi vw vp : Value) (N Nb At : Nat) (pre : List (Nat × (Nat × Nat))) (W : World) : Prop :=
  AB w b st B P X Yb vi vw vp W ∧ Boxed W Nb 3 (.int .i64 (N : Int)) ∧ Boxed W At 3 (.int .i64 (pre.length : Nat))
theorem ai_own {w : World} {b : List Int} {st : Int} {B P X Yb : Nat} {vi vw vp : Value} {N Nb At B' : Nat} (hB : w.heap.size ≤ B') : OwnFrom B' (fun pre W => AI w b st B P X Yb vi vw vp N Nb At pre W) := by
  refine OwnFrom.and (AB.own hB) (OwnFrom.and (Own.from (boxed_own _ _ _) _) (Own.from (boxed_own _ _ (fun pre : List (Nat × (Nat × Nat)) => Value.int .i64 (pre.length : Nat))) _))
/-- how a round left: an answer that is false, at a line that is none; or it has been told to stop -/
def AX (w : World) (b : List Int) (j : Nat) (B P X Yb : Nat) (vi vw vp : Value) (N Nb At : Nat) (c : Code) (pre : List (Nat × (Nat × Nat))) (W : World) : Prop :=
  (c = .ret ∧ ∃ (pre0 : List (Nat × (Nat × Nat))) (x : Nat × (Nat × Nat)), pre = pre0 ++ [x] ∧ ¬ (x.1 = pre0.length ∧ (lns b)[pre0.length]? = some x.2)) ∨
  (c = .exit 4 ∧ AI w b (j : Int) B P X Yb vi vw vp N Nb At pre W ∧ pre.length = j)
theorem ax_own {w : World} {b : List Int} {j B P X Yb : Nat} {vi vw vp : Value} {N Nb At B' : Nat} (hB : w.heap.size ≤ B') (c : Code) : OwnFrom B' (fun pre W => AX w b j B P X Yb vi vw vp N Nb At c pre W) := by
  rintro pre X' Y' row h hg hr
  rcases h with h | ⟨h1, h2, h3⟩
  · exact .inl h
  · exact .inr ⟨h1, ai_own hB pre X' Y' row h2 hg hr, h3⟩
theorem keeps_dr (W : World) (q : Nat) : KeepsOthers W (W.drewN q) := ⟨Nat.le_refl _, fun _ _ h _ => h⟩
theorem en_pre' {L : List (Nat × Nat)} {pre0 : List (Nat × (Nat × Nat))} {x : Nat × (Nat × Nat)} (h : pre0 ++ [x] <+: en L) : x.1 = pre0.length ∧ L[pre0.length]? = some x.2 := by
  obtain ⟨r, hr⟩ := h
  have h1 : (en L)[pre0.length]? = some x := by rw [← hr]; simp
  have hl : pre0.length < L.length := by have := lt_of_some h1; rwa [en_len] at this
  have h2 := List.getElem?_eq_getElem hl
  rw [en_at h2] at h1
  cases h1
  exact ⟨rfl, h2⟩
/-- the copy: none if there are no bytes; else a block of its own -/
def Cp (w : World) (B n : Nat) (A : Option Addr) (W : World) : Prop := n = 0 ∨ ∃ g cur, A = some ⟨g, 0, none⟩ ∧ g < B ∧ w.heap.size + 1 < g ∧ W.heap[g]? = some (.cells cur 5 (0, 0)) ∧ n ≤ cur.size
theorem Cp.at_ {w W : World} {B n k : Nat} {A : Option Addr} (h : Cp w B n A W) (hk : k < n) : ∃ g u, A = some ⟨g, 0, none⟩ ∧ g < B ∧ w.heap.size + 1 < g ∧ W.cell? ⟨g, k, none⟩ = some u ∧ W.frozen? ⟨g, k, none⟩ = false := by
  rcases h with h | ⟨g, cur, h1, h2, h3, h4, h5⟩
  · omega
  · refine ⟨g, cur[k]'(by omega), h1, h2, h3, ?_, ?_⟩
    · rw [cell_of_row _ _ _ _ _ _ h4]; exact Array.getElem?_eq_getElem _
    · simp [World.frozen?, h4]
theorem Cp.set {w W : World} {B n k g : Nat} (h : Cp w B n (some ⟨g, 0, none⟩) W) (v : Value) : Cp w B n (some ⟨g, 0, none⟩) (W.setCell ⟨g, k, none⟩ v) := by
  rcases h with h | ⟨g', cur, h1, h2, h3, h4, h5⟩
  · exact .inl h
  · cases h1
    refine .inr ⟨g, cur.setIfInBounds k v, rfl, h2, h3, ?_, by rw [Array.size_setIfInBounds]; exact h5⟩
    obtain ⟨hlt, hk⟩ := Array.getElem?_eq_some_iff.1 h4
    show (W.heap.modify g _)[g]? = _
    rw [Array.getElem?_eq_getElem (by rw [Array.size_modify]; exact hlt), Array.getElem_modify_self, hk]
    rfl
theorem Cp.ext {w W W' : World} {B n : Nat} {A : Option Addr} (h : Cp w B n A W) (hb : Below W.heap.size W W') : Cp w B n A W' := by
  rcases h with h | ⟨g, cur, h1, h2, h3, h4, h5⟩
  · exact .inl h
  · exact .inr ⟨g, cur, h1, h2, h3, (hb.block g (Array.getElem?_eq_some_iff.1 h4).1).trans h4, h5⟩
theorem Cp.of {w W : World} {A : Option Addr} {n c : Nat} {l : List Int} {B0 : Nat} (h : Wd.Own .u8 5 W B0 (.slice A n c) l) (hB : w.heap.size + 1 < B0) (hl : l.length = n) : Cp w W.heap.size n A W := by
  rcases h.2 with ⟨e, h0⟩ | ⟨g, cap, cur, e, hg, hh, hn, hm, hs, ht⟩
  · left; omega
  · cases e
    exact .inr ⟨g, cur, rfl, (Array.getElem?_eq_some_iff.1 hh).1, by omega, hh, by omega⟩
end Lc
end Go.Proofs.Ytlicfeepmhaemaa
