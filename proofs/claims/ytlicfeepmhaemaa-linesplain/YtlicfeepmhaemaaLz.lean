/-
  For the walk of LinesPlain: its boxes, its text.
-/
import Derived.Test.YtlicfeepmhaemaaLy
import Derived.Test.YtlicfeepmhaemaaLx
import Derived.Test.YtlicfeepmhaemaaWh
import Derived.Test.YtlicfeepmhaemaaWe
import Derived.Test.YtlicfeepmhaemaaWp
import Derived.Lib.AppendStr
namespace Go.Proofs.Ytlicfeepmhaemaa
set_option linter.unusedVariables false
set_option linter.unusedSimpArgs false
open Go.RowKit Go.ChangeShapes Go.WideShapes Go.Shelf
open Utf Wd Wr We Wi Lm Lc

/-- the string that ends the lines -/
theorem three_ends (w : World) (t : TypeId) (j : Nat) (hj : j < 3) : ∃ s E, (w.alloc (.cells #[.string ⟨#[10]⟩, .string ⟨#[13, 10]⟩, .string ⟨#[13]⟩] t)).cell? ⟨w.heap.size, j, none⟩ = some (.string s) ∧ IsE E ∧ Lib.strCells s = E.map (Value.int .u8) ∧ s.size = E.length := by
  have hb : (w.alloc (.cells #[.string ⟨#[10]⟩, .string ⟨#[13, 10]⟩, .string ⟨#[13]⟩] t)).heap[w.heap.size]? = some (.cells #[.string ⟨#[10]⟩, .string ⟨#[13, 10]⟩, .string ⟨#[13]⟩] t) := heap_alloc_new w _
  rcases j with _ | _ | _ | j
  · exact ⟨_, [10], by simp only [World.cell?, hb]; rfl, .inl rfl, by rfl, rfl⟩
  · exact ⟨_, [13, 10], by simp only [World.cell?, hb]; rfl, .inr (.inl rfl), by rfl, rfl⟩
  · exact ⟨_, [13], by simp only [World.cell?, hb]; rfl, .inr (.inr rfl), by rfl, rfl⟩
  · omega

/-- the boxes of the law: the numbers, the answer, how many words -/
structure PBox (w : World) (A : Option Addr) (n c : Nat) (m N : Nat) (W : World) : Prop where
  bL : Boxed W w.heap.size 50 (.slice A n c)
  bR : Boxed W (w.heap.size + 1) 4 (.bool false)
  bN : Boxed W N 3 (.int .i64 (m : Int))
  bB : Below w.heap.size w W
theorem PBox.alloc {w : World} {A : Option Addr} {n c m N : Nat} {W : World} (h : PBox w A n c m N W) (o : Obj) : PBox w A n c m N (W.alloc o) :=
  ⟨h.bL.alloc o, h.bR.alloc o, h.bN.alloc o, h.bB.alloc h.bB.size o⟩
theorem PBox.app {w : World} {A : Option Addr} {n c m N : Nat} {W W' : World} (h : PBox w A n c m N W) {v : Value} {l : List Int} (ho : Wd.Own .u8 5 W w.heap.size v l) (hg : W.grownBy W' v.ownBlock) (hb : Below w.heap.size W W') : PBox w A n c m N W' :=
  ⟨h.bL.kept hg (h.bL.not_row (by decide) ho), h.bR.kept hg (h.bR.not_row (by decide) ho), h.bN.kept hg (h.bN.not_row (by decide) ho), h.bB.trans hb⟩
theorem PBox.ext {w : World} {A : Option Addr} {n c m N : Nat} {W W' : World} (h : PBox w A n c m N W) (hb : Below W.heap.size W W') : PBox w A n c m N W' :=
  ⟨(hb.block _ h.bL.lt).trans h.bL, (hb.block _ h.bR.lt).trans h.bR, (hb.block _ h.bN.lt).trans h.bN, ext_trans h.bB hb⟩

theorem own_str {e : TypeId} {w : World} {B : Nat} {v : Value} {l E : List Int} {s : ByteArray} (h : w.ownsRow B e 1 v (l.length + s.size) (l.map (Value.int .u8) ++ Lib.strCells s)) (h1 : Lib.strCells s = E.map (Value.int .u8)) (h2 : s.size = E.length) : Wd.Own .u8 e w B v (l ++ E) := by
  unfold Wd.Own
  rw [List.length_append, List.map_append, ← h1, ← h2]
  exact h
theorem own_alloc {k : IntKind} {e : TypeId} {w : World} {B : Nat} {v : Value} {l : List Int} (h : Wd.Own k e w B v l) (o : Obj) : Wd.Own k e (w.alloc o) B v l := World.ownsRow.alloc h o
/-- how long the words are -/
def wls (l : List Int) (m : Nat) : List Nat := (l.take m).map fun x => (x % 5).toNat
/-- the text behind i of k + 1 words -/
def wtx (E : List Int) (l : List Int) (k i : Nat) : List Int := if i ≤ k then pw E ((wls l (k + 1)).take i) else pw E ((wls l (k + 1)).take k) ++ List.replicate ((wls l (k + 1)).getD k 0) 120
theorem wls_at {l : List Int} {m i : Nat} {x : Int} (hi : i < m) (hx : l[i]? = some x) : (wls l m)[i]? = some (x % 5).toNat := by
  simp [wls, List.getElem?_take, hi, hx]
theorem wls_len {l : List Int} {m : Nat} (h : m ≤ l.length) : (wls l m).length = m := by simp [wls]; omega
theorem e_le {E : List Int} (h : IsE E) : E.length ≤ 2 := by rcases h with rfl | rfl | rfl <;> simp
theorem pw_le {E : List Int} (h : IsE E) (ws : List Nat) (hw : ∀ w ∈ ws, w ≤ 4) : (pw E ws).length ≤ 6 * ws.length := by
  have he := e_le h
  induction ws with
  | nil => simp [pw]
  | cons v ws ih =>
    have h1 := hw v (by simp)
    have h2 := ih (fun w hw' => hw w (by simp [hw']))
    rw [pw_cons]
    simp only [List.length_append, List.length_replicate, List.length_cons]
    omega
theorem wls_le (l : List Int) (m : Nat) : ∀ w ∈ wls l m, w ≤ 4 := by
  intro w hw
  obtain ⟨x, _, rfl⟩ := List.mem_map.1 hw
  omega
theorem wtx_zero (E l : List Int) (k : Nat) : wtx E l k 0 = [] := by simp [wtx, pw]
theorem wtx_next {E l : List Int} {k i : Nat} {x : Int} (hi : i < k) (hx : l[i]? = some x) : wtx E l k (i + 1) = wtx E l k i ++ List.replicate (x % 5).toNat 120 ++ E := by
  unfold wtx
  rw [if_pos (by omega), if_pos (by omega), List.take_add_one, wls_at (by omega) hx]
  show pw E (_ ++ [_]) = _
  rw [pw_snoc, List.append_assoc]
theorem wtx_last {E l : List Int} {k : Nat} {x : Int} (hx : l[k]? = some x) : wtx E l k (k + 1) = wtx E l k k ++ List.replicate (x % 5).toNat 120 := by
  unfold wtx
  rw [if_neg (by omega), if_pos (by omega), List.getD_eq_getElem?_getD, wls_at (by omega) hx]
  rfl

theorem wtx_le {E : List Int} (hE : IsE E) (l : List Int) (k i : Nat) : (wtx E l k i).length ≤ 6 * (k + 1) + 4 := by
  have h0 : (wls l (k + 1)).length ≤ k + 1 := by simp [wls]; omega
  unfold wtx
  split
  · have := pw_le hE ((wls l (k + 1)).take i) (fun w hw => wls_le l _ w (List.mem_of_mem_take hw))
    have h2 : ((wls l (k + 1)).take i).length ≤ (wls l (k + 1)).length := by rw [List.length_take]; omega
    omega
  · have := pw_le hE ((wls l (k + 1)).take k) (fun w hw => wls_le l _ w (List.mem_of_mem_take hw))
    have h2 : ((wls l (k + 1)).take k).length ≤ (wls l (k + 1)).length := by rw [List.length_take]; omega
    have h3 : (wls l (k + 1)).getD k 0 ≤ 4 := by
      rw [List.getD_eq_getElem?_getD]
      cases hq : (wls l (k + 1))[k]? with
      | none => simp
      | some y => exact wls_le l _ y (List.mem_of_getElem? hq)
    rw [List.length_append, List.length_replicate]
    omega

/-- the text of the words: it is text; its lines are the words -/
theorem wtx_text {E : List Int} (hE : IsE E) (l : List Int) (k : Nat) (hk : k + 1 ≤ l.length) : chk (wtx E l k (k + 1)) = ((wtx E l k (k + 1)).length, (wtx E l k (k + 1)).length, 0) ∧ IsB (wtx E l k (k + 1)) ∧ (lns (wtx E l k (k + 1))).length = k + 1 ∧
    ∀ (i : Nat) (p : Nat × Nat) (x : Int), (lns (wtx E l k (k + 1)))[i]? = some p → l[i]? = some x → p.1 ≤ p.2 ∧ p.2 - p.1 = (x % 5).toNat := by
  have hlen : (wls l (k + 1)).length = k + 1 := wls_len hk
  have hw : wtx E l k (k + 1) = pw E ((wls l (k + 1)).take k) ++ List.replicate ((wls l (k + 1)).getD k 0) 120 := by unfold wtx; rw [if_neg (by omega)]
  rw [hw]
  have low : ∀ c ∈ pw E ((wls l (k + 1)).take k) ++ List.replicate ((wls l (k + 1)).getD k 0) 120, 0 ≤ c ∧ c ≤ 127 := by
    intro c hc
    rcases List.mem_append.1 hc with g | g
    · exact pw_low hE _ c g
    · exact rep_low _ c g
  refine ⟨low_text low, fun c hc => ⟨(low c hc).1, by have := (low c hc).2; omega⟩, by rw [words_len hE, List.length_take]; omega, ?_⟩
  intro i p x hp hx
  obtain ⟨h1, h2⟩ := words_at hE _ _ hp
  refine ⟨h1, ?_⟩
  have hs : (wls l (k + 1)).take k ++ [(wls l (k + 1)).getD k 0] = wls l (k + 1) := by
    have h3 : (wls l (k + 1))[k]? = some ((wls l (k + 1))[k]'(by omega)) := List.getElem?_eq_getElem _
    rw [List.getD_eq_getElem?_getD, h3]
    have h4 := List.take_add_one (l := wls l (k + 1)) (i := k)
    rw [h3, List.take_of_length_le (by omega)] at h4
    exact h4.symm
  rw [hs] at h2
  have hi : i < k + 1 := by have := lt_of_some h2; omega
  rw [wls_at hi hx] at h2
  exact (Option.some.inj h2).symm

theorem box_ne {X : World} {b B : Nat} {t : TypeId} {v : Value} {row : Option Nat} (h : Boxed X b t v) (hr : ∀ r, row = some r → B ≤ r ∧ ∃ o : Obj, X.heap[r]? = some o ∧ o.isCells = false) : some b ≠ row := by
  intro e
  obtain ⟨_, o, ho, hc⟩ := hr b e.symm
  rw [show X.heap[b]? = _ from h] at ho
  cases ho; cases hc
theorem pbox_own {w : World} {A : Option Addr} {n c m N B AtB : Nat} (hB : w.heap.size ≤ B) : OwnFrom B (fun (pre : List (Nat × (Nat × Nat))) W => PBox w A n c m N W ∧ Boxed W AtB 3 (.int .i64 (pre.length : Nat))) := by
  rintro pre X Y row ⟨h, k⟩ hg hr
  exact ⟨⟨h.bL.kept hg (box_ne h.bL hr), h.bR.kept hg (box_ne h.bR hr), h.bN.kept hg (box_ne h.bN hr), h.bB.grown hg h.bB.size (fun j e => by have := (hr j e).1; omega)⟩, k.kept hg (box_ne k hr)⟩
/-- the line x is the one numbered k, and as long as its word -/
def Gd (l : List Int) (m k : Nat) (x : Nat × (Nat × Nat)) : Prop := x.1 = k ∧ k < m ∧ ∀ y, l[k]? = some y → IntKind.i64.wrap ((x.2.2 : Int) - (x.2.1 : Int)) = y % 5
theorem en_pre {L : List (Nat × Nat)} {pre0 : List (Nat × (Nat × Nat))} {x : Nat × (Nat × Nat)} (h : pre0 ++ [x] <+: en L) : x.1 = pre0.length ∧ L[pre0.length]? = some x.2 := by
  obtain ⟨r, hr⟩ := h
  have h1 : (en L)[pre0.length]? = some x := by rw [← hr]; simp
  have hl : pre0.length < L.length := by have := lt_of_some h1; rwa [en_len] at this
  have h2 := List.getElem?_eq_getElem hl
  rw [en_at h2] at h1
  cases h1
  exact ⟨rfl, h2⟩
theorem gd_of {l T : List Int} {m : Nat} {pre0 : List (Nat × (Nat × Nat))} {x : Nat × (Nat × Nat)} (h : pre0 ++ [x] <+: en (lns T)) (h4 : ∀ (p : Nat × Nat) (y : Int), (lns T)[pre0.length]? = some p → l[pre0.length]? = some y → p.1 ≤ p.2 ∧ p.2 - p.1 = (y % 5).toNat)
    (h3 : (lns T).length = m) (hT : T.length ≤ 1000) (hm : m ≤ 1000) : Gd l m pre0.length x := by
  obtain ⟨e1, e2⟩ := en_pre h
  refine ⟨e1, by have := lt_of_some e2; omega, fun y hy => ?_⟩
  obtain ⟨h5, h6⟩ := h4 x.2 y e2 hy
  obtain ⟨p, q, hp, hq⟩ := ln_both T (lt_of_some e2)
  rw [hp] at e2; cases e2
  have h7 := ln_at T hp hq
  rw [IntKind.wrap_i64]
  have h8 := Int.emod_nonneg y (b := 5) (by omega)
  omega
theorem keeps_drewN (W : World) (q : Nat) : KeepsOthers W (W.drewN q) := ⟨Nat.le_refl _, fun _ _ h _ => h⟩

end Go.Proofs.Ytlicfeepmhaemaa
