/-
  What ValueLast puts together: names and numbers, one behind the other, and which was the last of each name.
-/
import Derived.Test.YtlgeibaejeiemaaDoorVw
namespace Go.Proofs.YtlgeibaejeiemaaDoor
set_option linter.unusedVariables false
set_option linter.unusedSimpArgs false
open Go.RowKit
namespace Vt
open Wd We

def nm8 : List ByteArray := [⟨#[]⟩, ⟨#[97]⟩, ⟨#[98]⟩, ⟨#[97, 97]⟩, ⟨#[65]⟩, ⟨#[106, 115, 111, 110, 114, 112, 99]⟩, ⟨#[105, 100]⟩, ⟨#[0]⟩]
theorem nm8_inj : ∀ i, i < 8 → ∀ j, j < 8 → nm8[i]? = nm8[j]? → i = j := by decide
def lastN (ks : List Nat) : Nat → Nat → Nat
  | 0, _ => 0
  | i + 1, k => if ks[i]? = some k then i + 1 else lastN ks i k
def nmsOf (ks : List Nat) (i : Nat) : List ByteArray := (ks.take i).map fun k => (nm8[k]?).getD ⟨#[]⟩
def nums (i : Nat) : List Tr := (List.range i).map fun (j : Nat) => num ((j : Int) + 1)
def five (j : Nat) : List Value := [.int .i64 2, .bool false, .string (numT ((j : Int) + 1)), .slice none 0 0, .slice none 0 0]
def flatN : Nat → List Value
  | 0 => []
  | i + 1 => flatN i ++ five i
theorem flatN_length (i : Nat) : (flatN i).length = i * 5 := by
  induction i with
  | zero => rfl
  | succ i ih => rw [flatN, List.length_append, ih]; show i * 5 + 5 = _; omega
theorem flatN_at (i j o : Nat) (hj : j < i) (ho : o < 5) : (flatN i)[j * 5 + o]? = (five j)[o]? := by
  induction i with
  | zero => omega
  | succ i ih =>
    rw [flatN]
    by_cases h : j < i
    · rw [List.getElem?_append_left (by rw [flatN_length]; omega)]
      exact ih h
    · obtain rfl : j = i := by omega
      rw [List.getElem?_append_right (by rw [flatN_length]; omega), flatN_length, Nat.add_sub_cancel_left]
theorem lastN_le (ks : List Nat) (k : Nat) : ∀ i, lastN ks i k ≤ i
  | 0 => Nat.le_refl _
  | i + 1 => by
    rw [lastN]
    split
    · omega
    · have := lastN_le ks k i; omega
theorem nmsOf_succ {ks : List Nat} {i k : Nat} {s : ByteArray} (hk : ks[i]? = some k) (hs : nm8[k]? = some s) : nmsOf ks (i + 1) = nmsOf ks i ++ [s] := by
  unfold nmsOf
  rw [List.take_add_one, hk]
  simp [hs]
theorem nmsOf_length {ks : List Nat} {i : Nat} (hi : i ≤ ks.length) : (nmsOf ks i).length = i := by unfold nmsOf; simp; omega
theorem nums_length (i : Nat) : (nums i).length = i := by unfold nums; simp
theorem gt_last {ks : List Nat} {m k : Nat} {s : ByteArray} (h8 : ∀ x ∈ ks, x < 8) (hm : m ≤ ks.length) (hk : k < 8) (hs : nm8[k]? = some s) : ∀ i, i ≤ m → gt (nmsOf ks m) (nums m) s i = if lastN ks i k = 0 then none else some (num (lastN ks i k : Nat)) := by
  intro i
  induction i with
  | zero => intro _; rfl
  | succ i ih =>
    intro hi
    have hil : i < ks.length := by omega
    have hki := h8 ks[i] (List.getElem_mem hil)
    obtain ⟨t, ht⟩ : ∃ t, nm8[ks[i]]? = some t := ⟨_, List.getElem?_eq_getElem (show ks[i] < nm8.length from hki)⟩
    have hn : (nmsOf ks m)[i]? = some t := by
      unfold nmsOf
      rw [List.getElem?_map, List.getElem?_take, if_pos (by omega), List.getElem?_eq_getElem hil]
      simp [ht]
    have hl : (nums m)[i]? = some (num ((i : Int) + 1)) := by
      unfold nums
      rw [List.getElem?_map, List.getElem?_range (by omega)]
      rfl
    have hL : lastN ks (i + 1) k = if ks[i]? = some k then i + 1 else lastN ks i k := rfl
    rw [List.getElem?_eq_getElem hil] at hL
    rw [gt_succ, hn, hl]
    by_cases hkk : ks[i] = k
    · have : t = s := by rw [hkk, hs] at ht; injection ht with ht; exact ht.symm
      rw [if_pos (congrArg some hkk)] at hL
      rw [if_pos (congrArg some this), hL, if_neg (by omega)]
      rfl
    · have : t ≠ s := fun e => hkk (nm8_inj _ hki _ hk (by rw [ht, hs, e]))
      rw [if_neg (fun e => hkk (by injection e))] at hL
      rw [if_neg (fun e => this (by injection e)), hL]
      exact ih (by omega)
theorem vl_nums {w : World} {base : Nat} {e : TypeId} {A : Option Addr} {m c i : Nat} (h : w.ownsRow base e 5 (.slice A m c) i (flatN i)) (hi : i ≤ 100) : m = i ∧ VL w A m c (nums i) := by
  rcases h.2 with ⟨hv, rfl⟩ | ⟨g, cap, cu, hv, hPg, hgc, hnc, hcm, hcs, htk⟩
  · injection hv with h1 h2 h3
    subst h1 h2 h3
    exact ⟨rfl, VL.none_ w⟩
  · injection hv with h1 h2 h3
    subst h1 h2 h3
    refine ⟨rfl, nums_length _, hnc, hcm, (fun e => by cases e), by omega, fun _ => ⟨g, 0, rfl, fun j t hj => ?_⟩⟩
    have hjm : j < m := by have := (List.getElem?_eq_some_iff.1 hj).1; rwa [nums_length] at this
    have hjt : num ((j : Int) + 1) = t := by
      unfold nums at hj
      simp [hjm] at hj
      exact hj
    subst hjt
    have hc : ∀ o, o < 5 → w.cell? ⟨g, 0 + j * 5 + o, none⟩ = (five j)[o]? := fun o ho => by
      have h1 := flatN_at m j o hjm ho
      rw [← htk, List.getElem?_take, if_pos (by omega)] at h1
      simp only [World.cell?, hgc]
      rw [Nat.zero_add, ← h1]
      simp
    exact ⟨_, ⟨2, false, numT ((j : Int) + 1), .slice none 0 0, .slice none 0 0, rfl, hc 0 (by omega), hc 1 (by omega), hc 2 (by omega), hc 3 (by omega), hc 4 (by omega)⟩, vl_num w (by omega) (by omega)⟩
/-- what the first loop holds -/
structure LS (w0 w : World) (base R5 RA : Nat) (v3 v4 : Value) (ks : List Nat) (i : Nat) : Prop where
  n3 : w.ownsRow base 9 1 v3 i ((nmsOf ks i).map Value.string)
  n4 : w.ownsRow base 25 5 v4 i (flatN i)
  ap : ∀ g, v3.ownBlock = some g → v4.ownBlock ≠ some g
  arr : ∀ k, k < 8 → w.cell? ⟨R5, k, none⟩ = some (.int .i64 (lastN ks i k : Nat))
  fz : ∃ cu t, w.heap[R5]? = some (.cells cu t (0, 0))
  all : ∀ (k : Nat) (s : ByteArray), nm8[k]? = some s → w.cell? ⟨RA, k, none⟩ = some (.string s)
  up : Below w0.heap.size w0 w
  lt : R5 < base ∧ RA < base ∧ base ≤ w.heap.size ∧ w0.heap.size ≤ R5 ∧ R5 ≠ RA
theorem own_lt {w : World} {base : Nat} {e : TypeId} {s : Nat} {v : Value} {n : Nat} {xs : List Value} (h : w.ownsRow base e s v n xs) : ∀ g, v.ownBlock = some g → base ≤ g ∧ g < w.heap.size := fun g hg => World.ownsRow.lt h g hg
/-- the values' row behind the names' append -/
theorem LS.mid {w0 w W7 w8 W10 : World} {base R5 RA : Nat} {v3 v4 : Value} {ks : List Nat} {i : Nat} (h : LS w0 w base R5 RA v3 v4 ks i) (b1 : Below w.heap.size w W7) (g1 : W7.grownBy w8 v3.ownBlock) (b2 : Below w8.heap.size w8 W10) :
    W10.ownsRow base 25 5 v4 i (flatN i) ∧ base ≤ W10.heap.size := by
  refine ⟨own_up ((own_up h.n4 b1).kept g1 ?_) b2, ?_⟩
  · cases hv3 : v3.ownBlock with
    | none => cases v4.ownBlock <;> simp
    | some g => exact .inr (h.ap g hv3)
  · have := h.lt; have := b1.size; have := g1.size; have := b2.size; omega
theorem LS.step {w0 w W7 w8 W10 w11 : World} {base R5 RA : Nat} {v3 v4 v3' v4' : Value} {ks : List Nat} {i k : Nat} {s : ByteArray} (h : LS w0 w base R5 RA v3 v4 ks i) (b1 : Below w.heap.size w W7) (g1 : W7.grownBy w8 v3.ownBlock)
    (o1 : w8.ownsRow base 9 1 v3' (i + 1) ((nmsOf ks i).map Value.string ++ [.string s])) (a1 : v3'.ownBlock = v3.ownBlock ∨ v3'.ownBlock = some W7.heap.size) (b2 : Below w8.heap.size w8 W10) (g2 : W10.grownBy w11 v4.ownBlock)
    (o2 : w11.ownsRow base 25 5 v4' (i + 1) (flatN i ++ five i)) (a2 : v4'.ownBlock = v4.ownBlock ∨ v4'.ownBlock = some W10.heap.size) (hk : ks[i]? = some k) (hs : nm8[k]? = some s) :
    LS w0 (w11.setCell ⟨R5, k, none⟩ (.int .i64 ((i : Int) + 1))) base R5 RA v3' v4' ks (i + 1) := by
  obtain ⟨l1, l2, l3, l4, l5⟩ := h.lt
  have s1 := b1.size; have s2 := g1.size; have s3 := b2.size; have s4 := g2.size
  have c3 := own_lt h.n3; have c4 := own_lt h.n4
  have hset : ∀ x, x ≠ R5 → (w11.setCell ⟨R5, k, none⟩ (.int .i64 ((i : Int) + 1))).heap[x]? = w11.heap[x]? := fun x hx => Below.heap_setCell _ _ _ _ hx
  have hlow : ∀ x, x < base → w11.heap[x]? = w.heap[x]? := fun x hx => by
    rw [g2.block x (by omega) (fun e => by have := (c4 x e.symm).1; omega), b2.block x (by omega), g1.block x (by omega) (fun e => by have := (c3 x e.symm).1; omega), b1.block x (by omega)]
  have hgs : w11.grownBy (w11.setCell ⟨R5, k, none⟩ (.int .i64 ((i : Int) + 1))) (some R5) := ⟨rfl, rfl, rfl, by simp [World.setCell], fun x _ hx => hset x (fun e => hx (by rw [e]))⟩
  have k8 : k < 8 := by have := (List.getElem?_eq_some_iff.1 hs).1; exact this
  have hne : ∀ {v : Value}, (∀ g, v.ownBlock = some g → base ≤ g) → v.ownBlock ≠ some R5 := fun hh e => by have := hh R5 e; omega
  have c3' := own_lt o1
  have c4' := own_lt o2
  have ap1 : ∀ g, v3'.ownBlock = some g → v4.ownBlock ≠ some g := fun g hg e => by
    rcases a1 with a | a
    · exact h.ap g (by rw [← a]; exact hg) e
    · rw [a] at hg; injection hg with hg; have := (c4 g e).2; omega
  refine ⟨?_, o2.kept hgs (.inr (hne (fun g hg => (c4' g hg).1))), fun g hg e => ?_, fun j hj => ?_, ?_, fun j t ht => ?_, ?_, ⟨l1, l2, by rw [World.size_setCell]; omega, l4, l5⟩⟩
  · rw [nmsOf_succ hk hs, List.map_append]
    refine (((own_up o1 b2).kept g2 ?_)).kept hgs (.inr (hne (fun g hg => (c3' g hg).1)))
    cases hv4 : v4.ownBlock with
    | none => cases v3'.ownBlock <;> simp
    | some g => exact .inr (fun e => ap1 g e hv4)
  · rcases a2 with a | a
    · exact ap1 g hg (by rw [← a]; exact e)
    · rw [a] at e; injection e with e; have := (c3' g hg).2; omega
  · have hold : w11.cell? ⟨R5, j, none⟩ = some (.int .i64 (lastN ks i j : Nat)) := by rw [cell_same (hlow R5 l1)]; exact h.arr j hj
    rw [lastN]
    by_cases hjk : j = k
    · subst hjk
      rw [if_pos hk]
      rw [cs_same _ hold]
      rfl
    · rw [if_neg (fun e => hjk (by rw [hk] at e; injection e with e; exact e.symm))]
      exact (cs_other _ (fun e => hjk e.symm)).trans hold
  · obtain ⟨cu, t, hcu⟩ := h.fz
    obtain ⟨cu', h'⟩ := set_cellsV (p := ⟨R5, k, none⟩) (show w11.heap[R5]? = some (.cells cu t (0, 0)) by rw [hlow R5 l1]; exact hcu) (.int .i64 ((i : Int) + 1))
    exact ⟨cu', t, h'⟩
  · rw [cell_same (hset RA (fun e => l5 e.symm)), cell_same (hlow RA l2)]
    exact h.all j t ht
  · have hb : Below w0.heap.size w w11 := ⟨(g2.os.trans b2.os).trans (g1.os.trans b1.os), (g2.tape.trans b2.tape).trans (g1.tape.trans b1.tape), (g2.output.trans b2.output).trans (g1.output.trans b1.output), by omega, fun x hx => hlow x (by omega)⟩
    exact (h.up.trans hb).setCell (p := ⟨R5, k, none⟩) l4 _
theorem LS.up8 {w0 w W7 w8 : World} {base R5 RA : Nat} {v3 v4 : Value} {ks : List Nat} {i : Nat} (h : LS w0 w base R5 RA v3 v4 ks i) (b1 : Below w.heap.size w W7) (g1 : W7.grownBy w8 v3.ownBlock) : Below w0.heap.size w0 w8 := by
  have l := h.lt; have s1 := b1.size; have s2 := g1.size
  have c3 := own_lt h.n3
  exact (h.up.trans (b1.mono (by omega))).trans ⟨g1.os, g1.tape, g1.output, g1.size, fun x hx => g1.block x (by omega) (fun e => by have := (c3 x e.symm).1; omega)⟩
theorem LS.late {w0 w W7 w8 W10 w11 : World} {base R5 RA : Nat} {v3 v4 : Value} {ks : List Nat} {i : Nat} (h : LS w0 w base R5 RA v3 v4 ks i) (b1 : Below w.heap.size w W7) (g1 : W7.grownBy w8 v3.ownBlock) (b2 : Below w8.heap.size w8 W10) (g2 : W10.grownBy w11 v4.ownBlock) :
    Below w0.heap.size w0 w11 ∧ ∀ x, x < base → w11.heap[x]? = w.heap[x]? := by
  have l := h.lt; have s1 := b1.size; have s2 := g1.size; have s3 := b2.size; have s4 := g2.size
  have c3 := own_lt h.n3; have c4 := own_lt h.n4
  have hlow : ∀ x, x < base → w11.heap[x]? = w.heap[x]? := fun x hx => by
    rw [g2.block x (by omega) (fun e => by have := (c4 x e.symm).1; omega), b2.block x (by omega), g1.block x (by omega) (fun e => by have := (c3 x e.symm).1; omega), b1.block x (by omega)]
  exact ⟨(h.up8 b1 g1).trans ⟨g2.os.trans b2.os, g2.tape.trans b2.tape, g2.output.trans b2.output, by omega, fun x hx => by rw [g2.block x (by omega) (fun e => by have := (c4 x e.symm).1; omega), b2.block x (by omega)]⟩, hlow⟩
theorem own_form {w : World} {base : Nat} {e : TypeId} {s : Nat} {v : Value} {n : Nat} {xs : List Value} (h : w.ownsRow base e s v n xs) : ∃ A c, v = .slice A n c := by
  rcases h.2 with ⟨rfl, rfl⟩ | ⟨g, cap, cu, rfl, _⟩
  · exact ⟨none, 0, rfl⟩
  · exact ⟨_, cap, rfl⟩
theorem get_last {ks : List Nat} {m k : Nat} {s : ByteArray} (h8 : ∀ x ∈ ks, x < 8) (hm : m ≤ ks.length) (hk : k < 8) (hs : nm8[k]? = some s) : getT (.mk 5 false ⟨#[]⟩ (nums m) (nmsOf ks m)) s = if lastN ks m k = 0 then none else some (num (lastN ks m k : Nat)) := by
  unfold getT
  rw [if_pos (show (Tr.mk 5 false ⟨#[]⟩ (nums m) (nmsOf ks m)).kind = 5 from rfl)]
  show gt (nmsOf ks m) (nums m) s (min (nmsOf ks m).length (nums m).length) = _
  rw [nmsOf_length hm, nums_length, Nat.min_self]
  exact gt_last h8 hm hk hs m (Nat.le_refl _)
section
variable {P : Program} {ops : Array Oper} {Q : Exit → Act → World → Prop} {md : Region.Mode} {S : World → Prop} {held : List Nat}
/-- a held operation that its guard leaves out -/
theorem any_takeU (i : Nat) (d : Tmp) {oi : Oper} {f : Nat} {L : Array Bool} {a : Act} {w : World} (hi : ops[i]? = some oi) (hd : oi.dst = some d) (hh : held.contains i = true)
    (hs : Region.noSelect ops = true) (hf : Region.free md ops L i = true) (hr : (Region.ready md ops L).contains i = true)
    (hQ : ∀ c a w, Q (.panic c) (a.put (some d) undef) w → Q (.panic c) a w) (hw : Region.wanted oi (yielded ops a.tmps) = false) (hS : S w)
    (h : anyG P md ops Q S held f (L.setIfInBounds i true) (a.put (some d) undef) w) : anyG P md ops Q S held (f + 1) L a w := by
  rw [← hd] at hQ h
  exact any_take hi hh hs hf hr hQ (.inr ⟨hw, rfl⟩) hS h
end
end Vt
end Go.Proofs.YtlgeibaejeiemaaDoor
