/-
  The iterator that ends (package lines) hands back.
-/
import Derived.Test.YtfpgnnjkojpmdaaLc
import Derived.Sort.QuietIn
namespace Go.Proofs.Ytfpgnnjkojpmdaa
set_option linter.unusedVariables false
open Go.RowKit Go.Shelf
namespace Lc
open Utf Wd Wr We Wi Lm
attribute [local go_sem] Oper.semAt_some

theorem esize_in (N : Nat) (A : Option Addr) (n c : Nat) (l : List Int) (w : World) (s : Sl .u8 w A n c l) (h0 : 0 < n) :
    CallsIn Fence.wide N Try.prog 67 #[.slice A n c] w fun e w' => e = .returned (.int .i64 (esz l)) ∧ w = w' := callsIn_wide.2 (esize_any A n c l w s h0)
theorem sl_far {k : IntKind} {w w' : World} {A : Option Addr} {n c n₀ : Nat} {l : List Int} (h : Sl k w A n c l) (hb : Below n₀ w w') (hA : l ≠ [] → ∀ x, A = some x → x.block < n₀) : Sl k w' A n c l := by
  refine ⟨⟨h.row.1, fun hn => ?_⟩, h.le, h.max, h.nil⟩
  obtain ⟨b, off, e, hc⟩ := h.row.2 hn
  exact ⟨b, off, e, fun j x hx => (hb.cell (p := ⟨b, off + j, none⟩) (show b < n₀ from hA hn ⟨b, off, none⟩ e)).trans (hc j x hx)⟩
/-- what a round that goes on keeps: what lay below n₀, and the block Bn -/
def Kep (n₀ Bn : Nat) (A B : World) : Prop := Below n₀ A B ∧ B.heap[Bn]? = A.heap[Bn]?
theorem kep_t {n₀ Bn : Nat} {A B C : World} (h : Kep n₀ Bn A B) (k : Kep n₀ Bn B C) : Kep n₀ Bn A C := ⟨h.1.trans k.1, k.2.trans h.2⟩
theorem kep_b {n₀ Bn : Nat} {w : World} (h1 : n₀ ≤ w.heap.size) (h2 : Bn < w.heap.size) (W : World) (l : Nat) (o o' : Obj) (hl : w.heap.size ≤ l) (ho : W.heap[l]? = some o) (hc : o.isCells = false) (hw : o.isWalk = false) : Kep n₀ Bn W (W.putObj l o') := by
  refine ⟨belowK_b h1 W l o o' hl ho hc hw, ?_⟩
  simp only [World.putObj]
  rw [Array.getElem?_setIfInBounds_ne (by omega)]
theorem Kep.cell {n₀ Bn : Nat} {A B : World} (h : Kep n₀ Bn A B) : B.cell? ⟨Bn, 0, none⟩ = A.cell? ⟨Bn, 0, none⟩ := by
  simp only [World.cell?, h.2]
theorem drop_step (b : List Int) (k z : Nat) : (b.drop k).drop z = b.drop (k + z) := by rw [List.drop_drop]
/-- a span, as a value -/
def sp (x : Nat × Nat) : Value := .agg #[.int .i64 (x.1 : Int), .int .i64 (x.2 : Int)]

set_option maxRecDepth 100000 in
set_option maxHeartbeats 2000000 in
theorem ends1_in (n : Nat) (hn : 1 ≤ n) (l Bn n₀ : Nat) (A : Option Addr) (m c : Nat) (b : List Int) (J Jx : List (Nat × Nat) → World → Prop)
    (hY : ∀ pre x W, J pre W → pre.length < (ends 0 b).length → YieldAt Fence.wide (n - 1) Try.prog l #[sp x] W fun e W' =>
      (e = .returned (.bool true) ∧ J (pre ++ [x]) W' ∧ Kep n₀ Bn W W') ∨ (e = .returned (.bool false) ∧ Jx (pre ++ [x]) W'))
    (W : World) (hBn : W.cell? ⟨Bn, 0, none⟩ = some (.slice A m c)) (hA : b ≠ [] → ∀ x, A = some x → x.block < n₀) (hL : Sl .u8 W A m c b) (h0 : J [] W) :
    CallsIn Fence.wide n Try.prog 66 #[.func (.yield l) #[] #[], .pointer (some ⟨Bn, 0, none⟩)] W fun e W' => (∃ v, e = .returned v) ∧
      ((∃ ys, ys = ends 0 b ∧ J ys W') ∨ (∃ pre, pre <+: ends 0 b ∧ Jx pre W')) := by
  have hmax : m ≤ 9223372036854775807 := by have := hL.max; have := hL.le; unfold maxLen at *; omega
  have hlen := hL.len
  have S0 := Lib.hid hL
  clear hL
  refine callsIn_of_wp Try.func66 rfl trivial ?_ rfl
  simp only [Try.ntmps66, List.size_toArray, List.length_cons, List.length_nil, Nat.reduceAdd, Nat.reduceSub, Array.replicate_succ, Array.replicate_zero, List.push_toArray, List.append_toArray, List.nil_append, List.cons_append]
  gi_wp2
  gi_loopw [3] (fun p wr => ∃ (k : Nat) (pre : List (Nat × Nat)), p = .int .i64 k ∧ k ≤ m ∧ Hid (ends 0 b = pre ++ ends k (b.drop k)) ∧ wr.cell? ⟨Bn, 0, none⟩ = some (.slice A m c) ∧ Hid (Sl .u8 wr A m c b) ∧ J pre wr)
    (fun p wr => m - (intOf p).toNat)
  case atStart =>
    exact ⟨0, [], rfl, Nat.zero_le _, Lib.hid rfl, hBn, S0, h0⟩
  case round =>
    obtain ⟨k, pre, rfl, hk, hE, hB, hS, hJs⟩ := hrel
    by_cases hkm : k < m
    · have i1 : (k : Int) < (m : Int) := by omega
      obtain ⟨bb, off, x, hAe, hx, _, _⟩ := hS.out.row.look hkm
      subst hAe
      have hS2 := hS.out.cutS k (m - k) (by omega)
      rw [List.take_of_length_le (by rw [List.length_drop]; omega)] at hS2
      have hne : b.drop k ≠ [] := by intro e; have := congrArg List.length e; simp at this; omega
      have hst := ends_step k hne
      have hel := esz_le (b.drop k)
      rw [List.length_drop] at hel
      have hs2 := Lib.hid hS2
      generalize he : esz (b.drop k) = z at hst hel
      have HE := Lib.hid he
      have HS := Lib.hid hst
      clear hS2 hst he hx
      have hck : ¬ c = k := by have := hs2.out.le; omega
      by_cases hz : 0 < z
      · have i2 : 0 < (z : Int) := by omega
        have hlt2 : pre.length < (ends 0 b).length := by rw [hE.out, HS.out, if_pos hz]; simp
        obtain ⟨fn, tmps, assign, body, hy, hR⟩ := hY pre (k, k + z) wr hJs hlt2
        simp only [sp, Int.natCast_add] at hy
        gi_wp2_with fail
        refine ⟨trivial, ?_⟩
        refine (esize_in _ _ _ _ _ _ hs2.out (by omega)).mono ?_
        rintro e w' ⟨rfl, rfl⟩
        rw [HE.out]
        gi_wp2_with fail
        refine hR.mono ?_
        rintro e W3 (⟨rfl, hJ3, hk3⟩ | ⟨rfl, hJx3⟩)
        · have hB3 : W3.cell? ⟨Bn, 0, none⟩ = some (.slice (some ⟨bb, off, none⟩) m c) := hk3.cell.trans hB
          have hS3 := Lib.hid (sl_far hS.out hk3.1 hA)
          have hnx := HS.out
          rw [if_pos hz, Nat.max_eq_left (show 1 ≤ z by omega), drop_step] at hnx
          have hE3 := hE.out
          rw [hnx, ← List.append_assoc] at hE3
          have HE3 := Lib.hid hE3
          have i3 : (1 : Int) ≤ (z : Int) := by omega
          clear hnx hE3 hy
          gi_wp2_with fail
          go_roundw
          case rel => exact ⟨k + z, pre ++ [(k, k + z)], by go_num, by omega, HE3, hB3, hS3, hJ3⟩
          case measure => simp [intOf]; omega
        · have HX := Lib.hid hJx3
          clear hJx3 hy
          gi_wp2_with fail
          refine bodyPost_ret (results_none rfl _ _ _) rfl ?_
          refine ⟨⟨_, rfl⟩, .inr ⟨_, ?_, HX.out⟩⟩
          refine ⟨ends (k + z) (b.drop (k + z)), ?_⟩
          rw [hE.out, HS.out, if_pos hz, Nat.max_eq_left (show 1 ≤ z by omega), drop_step]; simp
      · obtain rfl : z = 0 := by omega
        gi_wp2_with fail
        refine ⟨trivial, ?_⟩
        refine (esize_in _ _ _ _ _ _ hs2.out (by omega)).mono ?_
        rintro e w' ⟨rfl, rfl⟩
        rw [HE.out]
        gi_wp2_with fail
        refine ⟨fun _ h => (by cases h), ?_⟩
        have hnx := HS.out
        rw [if_neg (by omega), Nat.max_eq_right (by omega), drop_step, List.nil_append] at hnx
        have hE3 := hE.out
        rw [hnx] at hE3
        have HE3 := Lib.hid hE3
        clear hnx hE3
        gi_wp2_with fail
        go_roundw
        case rel => exact ⟨k + 1, pre, by go_num, by omega, HE3, hB, hS, hJs⟩
        case measure => simp [intOf]; omega
    · obtain rfl : k = m := by omega
      have i1 : ¬ (k : Int) < (k : Int) := by omega
      gi_wp2
      go_end0
      have he : ends 0 b = pre := by rw [hE.out, List.drop_of_length_le (by omega)]; simp [ends]
      exact ⟨⟨_, rfl⟩, .inl (he ▸ hJs)⟩

set_option maxHeartbeats 1000000 in
theorem ends_in (N : Nat) (A : Option Addr) (n c : Nat) (w : World) :
    CallsIn Fence.wide N Try.prog 51 #[.slice A n c] w fun e w' => e = .returned (.func (.func 66) #[] #[.pointer (some ⟨w.heap.size, 0, none⟩)]) ∧ w' = w.alloc (.cells #[.slice A n c] 22) := by
  refine callsIn_of_wp Try.func51 rfl trivial ?_ rfl
  simp only [Try.ntmps51, List.size_toArray, List.length_cons, List.length_nil, Nat.reduceAdd, Nat.reduceSub, Array.replicate_succ, Array.replicate_zero, List.push_toArray, List.append_toArray, List.nil_append, List.cons_append]
  gi_wp2
  go_ret
  exact ⟨rfl, rfl⟩

theorem ends_stops (n : Nat) (hn : 1 ≤ n) (Bn n₀ : Nat) (A : Option Addr) (m c : Nat) (b : List Int) (w : World) (hBn : Bn < w.heap.size) (hn₀ : n₀ ≤ w.heap.size)
    (hc : w.cell? ⟨Bn, 0, none⟩ = some (.slice A m c)) (hA : b ≠ [] → ∀ x, A = some x → x.block < n₀) (hL : Sl .u8 w A m c b) :
    SeqStopsK Fence.wide n Try.prog 66 #[.pointer (some ⟨Bn, 0, none⟩)] (fun x : Nat × Nat => #[sp x]) (Kep n₀ Bn) (fun ys => ys = ends 0 b) (fun pre => pre <+: ends 0 b) (ends 0 b).length w := fun l J Jx W hW _ _ hY h0 =>
  ends1_in n hn l Bn n₀ A m c b J Jx hY W ((hW.cell (p := ⟨Bn, 0, none⟩) hBn).trans hc) hA (hL.below hW) h0
end Lc
end Go.Proofs.Ytfpgnnjkojpmdaa
