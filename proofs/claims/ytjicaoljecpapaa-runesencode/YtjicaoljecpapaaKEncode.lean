/-
  The walk of RunesEncode.
-/
import Derived.Test.YtjicaoljecpapaaWf
import Derived.Test.YtjicaoljecpapaaWp
namespace Go.Proofs.Ytjicaoljecpapaa
set_option linter.unusedVariables false
open Go.RowKit Go.ChangeShapes Go.WideShapes
open Utf Wd Wr We Wi Wf

/-- a block of n cells of the type t, none of them frozen -/
def Blk (w : World) (g : Nat) (t : TypeId) (n : Nat) : Prop := ∃ cs, w.heap[g]? = some (.cells cs t (0, 0)) ∧ cs.size = n
theorem Blk.cell {w : World} {g n j : Nat} {t : TypeId} (h : Blk w g t n) (hj : j < n) : ∃ v, w.cell? ⟨g, j, none⟩ = some v := by
  obtain ⟨cs, hh, hs⟩ := h
  rw [cell_of_row _ _ _ _ _ _ hh]
  exact ⟨cs[j]'(by omega), by simp [hs, hj]⟩
theorem Blk.frozen {w : World} {g n j : Nat} {t : TypeId} (h : Blk w g t n) : w.frozen? ⟨g, j, none⟩ = false := by
  obtain ⟨cs, hh, hs⟩ := h
  simp [World.frozen?, hh]
theorem Blk.set {w : World} {g n j : Nat} {t : TypeId} (h : Blk w g t n) (u : Value) : Blk (w.setCell ⟨g, j, none⟩ u) g t n := by
  obtain ⟨cs, hh, hs⟩ := h
  exact ⟨cs.setIfInBounds j u, by simp [World.setCell, Array.getElem?_modify, hh], by simp [hs]⟩

set_option maxHeartbeats 800000 in
theorem walk_RunesEncode (a0 : Int) (w : World) (w0 : (Lit.int .i64 a0).wf = true) :
    Calls Try.prog 3 #[.int .i64 a0] w fun e w' => e = .returned (.bool true) ∧ Below w.heap.size w w' := by
  by_cases hc : Utf.form a0 = 0
  · have R0 : ∀ W : World, Hid (Row .u8 W none 0 []) := fun W => Row.nil
    go_enter Try.func3, Try.ntmps3
    go_wp2_with fail
    refine (encode_no a0 hc _).mono ?_
    rintro e w2 ⟨rfl, rfl⟩
    go_wp2_with fail
    refine (rencode_no a0 hc _).mono ?_
    rintro e w2 ⟨rfl, rfl⟩
    go_wp2_with fail
    refine (eq_any _ _ _ _ _ _ [] [] _ Row.nil Row.nil (Nat.zero_le _)).mono ?_
    rintro e w2 ⟨rfl, q, rfl⟩
    rw [decide_eq_true rfl]
    go_wp2_with fail
    go_loop [7] (fun ix => ix = .int .i64 0) (fun _ => 0)
    case atStart => rfl
    case round =>
      obtain rfl := hrel
      go_wp2_with fail
      refine (encode_no a0 hc _).mono ?_
      rintro e w2 ⟨rfl, rfl⟩
      go_wp2_with fail
      refine (eq_any _ _ _ _ _ _ [] [] _ Row.nil Row.nil (Nat.zero_le _)).mono ?_
      rintro e w2 ⟨rfl, q2, rfl⟩
      rw [decide_eq_true rfl]
      go_wp2_with fail
      refine (works_true _).mono ?_
      rintro e w1 ⟨rfl, hb1⟩
      go_wp2
      go_ret
      exact ⟨rfl, ext_trans (below_drewN (Below.refl _ _) _) hb1⟩
  · have h4 : (enc a0).length ≤ 4 := by have := enc_length a0; have := form_cases a0; omega
    have HC := Lib.hid hc
    clear hc
    go_enter Try.func3, Try.ntmps3
    go_wp2_with fail
    refine (encode_ok a0 HC.out _).mono ?_
    rintro e w2 ⟨rfl, rfl⟩
    go_wp2_with fail
    refine (rencode_ok a0 HC.out _).mono ?_
    rintro e w2 ⟨rfl, rfl⟩
    have r1 := Lib.hid ((Row.new w (enc a0) 5 .u8).alloc (.cells (bs (enc a0)) 5))
    have r2 : Hid (Row .u8 ((w.alloc (.cells (bs (enc a0)) 5)).alloc (.cells (bs (enc a0)) 5)) (some ⟨w.heap.size + 1, 0, none⟩) (enc a0).length (enc a0)) := by
      have h := Row.new (w.alloc (.cells (bs (enc a0)) 5)) (enc a0) 5 .u8
      rw [show (w.alloc (.cells (bs (enc a0)) 5)).heap.size = w.heap.size + 1 by simp] at h
      exact h
    go_wp2_with fail
    refine (eq_any _ _ _ _ _ _ (enc a0) (enc a0) _ r1.out r2.out (by unfold maxLen; omega)).mono ?_
    rintro e w3 ⟨rfl, q, rfl⟩
    rw [decide_eq_true rfl]
    go_wp2_with fail
    go_loopw [7] (fun ix wr => ∃ k : Nat, k ≤ (enc a0).length ∧ ix = .int .i64 k ∧ Blk wr w.heap.size 5 (enc a0).length ∧ Row .u8 wr (some ⟨w.heap.size + 1, 0, none⟩) (enc a0).length (enc a0) ∧ Below w.heap.size w wr) (fun ix _ => (enc a0).length - (intOf ix).toNat)
    case atStart =>
      refine ⟨0, Nat.zero_le _, rfl, ⟨bs (enc a0), ?_, by simp [bs]⟩, r2.out, below_drewN (ext_trans (below_alloc _ _) (below_alloc _ _)) q⟩
      show ((w.heap.push _).push _)[w.heap.size]? = _
      rw [Array.getElem?_push, if_neg (by simp), Array.getElem?_push, if_pos rfl]
      rfl
    case round =>
      obtain ⟨k, hk, rfl, hblk, hrow, hbel⟩ := hrel
      have HK := Lib.hid hblk
      have HR := Lib.hid hrow
      have HB := Lib.hid hbel
      clear hblk hrow hbel
      by_cases hlt : k < (enc a0).length
      · obtain ⟨v, hcell⟩ := HK.out.cell hlt
        have hfr := HK.out.frozen (j := k)
        have i1 : (k : Int) < ((enc a0).length : Int) := by omega
        go_wp2
        go_roundw
        case rel => exact ⟨k + 1, by omega, by go_num, HK.out.set _, HR.out.keepFar _ _ (by simp), HB.out.setCell (Nat.le_refl _) _⟩
        case measure => simp [intOf]; omega
      · obtain rfl : k = (enc a0).length := by omega
        go_wp2_with fail
        refine (encode_ok a0 HC.out _).mono ?_
        rintro e w4 ⟨rfl, rfl⟩
        go_wp2_with fail
        refine (eq_any _ _ _ _ _ _ (enc a0) (enc a0) _ (Row.new wr (enc a0) 5 .u8) (HR.out.alloc _) (by unfold maxLen; omega)).mono ?_
        rintro e w5 ⟨rfl, q2, rfl⟩
        rw [decide_eq_true rfl]
        go_wp2_with fail
        refine (works_true _).mono ?_
        rintro e w6 ⟨rfl, hb6⟩
        go_wp2
        go_ret
        exact ⟨rfl, ext_trans (below_drewN (ext_trans HB.out (below_alloc _ _)) _) hb6⟩
end Go.Proofs.Ytjicaoljecpapaa
