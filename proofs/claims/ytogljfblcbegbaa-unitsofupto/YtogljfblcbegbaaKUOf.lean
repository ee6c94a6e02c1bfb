/-
  The walk of UnitsOf.
-/
import Derived.Test.YtogljfblcbegbaaUs
import Derived.Test.YtogljfblcbegbaaWp
namespace Go.Proofs.Ytogljfblcbegbaa
set_option linter.unusedVariables false
open Go.RowKit Go.ChangeShapes Go.WideShapes
open Utf Wd Wr We Wi Wf Uw

/-- a block of n cells at least of the type t, none of them frozen -/
def Blk (w : World) (g : Nat) (t : TypeId) (n : Nat) : Prop := ∃ cs, w.heap[g]? = some (.cells cs t (0, 0)) ∧ n ≤ cs.size
theorem Blk.cell {w : World} {g n j : Nat} {t : TypeId} (h : Blk w g t n) (hj : j < n) : ∃ v, w.cell? ⟨g, j, none⟩ = some v := by
  obtain ⟨cs, hh, hs⟩ := h
  rw [cell_of_row _ _ _ _ _ _ hh]
  exact ⟨cs[j]'(by omega), by simp⟩
theorem Blk.frozen {w : World} {g n j : Nat} {t : TypeId} (h : Blk w g t n) : w.frozen? ⟨g, j, none⟩ = false := by
  obtain ⟨cs, hh, hs⟩ := h
  simp [World.frozen?, hh]
theorem Blk.set {w : World} {g n j : Nat} {t : TypeId} (h : Blk w g t n) (u : Value) : Blk (w.setCell ⟨g, j, none⟩ u) g t n := by
  obtain ⟨cs, hh, hs⟩ := h
  exact ⟨cs.setIfInBounds j u, by simp [World.setCell, Array.getElem?_modify, hh], by simpa using hs⟩
theorem own_blk {k : IntKind} {e : TypeId} {w : World} {B : Nat} {v : Value} {l : List Int} (h : Own k e w B v l) :
    (v = .slice none 0 0 ∧ l = []) ∨ (∃ g cap, v = .slice (some ⟨g, 0, none⟩) l.length cap ∧ B ≤ g ∧ Blk w g e l.length) := by
  rcases h.2 with ⟨rfl, h0⟩ | ⟨g, cap, cur, rfl, hg, hh, hn, hm, hs, ht⟩
  · exact .inl ⟨rfl, List.eq_nil_of_length_eq_zero h0⟩
  · exact .inr ⟨g, cap, rfl, hg, cur, hh, by omega⟩

set_option maxRecDepth 100000 in
set_option maxHeartbeats 1600000 in
theorem walk_UnitsOf (A0 : Option Addr) (n0 c0 : Nat) (l0 : List Int) (w : World) (s0 : Sl .u8 w A0 n0 c0 l0) (b0 : ∀ x ∈ l0, (Lit.int .u8 x).wf = true) (z0 : c0 * 1 ≤ 140737488351232) (u0 : c0 ≤ 1048576) :
    Calls Try.prog 3 #[.slice A0 n0 c0] w fun e w' => e = .returned (.bool true) ∧ Below w.heap.size w w' := by
  have hB := isB_of b0
  have hle := s0.le
  have hlen := s0.len
  have hn : n0 ≤ 1048576 := by omega
  rcases txt_or hB with ⟨cs, hc, rfl⟩ | ⟨x, y, er, he, hk⟩
  · have S := Lib.hid s0
    have HC := Lib.hid hc
    have hu := uns_len hc
    rw [hlen] at hu
    have HL := Lib.hid hlen
    clear s0 hc hB z0 hlen b0 u0
    go_enter Try.func3, Try.ntmps3
    go_wp2_with fail
    refine (copy_any _ _ _ _ _ S.out (by omega)).mono ?_
    rintro e w1 ⟨v1, rfl, o1, hb1⟩
    obtain ⟨A1, c1, rfl, t1, _⟩ := o1.sl
    have T1 := Lib.hid t1
    have S1 := Lib.hid (S.out.below hb1)
    rw [HL.out] at T1 ⊢
    clear t1 o1
    go_wp2_with fail
    refine (of_txt _ _ _ _ _ HC.out T1.out).mono ?_
    rintro e w' ⟨rfl, rfl⟩
    go_wp2_with fail
    refine (rof_txt _ _ _ _ _ HC.out S1.out (by omega)).mono ?_
    rintro e w2 ⟨rfl, hb2⟩
    have T2 := Lib.hid (T1.out.below hb2)
    have S2 := Lib.hid (S1.out.below hb2)
    have B2 := Lib.hid (ext_trans hb1 hb2)
    clear hb1 hb2
    go_wp2_with fail
    refine (of16_txt _ _ _ _ _ HC.out T2.out (by omega)).mono ?_
    rintro e w3 ⟨v3, rfl, o3, hb3⟩
    have O3 := Lib.hid o3
    have T3 := Lib.hid (T2.out.below hb3)
    have S3 := Lib.hid (S2.out.below hb3)
    have B3 := Lib.hid (ext_trans B2.out hb3)
    have hs3 := hb3.size
    have B23 := Lib.hid hb3
    clear hb3 o3
    go_wp2_with fail
    refine (rof16_txt _ _ _ _ _ HC.out S3.out (by omega)).mono ?_
    rintro e w4 ⟨v4, rfl, o4, hb4⟩
    obtain ⟨A4, c4, rfl, t4, _⟩ := o4.sl
    have T4 := Lib.hid t4
    have O34 := Lib.hid (O3.out.below hb4 (fun g hg => (O3.out.lt hg).2))
    have B24 := Lib.hid (ext_trans B23.out hb4)
    clear o4 t4 hb4
    obtain ⟨A3, c3, hv3, t34, _⟩ := O34.out.sl
    have T34 := Lib.hid t34
    clear t34
    have q0 : (((uns cs).length : Int) != ((uns cs).length : Int)) = false := by simp
    have HV3 := Lib.hid hv3
    rw [hv3]
    clear hv3
    go_wp2_with fail
    refine (same_any _ _ _ _ _ _ (uns cs) (uns cs) _ T34.out.row T4.out.row (by unfold maxLen; omega)).mono ?_
    rintro e w5 ⟨rfl, q, rfl⟩
    rw [show decide (uns cs = uns cs) = true from decide_eq_true rfl]
    have fin : ∀ wr : World, Below w2.heap.size w2 wr → Hid (Sl .u8 wr A1 n0 c1 (encs cs) ∧ Sl .u8 wr A0 n0 c0 (encs cs) ∧ Below w.heap.size w wr) := fun wr hb => ⟨T2.out.below hb, S2.out.below hb, ext_trans B2.out hb⟩
    have hx : (uns cs).length = 0 ∨ ∃ g, A3 = some ⟨g, 0, none⟩ ∧ w2.heap.size ≤ g ∧ Blk w4 g 31 (uns cs).length := by
      rcases own_blk O34.out with ⟨_, h⟩ | ⟨g, cap, h, hg, hb⟩
      · exact .inl (by rw [h]; rfl)
      · have := HV3.out.symm.trans h
        injection this with e1 e2 e3
        exact .inr ⟨g, e1, hg, hb⟩
    have HX := Lib.hid hx
    clear hx
    generalize (uns cs).length = N at *
    go_wp2_with fail
    go_loopw [12] (fun ix wr => ∃ k : Nat, k ≤ N ∧ ix = .int .i64 k ∧ Below w2.heap.size w2 wr ∧ (N = 0 ∨ ∃ g, A3 = some ⟨g, 0, none⟩ ∧ w2.heap.size ≤ g ∧ Blk wr g 31 N)) (fun ix _ => N - (intOf ix).toNat)
    case atStart => exact ⟨0, Nat.zero_le _, rfl, below_drewN B24.out q, HX.out⟩
    case round =>
      obtain ⟨k, hk, rfl, hbel, hblk⟩ := hrel
      have HB := Lib.hid hbel
      have HK := Lib.hid hblk
      clear hbel hblk
      by_cases hlt : k < N
      · have hk2 := HK.out
        rcases hk2 with h0 | ⟨g, rfl, hg, hbk⟩
        · exact absurd hlt (by omega)
        · obtain ⟨v, hcell⟩ := hbk.cell hlt
          have hfr := hbk.frozen (j := k)
          have BK := Lib.hid hbk
          have i1 : (k : Int) < (N : Int) := by omega
          clear hbk
          go_wp2
          go_roundw
          case rel => exact ⟨k + 1, by omega, by go_num, HB.out.setCell hg _, .inr ⟨g, rfl, hg, BK.out.set _⟩⟩
          case measure => simp [intOf]; omega
      · obtain rfl : k = N := by omega
        obtain ⟨T5, S5, B5⟩ := (fin wr HB.out).out
        go_wp2_with fail
        refine (eq_any _ _ _ _ _ _ (encs cs) (encs cs) _ T5.row S5.row (by unfold maxLen; omega)).mono ?_
        rintro e w6 ⟨rfl, q', rfl⟩
        rw [show decide (encs cs = encs cs) = true from decide_eq_true rfl]
        go_wp2_with fail
        refine (works_true _).mono ?_
        rintro e w7 ⟨rfl, hb7⟩
        go_wp2
        go_ret
        exact ⟨rfl, ext_trans (below_drewN B5 q') hb7⟩
  · have S := Lib.hid s0
    have HBB := Lib.hid hB
    have K := Lib.hid hk
    have HE := Lib.hid he
    have HL := Lib.hid hlen
    have q1 : (er != er) = false := by simp
    clear s0 hB z0 hlen hk he b0 u0
    go_enter Try.func3, Try.ntmps3
    go_wp2_with fail
    refine (copy_any _ _ _ _ _ S.out (by omega)).mono ?_
    rintro e w1 ⟨v1, rfl, o1, hb1⟩
    obtain ⟨A1, c1, rfl, t1, _⟩ := o1.sl
    have T1 := Lib.hid t1
    have S1 := Lib.hid (S.out.below hb1)
    rw [HL.out] at T1 ⊢
    clear t1 o1
    go_wp2_with fail
    refine (of_bad _ _ _ _ _ T1.out HBB.out K.out HE.out).mono ?_
    rintro e w' ⟨rfl, rfl⟩
    go_wp2_with fail
    refine (rof_bad _ _ _ _ _ S1.out HBB.out K.out HE.out (by omega)).mono ?_
    rintro e w2 ⟨rfl, hb2⟩
    have T2 := Lib.hid (T1.out.below hb2)
    have S2 := Lib.hid (S1.out.below hb2)
    have B2 := Lib.hid (ext_trans hb1 hb2)
    clear hb1 hb2
    go_wp2_with fail
    refine (of16_bad _ _ _ _ _ T2.out HBB.out K.out HE.out).mono ?_
    rintro e w' ⟨rfl, rfl⟩
    go_wp2_with fail
    refine (rof16_bad _ _ _ _ _ S2.out HBB.out K.out HE.out (by omega)).mono ?_
    rintro e w4 ⟨rfl, hb4⟩
    have T4 := Lib.hid (T2.out.below hb4)
    have S4 := Lib.hid (S2.out.below hb4)
    have B4 := Lib.hid (ext_trans B2.out hb4)
    clear hb4
    go_wp2_with fail
    refine (same_any _ _ _ _ _ _ [] [] _ Row.nil Row.nil (Nat.zero_le _)).mono ?_
    rintro e w5 ⟨rfl, q, rfl⟩
    rw [show decide (([] : List Int) = []) = true from decide_eq_true rfl]
    go_wp2_with fail
    go_loop [12] (fun ix => ix = .int .i64 0) (fun _ => 0)
    case atStart => rfl
    case round =>
      obtain rfl := hrel
      go_wp2_with fail
      refine (eq_any _ _ _ _ _ _ l0 l0 _ (T4.out.drewN q).row (S4.out.drewN q).row (by unfold maxLen; omega)).mono ?_
      rintro e w6 ⟨rfl, q', rfl⟩
      rw [show decide (l0 = l0) = true from decide_eq_true rfl]
      go_wp2_with fail
      refine (works_true _).mono ?_
      rintro e w7 ⟨rfl, hb7⟩
      go_wp2
      go_ret
      exact ⟨rfl, ext_trans (below_drewN B4.out (q + q')) hb7⟩
end Go.Proofs.Ytogljfblcbegbaa
