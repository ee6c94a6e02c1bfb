/-
  What the statements' hexes of layer 8 computes.
-/
import Derived.Test.YtjkaccmhpilojaaEf
namespace Go.Proofs.Ytjkaccmhpilojaa
set_option linter.unusedVariables false
set_option linter.unusedSimpArgs false
open Go.RowKit
namespace Em
open Wd We Utf Es Wi Wf Wr

/-- the digits of a number of 16 bits, the first k of them -/
def DS (n : Int) : Nat → List Int → Prop
  | 0, ds => ds = []
  | k + 1, ds => ∃ ds' a, ds = ds' ++ [a] ∧ DS n k ds' ∧ vx a = n / 16 ^ (3 - k) % 16 ∧ 48 ≤ a ∧ a ≤ 102
theorem DS.len {n : Int} : ∀ {k : Nat} {ds : List Int}, DS n k ds → ds.length = k
  | 0, ds, h => by rw [show ds = [] from h]; rfl
  | k + 1, ds, h => by
    obtain ⟨ds', a, rfl, h1, _⟩ := h
    rw [List.length_append, h1.len]; rfl
theorem DS.four {n : Int} (h0 : 0 ≤ n) (h1 : n < 65536) {ds : List Int} (h : DS n 4 ds) : ∃ a b c d, ds = [a, b, c, d] ∧ D4 a b c d ∧ v4 a b c d = n := by
  obtain ⟨_, d, rfl, ⟨_, c, rfl, ⟨_, b, rfl, ⟨_, a, rfl, rfl, ha, _⟩, hb, _⟩, hc, _⟩, hd, _⟩ := h
  refine ⟨a, b, c, d, rfl, ⟨by omega, by omega, by omega, by omega⟩, ?_⟩
  unfold v4
  rw [ha, hb, hc, hd]
  simp only [Nat.sub_zero, Nat.reduceSub, Int.reducePow]
  omega

theorem and_15 (a : Int) : bits .and .i64 a 15 = a % 16 := by
  show IntKind.i64.wrap ((BitVec.ofInt 64 a &&& BitVec.ofInt 64 15).toNat : Int) = _
  rw [BitVec.toNat_and, BitVec.toNat_ofInt, BitVec.toNat_ofInt, show ((15 : Int) % ((2 ^ 64 : Nat) : Int)).toNat = 2 ^ 4 - 1 from rfl, Nat.and_two_pow_sub_one_eq_mod, IntKind.wrap_i64]
  omega
theorem vx_48 {d : Int} (h0 : 0 ≤ d) (h1 : ¬ 9 < d) : vx (48 + d) = d := by unfold vx; rw [if_pos (by omega)]; omega
theorem vx_87 {d : Int} (h0 : 9 < d) (h1 : d < 16) : vx (87 + d) = d := by unfold vx; rw [if_neg (by omega), if_pos (by omega)]; omega
theorem vx_55 {d : Int} (h0 : 9 < d) (h1 : d < 16) : vx (55 + d) = d := by unfold vx; rw [if_neg (by omega), if_neg (by omega), if_pos (by omega)]; omega
set_option maxRecDepth 100000 in
set_option maxHeartbeats 4000000 in
theorem hexes_any (n g : Int) (h0 : 0 ≤ n) (h1 : n < 65536) (g0 : -9223372036854775808 ≤ g) (g1 : g ≤ 9223372036854775807) (w : World) :
    Calls Try.prog 21 #[.int .i64 n, .int .i64 g] w fun e w' => ∃ a b c d, e = .returned (.string (Dm.bs [92, 117, a, b, c, d])) ∧ D4 a b c d ∧ v4 a b c d = n ∧ Below w.heap.size w w' := by
  obtain ⟨i0, hi, hz0, hz1, hz2⟩ := info_parts u8_info
  go_enter Try.func21, Try.ntmps21
  go_wp2
  go_loopw [5, 6] (fun ov iv wr => ∃ (k : Nat) (ds : List Int), iv = .int .i64 (3 - (k : Int)) ∧ k ≤ 4 ∧ Hid (DS n k ds) ∧ Hid (Wd.Own .u8 5 wr w.heap.size ov (92 :: 117 :: ds)) ∧ Hid (Below w.heap.size w wr)) (fun _ iv _ => (intOf iv + 1).toNat)
  case atStart => exact ⟨0, [], by simp, by omega, Lib.hid rfl, Lib.hid (Wd.Own.new w [92, 117] 5 .u8 (by unfold maxLen; simp) (Nat.le_refl _)), Lib.hid (Dd2.below_alloc w _)⟩
  case round =>
    obtain ⟨k, ds, rfl, hk, hds, hoo, hbw⟩ := hrel
    have hsz := hbw.out.size
    rcases (show k = 0 ∨ k = 1 ∨ k = 2 ∨ k = 3 ∨ k = 4 by omega) with rfl | rfl | rfl | rfl | rfl
    · obtain ⟨D, hD⟩ : ∃ D, n / 4096 % 16 = D := ⟨_, rfl⟩
      have hdl := hds.out.len
      have hD0 : 0 ≤ D := by omega
      have hD1 : D < 16 := by omega
      have hdv : n / 16 ^ (3 - 0) % 16 = D := by simp only [Nat.sub_zero, Nat.reduceSub, Int.reducePow] at *; omega
      have ha : bits .and .i64 (n / 4096) 15 = D := by rw [and_15]; exact hD
      by_cases h9 : 9 < D
      · rcases (show bits .and .i64 (g / 8) 1 = 1 ∨ ¬ bits .and .i64 (g / 8) 1 = 1 by omega) with hg | hg
        · clear hD
          have X1 : ((92 :: 117 :: ds).length + 1) * 1 ≤ 140737488355328 := by simp only [List.length_cons]; omega
          have X2 : (92 :: 117 :: ds).length + 1 ≤ maxLen := by unfold maxLen; simp only [List.length_cons]; omega
          have SN := Lib.hid (show Sl .u8 (wr.alloc (.cells #[.int .u8 (55 + D)] 5)) (some ⟨wr.heap.size, 0, none⟩) 1 1 [55 + D] from Sl.new wr [55 + D] 5 .u8 (by unfold maxLen; simp))
          have OE := Lib.hid (Wd.Own.below hoo.out (Dd2.below_alloc wr (.cells #[.int .u8 (55 + D)] 5)) (fun g hg' => (hoo.out.lt hg').2))
          have BE := Lib.hid (hbw.out.trans ((Dd2.below_alloc wr (.cells #[.int .u8 (55 + D)] 5)).mono hsz))
          have HD2 : Hid (DS n 1 (ds ++ [55 + D])) := Lib.hid ⟨ds, _, rfl, hds.out, by rw [hdv, vx_55 (by omega) (by omega)], by omega, by omega⟩
          go_wp2_with (at_builtin; refine wp_app rfl _ _ _ rfl w.heap.size Try.underlying27 hi hz0 hz1 hz2 rfl rfl OE.out rfl SN.out X1 X2 (by first | omega | (simp; omega)) ?_; intro v3 w3 ho3 hb3 _; have HO3 := Lib.hid ho3; have HB3 := Lib.hid (BE.out.trans hb3); clear ho3 hb3)
          exact ⟨⟨1, ds ++ [55 + D], by simp, by omega, HD2, HO3, HB3⟩, by simp [intOf]⟩
        · clear hD
          have X1 : ((92 :: 117 :: ds).length + 1) * 1 ≤ 140737488355328 := by simp only [List.length_cons]; omega
          have X2 : (92 :: 117 :: ds).length + 1 ≤ maxLen := by unfold maxLen; simp only [List.length_cons]; omega
          have SN := Lib.hid (show Sl .u8 (wr.alloc (.cells #[.int .u8 (87 + D)] 5)) (some ⟨wr.heap.size, 0, none⟩) 1 1 [87 + D] from Sl.new wr [87 + D] 5 .u8 (by unfold maxLen; simp))
          have OE := Lib.hid (Wd.Own.below hoo.out (Dd2.below_alloc wr (.cells #[.int .u8 (87 + D)] 5)) (fun g hg' => (hoo.out.lt hg').2))
          have BE := Lib.hid (hbw.out.trans ((Dd2.below_alloc wr (.cells #[.int .u8 (87 + D)] 5)).mono hsz))
          have HD2 : Hid (DS n 1 (ds ++ [87 + D])) := Lib.hid ⟨ds, _, rfl, hds.out, by rw [hdv, vx_87 (by omega) (by omega)], by omega, by omega⟩
          go_wp2_with (at_builtin; refine wp_app rfl _ _ _ rfl w.heap.size Try.underlying27 hi hz0 hz1 hz2 rfl rfl OE.out rfl SN.out X1 X2 (by first | omega | (simp; omega)) ?_; intro v3 w3 ho3 hb3 _; have HO3 := Lib.hid ho3; have HB3 := Lib.hid (BE.out.trans hb3); clear ho3 hb3)
          exact ⟨⟨1, ds ++ [87 + D], by simp, by omega, HD2, HO3, HB3⟩, by simp [intOf]⟩
      · clear hD
        have X1 : ((92 :: 117 :: ds).length + 1) * 1 ≤ 140737488355328 := by simp only [List.length_cons]; omega
        have X2 : (92 :: 117 :: ds).length + 1 ≤ maxLen := by unfold maxLen; simp only [List.length_cons]; omega
        have SN := Lib.hid (show Sl .u8 (wr.alloc (.cells #[.int .u8 (48 + D)] 5)) (some ⟨wr.heap.size, 0, none⟩) 1 1 [48 + D] from Sl.new wr [48 + D] 5 .u8 (by unfold maxLen; simp))
        have OE := Lib.hid (Wd.Own.below hoo.out (Dd2.below_alloc wr (.cells #[.int .u8 (48 + D)] 5)) (fun g hg' => (hoo.out.lt hg').2))
        have BE := Lib.hid (hbw.out.trans ((Dd2.below_alloc wr (.cells #[.int .u8 (48 + D)] 5)).mono hsz))
        have HD2 : Hid (DS n 1 (ds ++ [48 + D])) := Lib.hid ⟨ds, _, rfl, hds.out, by rw [hdv, vx_48 (by omega) (by omega)], by omega, by omega⟩
        go_wp2_with (at_builtin; refine wp_app rfl _ _ _ rfl w.heap.size Try.underlying27 hi hz0 hz1 hz2 rfl rfl OE.out rfl SN.out X1 X2 (by first | omega | (simp; omega)) ?_; intro v3 w3 ho3 hb3 _; have HO3 := Lib.hid ho3; have HB3 := Lib.hid (BE.out.trans hb3); clear ho3 hb3)
        exact ⟨⟨1, ds ++ [48 + D], by simp, by omega, HD2, HO3, HB3⟩, by simp [intOf]⟩
    · obtain ⟨D, hD⟩ : ∃ D, n / 256 % 16 = D := ⟨_, rfl⟩
      have hdl := hds.out.len
      have hD0 : 0 ≤ D := by omega
      have hD1 : D < 16 := by omega
      have hdv : n / 16 ^ (3 - 1) % 16 = D := by simp only [Nat.sub_zero, Nat.reduceSub, Int.reducePow] at *; omega
      have ha : bits .and .i64 (n / 256) 15 = D := by rw [and_15]; exact hD
      by_cases h9 : 9 < D
      · rcases (show bits .and .i64 (g / 4) 1 = 1 ∨ ¬ bits .and .i64 (g / 4) 1 = 1 by omega) with hg | hg
        · clear hD
          have X1 : ((92 :: 117 :: ds).length + 1) * 1 ≤ 140737488355328 := by simp only [List.length_cons]; omega
          have X2 : (92 :: 117 :: ds).length + 1 ≤ maxLen := by unfold maxLen; simp only [List.length_cons]; omega
          have SN := Lib.hid (show Sl .u8 (wr.alloc (.cells #[.int .u8 (55 + D)] 5)) (some ⟨wr.heap.size, 0, none⟩) 1 1 [55 + D] from Sl.new wr [55 + D] 5 .u8 (by unfold maxLen; simp))
          have OE := Lib.hid (Wd.Own.below hoo.out (Dd2.below_alloc wr (.cells #[.int .u8 (55 + D)] 5)) (fun g hg' => (hoo.out.lt hg').2))
          have BE := Lib.hid (hbw.out.trans ((Dd2.below_alloc wr (.cells #[.int .u8 (55 + D)] 5)).mono hsz))
          have HD2 : Hid (DS n 2 (ds ++ [55 + D])) := Lib.hid ⟨ds, _, rfl, hds.out, by rw [hdv, vx_55 (by omega) (by omega)], by omega, by omega⟩
          go_wp2_with (at_builtin; refine wp_app rfl _ _ _ rfl w.heap.size Try.underlying27 hi hz0 hz1 hz2 rfl rfl OE.out rfl SN.out X1 X2 (by first | omega | (simp; omega)) ?_; intro v3 w3 ho3 hb3 _; have HO3 := Lib.hid ho3; have HB3 := Lib.hid (BE.out.trans hb3); clear ho3 hb3)
          exact ⟨⟨2, ds ++ [55 + D], by simp, by omega, HD2, HO3, HB3⟩, by simp [intOf]⟩
        · clear hD
          have X1 : ((92 :: 117 :: ds).length + 1) * 1 ≤ 140737488355328 := by simp only [List.length_cons]; omega
          have X2 : (92 :: 117 :: ds).length + 1 ≤ maxLen := by unfold maxLen; simp only [List.length_cons]; omega
          have SN := Lib.hid (show Sl .u8 (wr.alloc (.cells #[.int .u8 (87 + D)] 5)) (some ⟨wr.heap.size, 0, none⟩) 1 1 [87 + D] from Sl.new wr [87 + D] 5 .u8 (by unfold maxLen; simp))
          have OE := Lib.hid (Wd.Own.below hoo.out (Dd2.below_alloc wr (.cells #[.int .u8 (87 + D)] 5)) (fun g hg' => (hoo.out.lt hg').2))
          have BE := Lib.hid (hbw.out.trans ((Dd2.below_alloc wr (.cells #[.int .u8 (87 + D)] 5)).mono hsz))
          have HD2 : Hid (DS n 2 (ds ++ [87 + D])) := Lib.hid ⟨ds, _, rfl, hds.out, by rw [hdv, vx_87 (by omega) (by omega)], by omega, by omega⟩
          go_wp2_with (at_builtin; refine wp_app rfl _ _ _ rfl w.heap.size Try.underlying27 hi hz0 hz1 hz2 rfl rfl OE.out rfl SN.out X1 X2 (by first | omega | (simp; omega)) ?_; intro v3 w3 ho3 hb3 _; have HO3 := Lib.hid ho3; have HB3 := Lib.hid (BE.out.trans hb3); clear ho3 hb3)
          exact ⟨⟨2, ds ++ [87 + D], by simp, by omega, HD2, HO3, HB3⟩, by simp [intOf]⟩
      · clear hD
        have X1 : ((92 :: 117 :: ds).length + 1) * 1 ≤ 140737488355328 := by simp only [List.length_cons]; omega
        have X2 : (92 :: 117 :: ds).length + 1 ≤ maxLen := by unfold maxLen; simp only [List.length_cons]; omega
        have SN := Lib.hid (show Sl .u8 (wr.alloc (.cells #[.int .u8 (48 + D)] 5)) (some ⟨wr.heap.size, 0, none⟩) 1 1 [48 + D] from Sl.new wr [48 + D] 5 .u8 (by unfold maxLen; simp))
        have OE := Lib.hid (Wd.Own.below hoo.out (Dd2.below_alloc wr (.cells #[.int .u8 (48 + D)] 5)) (fun g hg' => (hoo.out.lt hg').2))
        have BE := Lib.hid (hbw.out.trans ((Dd2.below_alloc wr (.cells #[.int .u8 (48 + D)] 5)).mono hsz))
        have HD2 : Hid (DS n 2 (ds ++ [48 + D])) := Lib.hid ⟨ds, _, rfl, hds.out, by rw [hdv, vx_48 (by omega) (by omega)], by omega, by omega⟩
        go_wp2_with (at_builtin; refine wp_app rfl _ _ _ rfl w.heap.size Try.underlying27 hi hz0 hz1 hz2 rfl rfl OE.out rfl SN.out X1 X2 (by first | omega | (simp; omega)) ?_; intro v3 w3 ho3 hb3 _; have HO3 := Lib.hid ho3; have HB3 := Lib.hid (BE.out.trans hb3); clear ho3 hb3)
        exact ⟨⟨2, ds ++ [48 + D], by simp, by omega, HD2, HO3, HB3⟩, by simp [intOf]⟩
    · obtain ⟨D, hD⟩ : ∃ D, n / 16 % 16 = D := ⟨_, rfl⟩
      have hdl := hds.out.len
      have hD0 : 0 ≤ D := by omega
      have hD1 : D < 16 := by omega
      have hdv : n / 16 ^ (3 - 2) % 16 = D := by simp only [Nat.sub_zero, Nat.reduceSub, Int.reducePow] at *; omega
      have ha : bits .and .i64 (n / 16) 15 = D := by rw [and_15]; exact hD
      by_cases h9 : 9 < D
      · rcases (show bits .and .i64 (g / 2) 1 = 1 ∨ ¬ bits .and .i64 (g / 2) 1 = 1 by omega) with hg | hg
        · clear hD
          have X1 : ((92 :: 117 :: ds).length + 1) * 1 ≤ 140737488355328 := by simp only [List.length_cons]; omega
          have X2 : (92 :: 117 :: ds).length + 1 ≤ maxLen := by unfold maxLen; simp only [List.length_cons]; omega
          have SN := Lib.hid (show Sl .u8 (wr.alloc (.cells #[.int .u8 (55 + D)] 5)) (some ⟨wr.heap.size, 0, none⟩) 1 1 [55 + D] from Sl.new wr [55 + D] 5 .u8 (by unfold maxLen; simp))
          have OE := Lib.hid (Wd.Own.below hoo.out (Dd2.below_alloc wr (.cells #[.int .u8 (55 + D)] 5)) (fun g hg' => (hoo.out.lt hg').2))
          have BE := Lib.hid (hbw.out.trans ((Dd2.below_alloc wr (.cells #[.int .u8 (55 + D)] 5)).mono hsz))
          have HD2 : Hid (DS n 3 (ds ++ [55 + D])) := Lib.hid ⟨ds, _, rfl, hds.out, by rw [hdv, vx_55 (by omega) (by omega)], by omega, by omega⟩
          go_wp2_with (at_builtin; refine wp_app rfl _ _ _ rfl w.heap.size Try.underlying27 hi hz0 hz1 hz2 rfl rfl OE.out rfl SN.out X1 X2 (by first | omega | (simp; omega)) ?_; intro v3 w3 ho3 hb3 _; have HO3 := Lib.hid ho3; have HB3 := Lib.hid (BE.out.trans hb3); clear ho3 hb3)
          exact ⟨⟨3, ds ++ [55 + D], by simp, by omega, HD2, HO3, HB3⟩, by simp [intOf]⟩
        · clear hD
          have X1 : ((92 :: 117 :: ds).length + 1) * 1 ≤ 140737488355328 := by simp only [List.length_cons]; omega
          have X2 : (92 :: 117 :: ds).length + 1 ≤ maxLen := by unfold maxLen; simp only [List.length_cons]; omega
          have SN := Lib.hid (show Sl .u8 (wr.alloc (.cells #[.int .u8 (87 + D)] 5)) (some ⟨wr.heap.size, 0, none⟩) 1 1 [87 + D] from Sl.new wr [87 + D] 5 .u8 (by unfold maxLen; simp))
          have OE := Lib.hid (Wd.Own.below hoo.out (Dd2.below_alloc wr (.cells #[.int .u8 (87 + D)] 5)) (fun g hg' => (hoo.out.lt hg').2))
          have BE := Lib.hid (hbw.out.trans ((Dd2.below_alloc wr (.cells #[.int .u8 (87 + D)] 5)).mono hsz))
          have HD2 : Hid (DS n 3 (ds ++ [87 + D])) := Lib.hid ⟨ds, _, rfl, hds.out, by rw [hdv, vx_87 (by omega) (by omega)], by omega, by omega⟩
          go_wp2_with (at_builtin; refine wp_app rfl _ _ _ rfl w.heap.size Try.underlying27 hi hz0 hz1 hz2 rfl rfl OE.out rfl SN.out X1 X2 (by first | omega | (simp; omega)) ?_; intro v3 w3 ho3 hb3 _; have HO3 := Lib.hid ho3; have HB3 := Lib.hid (BE.out.trans hb3); clear ho3 hb3)
          exact ⟨⟨3, ds ++ [87 + D], by simp, by omega, HD2, HO3, HB3⟩, by simp [intOf]⟩
      · clear hD
        have X1 : ((92 :: 117 :: ds).length + 1) * 1 ≤ 140737488355328 := by simp only [List.length_cons]; omega
        have X2 : (92 :: 117 :: ds).length + 1 ≤ maxLen := by unfold maxLen; simp only [List.length_cons]; omega
        have SN := Lib.hid (show Sl .u8 (wr.alloc (.cells #[.int .u8 (48 + D)] 5)) (some ⟨wr.heap.size, 0, none⟩) 1 1 [48 + D] from Sl.new wr [48 + D] 5 .u8 (by unfold maxLen; simp))
        have OE := Lib.hid (Wd.Own.below hoo.out (Dd2.below_alloc wr (.cells #[.int .u8 (48 + D)] 5)) (fun g hg' => (hoo.out.lt hg').2))
        have BE := Lib.hid (hbw.out.trans ((Dd2.below_alloc wr (.cells #[.int .u8 (48 + D)] 5)).mono hsz))
        have HD2 : Hid (DS n 3 (ds ++ [48 + D])) := Lib.hid ⟨ds, _, rfl, hds.out, by rw [hdv, vx_48 (by omega) (by omega)], by omega, by omega⟩
        go_wp2_with (at_builtin; refine wp_app rfl _ _ _ rfl w.heap.size Try.underlying27 hi hz0 hz1 hz2 rfl rfl OE.out rfl SN.out X1 X2 (by first | omega | (simp; omega)) ?_; intro v3 w3 ho3 hb3 _; have HO3 := Lib.hid ho3; have HB3 := Lib.hid (BE.out.trans hb3); clear ho3 hb3)
        exact ⟨⟨3, ds ++ [48 + D], by simp, by omega, HD2, HO3, HB3⟩, by simp [intOf]⟩
    · obtain ⟨D, hD⟩ : ∃ D, n % 16 = D := ⟨_, rfl⟩
      have hdl := hds.out.len
      have hD0 : 0 ≤ D := by omega
      have hD1 : D < 16 := by omega
      have hdv : n / 16 ^ (3 - 3) % 16 = D := by simp only [Nat.sub_zero, Nat.reduceSub, Int.reducePow] at *; omega
      have ha : bits .and .i64 (n) 15 = D := by rw [and_15]; exact hD
      by_cases h9 : 9 < D
      · rcases (show bits .and .i64 (g) 1 = 1 ∨ ¬ bits .and .i64 (g) 1 = 1 by omega) with hg | hg
        · clear hD
          have X1 : ((92 :: 117 :: ds).length + 1) * 1 ≤ 140737488355328 := by simp only [List.length_cons]; omega
          have X2 : (92 :: 117 :: ds).length + 1 ≤ maxLen := by unfold maxLen; simp only [List.length_cons]; omega
          have SN := Lib.hid (show Sl .u8 (wr.alloc (.cells #[.int .u8 (55 + D)] 5)) (some ⟨wr.heap.size, 0, none⟩) 1 1 [55 + D] from Sl.new wr [55 + D] 5 .u8 (by unfold maxLen; simp))
          have OE := Lib.hid (Wd.Own.below hoo.out (Dd2.below_alloc wr (.cells #[.int .u8 (55 + D)] 5)) (fun g hg' => (hoo.out.lt hg').2))
          have BE := Lib.hid (hbw.out.trans ((Dd2.below_alloc wr (.cells #[.int .u8 (55 + D)] 5)).mono hsz))
          have HD2 : Hid (DS n 4 (ds ++ [55 + D])) := Lib.hid ⟨ds, _, rfl, hds.out, by rw [hdv, vx_55 (by omega) (by omega)], by omega, by omega⟩
          go_wp2_with (at_builtin; refine wp_app rfl _ _ _ rfl w.heap.size Try.underlying27 hi hz0 hz1 hz2 rfl rfl OE.out rfl SN.out X1 X2 (by first | omega | (simp; omega)) ?_; intro v3 w3 ho3 hb3 _; have HO3 := Lib.hid ho3; have HB3 := Lib.hid (BE.out.trans hb3); clear ho3 hb3)
          exact ⟨⟨4, ds ++ [55 + D], by simp, by omega, HD2, HO3, HB3⟩, by simp [intOf]⟩
        · clear hD
          have X1 : ((92 :: 117 :: ds).length + 1) * 1 ≤ 140737488355328 := by simp only [List.length_cons]; omega
          have X2 : (92 :: 117 :: ds).length + 1 ≤ maxLen := by unfold maxLen; simp only [List.length_cons]; omega
          have SN := Lib.hid (show Sl .u8 (wr.alloc (.cells #[.int .u8 (87 + D)] 5)) (some ⟨wr.heap.size, 0, none⟩) 1 1 [87 + D] from Sl.new wr [87 + D] 5 .u8 (by unfold maxLen; simp))
          have OE := Lib.hid (Wd.Own.below hoo.out (Dd2.below_alloc wr (.cells #[.int .u8 (87 + D)] 5)) (fun g hg' => (hoo.out.lt hg').2))
          have BE := Lib.hid (hbw.out.trans ((Dd2.below_alloc wr (.cells #[.int .u8 (87 + D)] 5)).mono hsz))
          have HD2 : Hid (DS n 4 (ds ++ [87 + D])) := Lib.hid ⟨ds, _, rfl, hds.out, by rw [hdv, vx_87 (by omega) (by omega)], by omega, by omega⟩
          go_wp2_with (at_builtin; refine wp_app rfl _ _ _ rfl w.heap.size Try.underlying27 hi hz0 hz1 hz2 rfl rfl OE.out rfl SN.out X1 X2 (by first | omega | (simp; omega)) ?_; intro v3 w3 ho3 hb3 _; have HO3 := Lib.hid ho3; have HB3 := Lib.hid (BE.out.trans hb3); clear ho3 hb3)
          exact ⟨⟨4, ds ++ [87 + D], by simp, by omega, HD2, HO3, HB3⟩, by simp [intOf]⟩
      · clear hD
        have X1 : ((92 :: 117 :: ds).length + 1) * 1 ≤ 140737488355328 := by simp only [List.length_cons]; omega
        have X2 : (92 :: 117 :: ds).length + 1 ≤ maxLen := by unfold maxLen; simp only [List.length_cons]; omega
        have SN := Lib.hid (show Sl .u8 (wr.alloc (.cells #[.int .u8 (48 + D)] 5)) (some ⟨wr.heap.size, 0, none⟩) 1 1 [48 + D] from Sl.new wr [48 + D] 5 .u8 (by unfold maxLen; simp))
        have OE := Lib.hid (Wd.Own.below hoo.out (Dd2.below_alloc wr (.cells #[.int .u8 (48 + D)] 5)) (fun g hg' => (hoo.out.lt hg').2))
        have BE := Lib.hid (hbw.out.trans ((Dd2.below_alloc wr (.cells #[.int .u8 (48 + D)] 5)).mono hsz))
        have HD2 : Hid (DS n 4 (ds ++ [48 + D])) := Lib.hid ⟨ds, _, rfl, hds.out, by rw [hdv, vx_48 (by omega) (by omega)], by omega, by omega⟩
        go_wp2_with (at_builtin; refine wp_app rfl _ _ _ rfl w.heap.size Try.underlying27 hi hz0 hz1 hz2 rfl rfl OE.out rfl SN.out X1 X2 (by first | omega | (simp; omega)) ?_; intro v3 w3 ho3 hb3 _; have HO3 := Lib.hid ho3; have HB3 := Lib.hid (BE.out.trans hb3); clear ho3 hb3)
        exact ⟨⟨4, ds ++ [48 + D], by simp, by omega, HD2, HO3, HB3⟩, by simp [intOf]⟩
    · have hdl := hds.out.len
      obtain ⟨a, b, c, d, rfl, hd4, hv4⟩ := hds.out.four h0 h1
      obtain ⟨O9, hO9⟩ : ∃ O9, [92, 117, a, b, c, d] = O9 := ⟨_, rfl⟩
      rw [hO9] at hoo
      obtain ⟨Ao, co, rfl, so, _⟩ := hoo.out.sl
      have kb := conv_bs so
      have hb9 := Lib.hid hbw.out
      have H4 := Lib.hid hd4
      have HV := Lib.hid hv4
      have HO := Lib.hid hO9
      clear so hoo hds hd4 hv4 hO9
      go_wp2
      go_ret
      exact ⟨a, b, c, d, by rw [HO.out]; rfl, H4.out, HV.out, hb9.out⟩
end Em
end Go.Proofs.Ytjkaccmhpilojaa
