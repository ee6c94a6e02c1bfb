/-
  The walk of PlaceSpans.
-/
import Derived.Test.YtfpgnnjkojpmdaaPi
import Derived.Test.YtfpgnnjkojpmdaaWe
import Derived.Test.YtfpgnnjkojpmdaaWp
namespace Go.Proofs.Ytfpgnnjkojpmdaa
set_option linter.unusedVariables false
set_option linter.unusedSimpArgs false
open Go.RowKit Go.ChangeShapes Go.WideShapes
open Utf Wd Wr We Wi Lm Lc Pc

set_option maxRecDepth 100000 in
set_option maxHeartbeats 40000000 in
theorem walk_PlaceSpans (A0 : Option Addr) (n0 c0 : Nat) (l0 : List Int) (a1 b1 : Int) (a2 b2 : Int) (w : World) (s0 : Sl .u8 w A0 n0 c0 l0) (b0 : ∀ x ∈ l0, (Lit.int .u8 x).wf = true) (z0 : c0 * 1 ≤ 140737488351232) (u0 : c0 ≤ 1048576) (w1 : (Lit.int .i64 a1).wf = true) (x1 : (Lit.int .i64 b1).wf = true) (w2 : (Lit.int .i64 a2).wf = true) (x2 : (Lit.int .i64 b2).wf = true) :
    Calls Try.prog 9 #[.slice A0 n0 c0, .agg #[.int .i64 a1, .int .i64 b1], .agg #[.int .i64 a2, .int .i64 b2]] w fun e w' => e = .returned (.bool true) ∧ Below w.heap.size w w' := by
  have hx1 := i64_of w1
  have hx2 := i64_of x1
  have hx3 := i64_of w2
  have hx4 := i64_of x2
  have S := Lib.hid s0
  have hB := isB_of b0
  have hnle := s0.le
  have hlen := s0.len
  clear s0 b0 z0 w1 x1 w2 x2
  have hb0 := ext_trans (below_alloc w (.cells #[.int .i64 a1, .int .i64 b1] 67)) (below_alloc (w.alloc (.cells #[.int .i64 a1, .int .i64 b1] 67)) (.cells #[.int .i64 a2, .int .i64 b2] 67))
  have bp := (Blk.new w 67 #[.int .i64 a1, .int .i64 b1]).alloc (.cells #[.int .i64 a2, .int .i64 b2] 67)
  have bq := Blk.new (w.alloc (.cells #[.int .i64 a1, .int .i64 b1] 67)) 67 #[.int .i64 a2, .int .i64 b2]
  rw [World.size_alloc] at bq
  have B0 := Lib.hid hb0
  have S0 := Lib.hid (S.out.below hb0)
  have BP0 := Lib.hid bp
  have BQ0 := Lib.hid bq
  clear hb0 bp bq S
  rcases txt_or hB with ⟨cs, hc, rfl⟩ | ⟨x, y, e, he, hch⟩
  · have HF := Lib.hid (show ((Lm.ends 0 (encs cs)).length + 1) * 16 ≤ 140737488355328 by have := Lm.ends_le (encs cs) 0; omega)
    have HC := Lib.hid hc
    have HL := Lib.hid hlen
    obtain ⟨m1, h1⟩ := Int.eq_ofNat_of_zero_le (Int.emod_nonneg a1 (b := 50) (by omega))
    obtain ⟨k1, h2⟩ := Int.eq_ofNat_of_zero_le (Int.emod_nonneg b1 (b := 50) (by omega))
    obtain ⟨m2, h3⟩ := Int.eq_ofNat_of_zero_le (Int.emod_nonneg a2 (b := 50) (by omega))
    obtain ⟨k2, h4⟩ := Int.eq_ofNat_of_zero_le (Int.emod_nonneg b2 (b := 50) (by omega))
    have hl2 := Int.emod_lt_of_pos b1 (b := 50) (by omega)
    have hl4 := Int.emod_lt_of_pos b2 (b := 50) (by omega)
    rw [h2] at hl2
    rw [h4] at hl4
    have HB1 := Lib.hid h1
    have HB2 := Lib.hid h2
    have HB3 := Lib.hid h3
    have HB4 := Lib.hid h4
    have hk1 := Lib.hid (show k1 ≤ 9223372036854775807 by omega)
    have hk2 := Lib.hid (show k2 ≤ 9223372036854775807 by omega)
    obtain ⟨i, pp, pre, post, hag⟩ := again hc m1 k1
    obtain ⟨i', pp', pre', post', hag'⟩ := again hc m2 k2
    obtain ⟨N, hN⟩ : ∃ N, off cs m1 k1 = N := ⟨_, rfl⟩
    obtain ⟨N', hN'⟩ : ∃ N, off cs m2 k2 = N := ⟨_, rfl⟩
    obtain ⟨U, hU⟩ : ∃ U, (uns pre).length = U := ⟨_, rfl⟩
    obtain ⟨U', hU'⟩ : ∃ U, (uns pre').length = U := ⟨_, rfl⟩
    have HN := Lib.hid hN
    have HN' := Lib.hid hN'
    have hNle : N' ≤ (encs cs).length := by rw [← hN']; exact off_le hc m2 k2
    have HNL := Lib.hid hNle
    have g1 : Hid (plc cs N = (i, U)) := Lib.hid (by rw [← hN, ← hU]; exact hag.plc)
    have g2 : Hid (off cs i U = N) := Lib.hid (by rw [← hN, ← hU]; exact hag.same)
    have g1' : Hid (plc cs N' = (i', U')) := Lib.hid (by rw [← hN', ← hU']; exact hag'.plc)
    have g2' : Hid (off cs i' U' = N') := Lib.hid (by rw [← hN', ← hU']; exact hag'.same)
    have hUm : Hid ((U : Int) ≤ 9223372036854775807) := Lib.hid (by
      have h1 := (uns_len ((hag.ln.chars hc).left)).1
      have h2 := hag.ln.len
      have h3 := hag.ln.le
      rw [encs_append, List.length_append] at h2
      omega)
    have hUm' : Hid ((U' : Int) ≤ 9223372036854775807) := Lib.hid (by
      have h1 := (uns_len ((hag'.ln.chars hc).left)).1
      have h2 := hag'.ln.len
      have h3 := hag'.ln.le
      rw [encs_append, List.length_append] at h2
      omega)
    clear hag hag' hN hN' hU hU' hNle
    clear h1 h2 h3 h4 hl2 hl4 hc hlen hB
    go_enter Try.func9, Try.ntmps9
    go_wp2_with fail
    refine (works_true _).mono ?_
    rintro r w1 ⟨rfl, hb⟩
    have B1 := Lib.hid (ext_trans B0.out hb)
    have S1 := Lib.hid (S0.out.below hb)
    have BP1 := Lib.hid (BP0.out.ext hb)
    have BQ1 := Lib.hid (BQ0.out.ext hb)
    clear hb
    go_wp2_with fail
    refine (made_ok _ _ _ _ _ HC.out S1.out HF.out (by omega)).mono ?_
    rintro r w2 ⟨M, P, A, c, rfl, hM, hb⟩
    have HM2 := Lib.hid hM
    have B2 := Lib.hid (ext_trans B1.out hb)
    have BP2 := Lib.hid (BP1.out.ext hb)
    have BQ2 := Lib.hid (BQ1.out.ext hb)
    clear hM hb B0 S0 BP0 BQ0 B1 S1 BP1 BQ1 hnle
    have p0 := BP2.out.at_ 0 rfl
    have p1 := BP2.out.at_ 1 rfl
    have q0 := BQ2.out.at_ 0 rfl
    have q1 := BQ2.out.at_ 1 rfl
    have lp := BP2.out.lt
    have lq := BQ2.out.lt
    generalize w.heap.size + 1 = Xq at *
    generalize hXp : w.heap.size = Xp at p0 p1 lp ⊢
    have HS := Lib.hid (show ∀ w', Below w2.heap.size w2 w' → (w'.cell? ⟨Xp, 0, none⟩ = some (.int .i64 a1) ∧ w'.cell? ⟨Xp, 1, none⟩ = some (.int .i64 b1) ∧ w'.cell? ⟨Xq, 0, none⟩ = some (.int .i64 a2) ∧ w'.cell? ⟨Xq, 1, none⟩ = some (.int .i64 b2) ∧ Below w2.heap.size w2 w') from fun w' hb => ⟨(hb.cell (p := ⟨Xp, 0, none⟩) lp).trans p0, (hb.cell (p := ⟨Xp, 1, none⟩) lp).trans p1, (hb.cell (p := ⟨Xq, 0, none⟩) lq).trans q0, (hb.cell (p := ⟨Xq, 1, none⟩) lq).trans q1, hb⟩)
    go_upto_region 6 with fail
    go_cut [8] (fun s8 wx => ∃ X : Nat, s8 = .pointer (some ⟨X, 0, none⟩) ∧ wx.cell? ⟨X, 0, none⟩ = some (.int .i64 (m1 : Nat)) ∧ wx.cell? ⟨X, 1, none⟩ = some (.int .i64 (k1 : Nat)) ∧ wx.cell? ⟨X, 2, none⟩ = some (.int .i64 (m2 : Nat)) ∧ wx.cell? ⟨X, 3, none⟩ = some (.int .i64 (k2 : Nat)) ∧ Below w2.heap.size w2 wx)
    case first =>
      go_region_held3 (fun w' => w'.cell? ⟨Xp, 0, none⟩ = some (.int .i64 a1) ∧ w'.cell? ⟨Xp, 1, none⟩ = some (.int .i64 b1) ∧ w'.cell? ⟨Xq, 0, none⟩ = some (.int .i64 a2) ∧ w'.cell? ⟨Xq, 1, none⟩ = some (.int .i64 b2) ∧ Below w2.heap.size w2 w') (exact HS.out _ (by repeat (first | assumption | exact Below.refl _ _ | refine below_drew ?_ | refine Below.alloc ?_ (by first | omega | (simp <;> omega)) _ | refine Below.setCell ?_ (by first | omega | (simp <;> omega)) _)))
        (first
          | (go_at_call_of 31 (Value.int IntKind.i64 a1); refine (bring_at a1 50 (by decide) (by decide) hx1.1 hx1.2 _ HB1.out).mono ?_; rintro e w' ⟨rfl, rfl⟩)
          | (go_at_call_of 31 (Value.int IntKind.i64 b1); refine (bring_at b1 50 (by decide) (by decide) hx2.1 hx2.2 _ HB2.out).mono ?_; rintro e w' ⟨rfl, rfl⟩)
          | (go_at_call_of 31 (Value.int IntKind.i64 a2); refine (bring_at a2 50 (by decide) (by decide) hx3.1 hx3.2 _ HB3.out).mono ?_; rintro e w' ⟨rfl, rfl⟩)
          | (go_at_call_of 31 (Value.int IntKind.i64 b2); refine (bring_at b2 50 (by decide) (by decide) hx4.1 hx4.2 _ HB4.out).mono ?_; rintro e w' ⟨rfl, rfl⟩)
          | (go_at_call 32; refine (lpos_any _ _ _).mono ?_; rintro e w3 ⟨rfl, hb2⟩; have hb3 := Below.trans (show Below w2.heap.size w2 _ by repeat (first | assumption | exact Below.refl _ _ | refine below_drew ?_ | refine Below.alloc ?_ (by first | omega | (simp <;> omega)) _)) (hb2.mono (by first | omega | (simp <;> omega))); have hz3 := hb2.size; obtain ⟨hcc, hff⟩ := bcell hb2; (try simp at hz3); (try simp at hcc); (try simp at hff); (try (have hz4 := Nat.lt_of_succ_le hz3)); have ya : w2.heap.size < w3.heap.size + 1 := (by omega); have yb : w2.heap.size < w3.heap.size + 1 + 1 := (by omega); have yc : w2.heap.size + 1 < w3.heap.size + 1 + 1 := (by omega); (try (have yd : w2.heap.size < w3.heap.size := (by omega))); (try (have ye : w2.heap.size + 1 < w3.heap.size := (by omega))); (try (have yf : w2.heap.size + 1 < w3.heap.size + 1 := (by omega))); clear hb2))
      all_goals (go_wp2_with fail; go_meet; exact ⟨_, rfl, by go_simp, by go_simp, by go_simp, by go_simp, by repeat (first | assumption | exact Below.refl _ _ | refine below_drew ?_ | refine Below.alloc ?_ (by first | omega | (simp <;> omega)) _ | refine Below.setCell ?_ (by first | omega | (simp <;> omega)) _)⟩)
    case rest =>
      obtain ⟨X, rfl, x0, x1, x2, x3, hbc⟩ := hcut
      have HM3 := Lib.hid (HM2.out.ext hbc)
      have B3 := Lib.hid (ext_trans B2.out hbc)
      have hXl : X < wc.heap.size := lt_of_cell x0
      have HX := Lib.hid (show ∀ w', Below wc.heap.size wc w' → (w'.cell? ⟨X, 0, none⟩ = some (.int .i64 (m1 : Nat)) ∧ w'.cell? ⟨X, 1, none⟩ = some (.int .i64 (k1 : Nat)) ∧ w'.cell? ⟨X, 2, none⟩ = some (.int .i64 (m2 : Nat)) ∧ w'.cell? ⟨X, 3, none⟩ = some (.int .i64 (k2 : Nat))) from fun w' hb => ⟨(hb.cell (p := ⟨X, 0, none⟩) hXl).trans x0, (hb.cell (p := ⟨X, 1, none⟩) hXl).trans x1, (hb.cell (p := ⟨X, 2, none⟩) hXl).trans x2, (hb.cell (p := ⟨X, 3, none⟩) hXl).trans x3⟩)
      clear hbc p0 p1 q0 q1 lp lq HS
      go_wp2_with fail
      refine (offset_ok _ _ _ _ _ _ HM3.out m1 k1 hk1.out HN.out).mono ?_
      rintro r w4 ⟨rfl, hb⟩
      have HM4 := Lib.hid (HM3.out.ext hb)
      have B4 := Lib.hid (ext_trans B3.out hb)
      have bw4 := hb
      clear hb x0 x1 x2 x3
      obtain ⟨x0, x1, x2, x3⟩ := HX.out _ bw4
      go_wp2_with fail
      refine (offset_ok _ _ _ _ _ _ HM4.out m2 k2 hk2.out HN'.out).mono ?_
      rintro r w5 ⟨rfl, hb⟩
      have HM5 := Lib.hid (HM4.out.ext hb)
      have B5 := Lib.hid (ext_trans B4.out hb)
      have bw5 := ext_trans bw4 hb
      clear hb x0 x1 x2 x3 bw4
      obtain ⟨x0, x1, x2, x3⟩ := HX.out _ bw5
      by_cases hlt : N' < N
      · have HZ := Lib.hid (spz_arg cs (l := m1) (ch := k1) (l' := m2) (ch' := k2) (by rw [HN.out, HN'.out]; exact hlt))
        have t1 : (N' : Int) < (N : Int) := by omega
        go_wp2_with fail
        refine (span_at _ _ _ _ _ _ HM5.out _ _ _ _ (by have := hk1.out; omega) (by have := hk2.out; omega) HZ.out).mono ?_
        rintro r w6 ⟨rfl, hb⟩
        replace hb := ext_trans hb (below_alloc w6 (.cells #[.int .i64 0, .int .i64 0] 44))
        have BN6 := Lib.hid (Blk.new w6 44 #[.int .i64 0, .int .i64 0])
        have HM6 := Lib.hid (HM5.out.ext hb)
        have B6 := Lib.hid (ext_trans B5.out hb)
        clear hb bw5 x0 x1 x2 x3
        have s0 := BN6.out.at_ 0 rfl
        have s1 := BN6.out.at_ 1 rfl
        have ls := BN6.out.lt
        go_wp2_with fail
        go_ret
        exact ⟨rfl, B6.out⟩
      · have HZ : Hid (spz cs m1 k1 m2 k2 = ((N : Int), (N' : Int), 0)) := Lib.hid (by rw [spz_nat cs (by rw [HN.out, HN'.out]; omega), HN.out, HN'.out])
        have HR : Hid (rgz cs N N' = (((i : Int), (U : Int)), ((i' : Int), (U' : Int)), 0)) := Lib.hid (by rw [rgz_nat (by omega) HNL.out, g1.out, g1'.out])
        have HY : Hid (spz cs i U i' U' = ((N : Int), (N' : Int), 0)) := Lib.hid (by rw [spz_nat cs (by rw [g2.out, g2'.out]; omega), g2.out, g2'.out])
        have t1 : ¬ (N' : Int) < (N : Int) := by omega
        go_wp2_with fail
        refine (span_at _ _ _ _ _ _ HM5.out _ _ _ _ (by have := hk1.out; omega) (by have := hk2.out; omega) HZ.out).mono ?_
        rintro r w6 ⟨rfl, hb⟩
        replace hb := ext_trans hb (below_alloc w6 (.cells #[.int .i64 (N : Nat), .int .i64 (N' : Nat)] 44))
        have BN6 := Lib.hid (Blk.new w6 44 #[.int .i64 (N : Nat), .int .i64 (N' : Nat)])
        have HM6 := Lib.hid (HM5.out.ext hb)
        have B6 := Lib.hid (ext_trans B5.out hb)
        clear hb bw5 x0 x1 x2 x3
        have s0 := BN6.out.at_ 0 rfl
        have s1 := BN6.out.at_ 1 rfl
        have ls := BN6.out.lt
        go_wp2_with fail
        refine (range_at _ _ _ _ _ _ HM6.out _ _ HR.out).mono ?_
        rintro r w7 ⟨rfl, hb⟩
        replace hb := ext_trans hb (below_alloc w7 (.cells #[.int .i64 (i : Nat), .int .i64 (U : Nat), .int .i64 (i' : Nat), .int .i64 (U' : Nat)] 42))
        have BO7 := Lib.hid (Blk.new w7 42 #[.int .i64 (i : Nat), .int .i64 (U : Nat), .int .i64 (i' : Nat), .int .i64 (U' : Nat)])
        have BN7 := Lib.hid (BN6.out.ext hb)
        have HM7 := Lib.hid (HM6.out.ext hb)
        have B7 := Lib.hid (ext_trans B6.out hb)
        clear hb s0 s1 ls
        have o0 := BO7.out.at_ 0 rfl
        have o1 := BO7.out.at_ 1 rfl
        have o2 := BO7.out.at_ 2 rfl
        have o3 := BO7.out.at_ 3 rfl
        have lo := BO7.out.lt
        go_wp2_with fail
        refine (span_at _ _ _ _ _ _ HM7.out _ _ _ _ hUm.out hUm'.out HY.out).mono ?_
        rintro r w8 ⟨rfl, hb⟩
        replace hb := ext_trans hb (below_alloc w8 (.cells #[.int .i64 (N : Nat), .int .i64 (N' : Nat)] 44))
        have BK8 := Lib.hid (Blk.new w8 44 #[.int .i64 (N : Nat), .int .i64 (N' : Nat)])
        have BN8 := Lib.hid (BN7.out.ext hb)
        have HM8 := Lib.hid (HM7.out.ext hb)
        have B8 := Lib.hid (ext_trans B7.out hb)
        clear hb o0 o1 o2 o3 lo
        have s0 := BN8.out.at_ 0 rfl
        have s1 := BN8.out.at_ 1 rfl
        have ls := BN8.out.lt
        have z0 := BK8.out.at_ 0 rfl
        have z1 := BK8.out.at_ 1 rfl
        have lz := BK8.out.lt
        go_wp2_with fail
        go_ret
        exact ⟨rfl, B8.out⟩
  · have K := Lib.hid hch
    clear hch
    go_enter Try.func9, Try.ntmps9
    go_wp2_with fail
    refine (works_true _).mono ?_
    rintro r w1 ⟨rfl, hb⟩
    have B1 := Lib.hid (ext_trans B0.out hb)
    have S1 := Lib.hid (S0.out.below hb)
    clear hb
    go_wp2_with fail
    refine (made_bad _ _ _ _ _ S1.out hB K.out he).mono ?_
    rintro r w2 ⟨rfl, rfl⟩
    go_wp2_with fail
    go_ret
    exact ⟨rfl, B1.out⟩
end Go.Proofs.Ytfpgnnjkojpmdaa
