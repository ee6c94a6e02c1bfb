/-
  The walk of PlaceAgain.
-/
import Derived.Test.YtfpgnnjkojpmdaaPi
import Derived.Test.YtfpgnnjkojpmdaaWe
import Derived.Test.YtfpgnnjkojpmdaaWp
namespace Go.Proofs.Ytfpgnnjkojpmdaa
set_option linter.unusedVariables false
set_option linter.unusedSimpArgs false
open Go.RowKit Go.ChangeShapes Go.WideShapes
open Utf Wd Wr We Wi Lm Lc Pc

set_option maxRecDepth 100000 in
set_option maxHeartbeats 3200000 in
theorem walk_PlaceAgain (A0 : Option Addr) (n0 c0 : Nat) (l0 : List Int) (a1 : Int) (a2 : Int) (w : World) (s0 : Sl .u8 w A0 n0 c0 l0) (b0 : ∀ x ∈ l0, (Lit.int .u8 x).wf = true) (z0 : c0 * 1 ≤ 140737488351232) (u0 : c0 ≤ 1048576) (w1 : (Lit.int .i64 a1).wf = true) (w2 : (Lit.int .i64 a2).wf = true) :
    Calls Try.prog 6 #[.slice A0 n0 c0, .int .i64 a1, .int .i64 a2] w fun e w' => e = .returned (.bool true) ∧ Below w.heap.size w w' := by
  have hx1 := i64_of w1
  have hx2 := i64_of w2
  clear w1 w2
  have S := Lib.hid s0
  have hB := isB_of b0
  have hnle := s0.le
  have hlen := s0.len
  clear s0 b0 z0
  rcases txt_or hB with ⟨cs, hc, rfl⟩ | ⟨x, y, e, he, hch⟩
  · have hfew : ((Lm.ends 0 (encs cs)).length + 1) * 16 ≤ 140737488355328 := by have := Lm.ends_le (encs cs) 0; omega
    have HC := Lib.hid hc
    have HL := Lib.hid hlen
    obtain ⟨l, h1⟩ := Int.eq_ofNat_of_zero_le (Int.emod_nonneg a1 (b := 1099511627776) (by omega))
    have h1l := Int.emod_lt_of_pos a1 (b := 1099511627776) (by omega)
    rw [h1] at h1l
    have HB1 := Lib.hid h1
    obtain ⟨ch, h2⟩ := Int.eq_ofNat_of_zero_le (Int.emod_nonneg a2 (b := 1099511627776) (by omega))
    have h2l := Int.emod_lt_of_pos a2 (b := 1099511627776) (by omega)
    rw [h2] at h2l
    have HB2 := Lib.hid h2
    obtain ⟨i, p, pre, post, hag⟩ := again hc l ch
    have HA := Lib.hid hag
    obtain ⟨N, hN⟩ : ∃ N, off cs l ch = N := ⟨_, rfl⟩
    obtain ⟨U, hU⟩ : ∃ U, (uns pre).length = U := ⟨_, rfl⟩
    have HN := Lib.hid hN
    have HU := Lib.hid hU
    have hNle : N ≤ n0 := by rw [← hN, ← hlen]; exact off_le hc l ch
    have g1 : Hid (plc cs N = (i, U)) := Lib.hid (by rw [← hN, ← hU]; exact hag.plc)
    have g2 : Hid (off cs i U = N) := Lib.hid (by rw [← hN, ← hU]; exact hag.same)
    have hUl : U ≤ n0 := by
      have h1 := (uns_len ((hag.ln.chars hc).left)).1
      have h2 := hag.ln.len
      have h3 := hag.ln.le
      rw [encs_append, List.length_append] at h2
      omega
    have hil := hag.le
    have t1 : ¬ (i : Int) > (l : Int) := by omega
    have t2 : ((N : Int) != (N : Int)) = false := by simp
    have hcount : (lns (encs cs)).length ≤ n0 + 1 := by have := lns_le (encs cs); omega
    have hchm := Lib.hid (show ch ≤ 9223372036854775807 by omega)
    have hUm := Lib.hid (show U ≤ 9223372036854775807 by omega)
    have HF := Lib.hid hfew
    clear h1 h2 h1l h2l hag hN hU hc hlen hB hfew
    go_enter Try.func6, Try.ntmps6
    go_wp2_with fail
    refine (works_true w).mono ?_
    rintro e' w1 ⟨rfl, hb1⟩
    have B1 := Lib.hid hb1
    have S1 := Lib.hid (S.out.below hb1)
    clear hb1
    go_wp2_with fail
    refine (made_ok _ _ _ _ _ HC.out S1.out HF.out (by omega)).mono ?_
    rintro e' w2 ⟨M, P, A, c, rfl, hM, hb⟩
    have HM := Lib.hid hM
    have B2 := Lib.hid (ext_trans B1.out hb)
    have S2 := Lib.hid (S1.out.below hb)
    clear hM hb
    go_wp2_with fail
    refine (bring_at a1 1099511627776 (by decide) (by decide) hx1.1 hx1.2 _ HB1.out).mono ?_
    rintro e w' ⟨rfl, rfl⟩
    go_wp2_with fail
    refine (bring_at a2 1099511627776 (by decide) (by decide) hx2.1 hx2.2 _ HB2.out).mono ?_
    rintro e w' ⟨rfl, rfl⟩
    go_wp2_with fail
    refine (lpos_any _ _ _).mono ?_
    rintro r w3 ⟨rfl, hb⟩
    have B3 := Lib.hid (ext_trans B2.out hb)
    have HM3 := Lib.hid (HM.out.ext hb)
    have S3 := Lib.hid (S2.out.below hb)
    clear hb
    go_wp2_with fail
    refine (offset_ok _ _ _ _ _ _ HM3.out l ch hchm.out HN.out).mono ?_
    rintro r w4 ⟨rfl, hb⟩
    have B4 := Lib.hid (ext_trans B3.out hb)
    have HM4 := Lib.hid (HM3.out.ext hb)
    have S4 := Lib.hid (S3.out.below hb)
    clear hb
    go_wp2_with fail
    refine (pos_ok _ _ _ _ _ _ HM4.out N (by rw [HL.out]; exact hNle) g1.out).mono ?_
    rintro r w5 ⟨rfl, hb⟩
    replace hb := ext_trans hb (below_alloc w5 (.cells #[.int .i64 (i : Nat), .int .i64 (U : Nat)] 24))
    have BN5 := Lib.hid (Blk.new w5 24 #[.int .i64 (i : Nat), .int .i64 (U : Nat)])
    have B5 := Lib.hid (ext_trans B4.out hb)
    have HM5 := Lib.hid (HM4.out.ext hb)
    have S5 := Lib.hid (S4.out.below hb)
    clear hb
    go_wp2_with fail
    refine (offset_ok _ _ _ _ _ _ HM5.out i U hUm.out g2.out).mono ?_
    rintro r w6 ⟨rfl, hb⟩
    have B6 := Lib.hid (ext_trans B5.out hb)
    have HM6 := Lib.hid (HM5.out.ext hb)
    have S6 := Lib.hid (S5.out.below hb)
    have BN6 := Lib.hid (BN5.out.ext hb)
    clear hb
    have c0 := BN6.out.at_ 0 rfl
    have c1 := BN6.out.at_ 1 rfl
    have hlt := BN6.out.lt
    go_wp2_with fail
    refine (new_few _ _ _ _ _ S6.out (encs_byte cs) (chk_encs HC.out) HF.out).mono ?_
    rintro r w7 ⟨P7, rfl, hI, hb⟩
    have B7 := Lib.hid (ext_trans B6.out hb)
    have HM7 := Lib.hid (HM6.out.ext hb)
    have S7 := Lib.hid (S6.out.below hb)
    have BN7 := Lib.hid (BN6.out.ext hb)
    have HI := Lib.hid hI
    clear hI c0 c1 hlt
    clear hb
    have c0 := BN7.out.at_ 0 rfl
    have c1 := BN7.out.at_ 1 rfl
    have hlt := BN7.out.lt
    go_wp2_with fail
    refine (count_txt _ P7 _ _ HI.out).mono ?_
    rintro e w' ⟨rfl, rfl⟩
    by_cases hll : l < (lns (encs cs)).length
    · have t3 : ¬ (l : Int) ≥ ((lns (encs cs)).length : Int) := by omega
      obtain ⟨hil', hch1, hch2⟩ := HA.out.in_ hll
      subst hil'
      obtain ⟨p', q, hp', hq⟩ := ln_both (encs cs) hll
      rw [HA.out.ln.at_] at hp'; cases hp'
      have HQ := Lib.hid hq
      have hle := HA.out.ln.le
      have hfr := HA.out.ln.from
      have hlen := HA.out.ln.len
      have hNe := HA.out.off
      rw [HN.out] at hNe
      have htx := HA.out.ln.text
      have hea : (encs (pre ++ post)).length = (encs pre).length + (encs post).length := by rw [encs_append, List.length_append]
      have hua : (uns (pre ++ post)).length = U + (uns post).length := by rw [uns_append, List.length_append, HU.out]
      rw [HL.out] at hle
      have HT := Lib.hid htx
      obtain ⟨V, hV⟩ : ∃ V, (uns (pre ++ post)).length = V := ⟨_, rfl⟩
      have HV := Lib.hid hV
      have hVl : V ≤ n0 := by
        have h1 := (uns_len (HA.out.ln.chars HC.out)).1
        omega
      have HPM := Lib.hid (HA.out.ln.chars HC.out)
      rw [hV] at hua
      have hNge : p.1 ≤ N := by omega
      have hNl2 : N ≤ p.2 := by omega
      rw [HU.out] at hch1
      have hend : V ≤ ch → N = p.2 ∧ U = V := by
        intro hv
        have hp0 : post = [] := by
          cases post with
          | nil => rfl
          | cons d rest =>
            have := hch2 d rest rfl
            rw [uns_cons, List.length_append] at hua
            rw [HU.out] at this
            omega
        subst hp0
        have h1 : (encs ([] : List Int)).length = 0 := rfl
        have h2 : (uns ([] : List Int)).length = 0 := rfl
        omega
      have hmid : ¬ V ≤ ch → U = ch ∨ U + 1 = ch := by
        intro hv
        cases post with
        | nil => simp at hua; omega
        | cons d rest =>
          have := hch2 d rest rfl
          rw [HU.out] at this
          rcases us_len d with ⟨g, _⟩ | ⟨g, _⟩ <;> omega
      clear hlen htx hea hua hV hq hch2 hNe
      go_wp2_with fail
      refine (line_txt _ P7 _ i p q _ HI.out HA.out.ln.at_ HQ.out).mono ?_
      rintro e w8 ⟨rfl, hb⟩
      simp only [sp]
      have BN8 := Lib.hid (BN7.out.ext hb)
      have B8 := Lib.hid (ext_trans B7.out hb)
      have S8 := Lib.hid (S7.out.below hb)
      clear hb c0 c1 hlt
      by_cases hce : c0 = p.1
      · subst hce
        go_wp2_with fail
        have BN9 := Lib.hid (BN8.out.ext (ext_trans (below_alloc w8 (.cells #[.int .i64 (q.1 : Int), .int .i64 (q.2 : Int)] 44)) (below_alloc (w8.alloc (.cells #[.int .i64 (q.1 : Int), .int .i64 (q.2 : Int)] 44)) (.cells #[.int .i64 (p.1 : Int), .int .i64 (p.2 : Int)] 44))))
        have S9 := Lib.hid (S8.out.below (ext_trans (below_alloc w8 (.cells #[.int .i64 (q.1 : Int), .int .i64 (q.2 : Int)] 44)) (below_alloc (w8.alloc (.cells #[.int .i64 (q.1 : Int), .int .i64 (q.2 : Int)] 44)) (.cells #[.int .i64 (p.1 : Int), .int .i64 (p.2 : Int)] 44))))
        have B9 := Lib.hid (ext_trans B8.out (ext_trans (below_alloc w8 (.cells #[.int .i64 (q.1 : Int), .int .i64 (q.2 : Int)] 44)) (below_alloc (w8.alloc (.cells #[.int .i64 (q.1 : Int), .int .i64 (q.2 : Int)] 44)) (.cells #[.int .i64 (p.1 : Int), .int .i64 (p.2 : Int)] 44))))
        have sx := sl_cutE S9.out p.1 (p.2 - p.1) (by omega) rfl
        rw [HT.out] at sx
        have SX := Lib.hid sx
        have hbx : Pair ((w8.alloc (.cells #[.int .i64 (q.1 : Int), .int .i64 (q.2 : Int)] 44)).alloc (.cells #[.int .i64 (p.1 : Int), .int .i64 (p.2 : Int)] 44)) (w8.heap.size + 1) 44 p := by have := Pair.new (w8.alloc (.cells #[.int .i64 (q.1 : Int), .int .i64 (q.2 : Int)] 44)) 44 p; simpa using this
        have PX := Lib.hid hbx
        clear sx hbx
        refine (Uw.of_txt _ _ _ _ _ HPM.out SX.out).mono ?_
        rintro e w' ⟨rfl, rfl⟩
        rw [HV.out]
        generalize (w8.alloc (.cells #[.int .i64 (q.1 : Int), .int .i64 (q.2 : Int)] 44)).alloc (.cells #[.int .i64 (p.1 : Int), .int .i64 (p.2 : Int)] 44) = W9 at *
        generalize w8.heap.size + 1 = Y at *
        have c0 := BN9.out.at_ 0 rfl
        have c1 := BN9.out.at_ 1 rfl
        have hlt := BN9.out.lt
        have x0 := PX.out.at0
        have x1 := PX.out.at1
        have hlx := PX.out.lt
        have t4 : ((i : Int) != (i : Int)) = false := by simp
        have t5 : ¬ (N : Int) < (p.1 : Int) := by omega
        have t6 : ¬ (N : Int) > (p.2 : Int) := by omega
        have t7 : ¬ (U : Int) > (ch : Int) := by omega
        by_cases hv : V ≤ ch
        · obtain ⟨hN2, hUV⟩ := hend hv
          have t8 : (ch : Int) ≥ (V : Int) := by omega
          have t9 : ((N : Int) == (p.2 : Int)) = true := by simp; omega
          have t10 : ((U : Int) == (V : Int)) = true := by simp; omega
          clear hend hmid hN2 hUV
          go_wp2_with fail
          go_ret
          exact ⟨rfl, B9.out⟩
        · have t8 : ¬ (ch : Int) ≥ (V : Int) := by omega
          rcases hmid hv with hU2 | hU2
          · have t9 : ((U : Int) == (ch : Int)) = true := by simp; omega
            clear hend hmid hU2
            go_wp2_with fail
            go_ret
            exact ⟨rfl, B9.out⟩
          · have t9 : ((U : Int) == (ch : Int)) = false := by simp; omega
            have t11 : ((U : Int) == (ch : Int) - 1) = true := by simp; omega
            have t12 : 0 ≤ (ch : Int) - 1 := by omega
            have t13 : (ch : Int) ≤ 9223372036854775807 := by have := hchm.out; omega
            clear hend hmid hU2
            go_wp2_with fail
            go_ret
            exact ⟨rfl, B9.out⟩
      · go_wp2_with fail
        have BN9 := Lib.hid (BN8.out.ext (ext_trans (below_alloc w8 (.cells #[.int .i64 (q.1 : Int), .int .i64 (q.2 : Int)] 44)) (below_alloc (w8.alloc (.cells #[.int .i64 (q.1 : Int), .int .i64 (q.2 : Int)] 44)) (.cells #[.int .i64 (p.1 : Int), .int .i64 (p.2 : Int)] 44))))
        have S9 := Lib.hid (S8.out.below (ext_trans (below_alloc w8 (.cells #[.int .i64 (q.1 : Int), .int .i64 (q.2 : Int)] 44)) (below_alloc (w8.alloc (.cells #[.int .i64 (q.1 : Int), .int .i64 (q.2 : Int)] 44)) (.cells #[.int .i64 (p.1 : Int), .int .i64 (p.2 : Int)] 44))))
        have B9 := Lib.hid (ext_trans B8.out (ext_trans (below_alloc w8 (.cells #[.int .i64 (q.1 : Int), .int .i64 (q.2 : Int)] 44)) (below_alloc (w8.alloc (.cells #[.int .i64 (q.1 : Int), .int .i64 (q.2 : Int)] 44)) (.cells #[.int .i64 (p.1 : Int), .int .i64 (p.2 : Int)] 44))))
        have sx := sl_cutM S9.out p.1 (p.2 - p.1) (by omega)
        rw [HT.out] at sx
        have SX := Lib.hid sx
        have hbx : Pair ((w8.alloc (.cells #[.int .i64 (q.1 : Int), .int .i64 (q.2 : Int)] 44)).alloc (.cells #[.int .i64 (p.1 : Int), .int .i64 (p.2 : Int)] 44)) (w8.heap.size + 1) 44 p := by have := Pair.new (w8.alloc (.cells #[.int .i64 (q.1 : Int), .int .i64 (q.2 : Int)] 44)) 44 p; simpa using this
        have PX := Lib.hid hbx
        clear sx hbx
        refine (Uw.of_txt _ _ _ _ _ HPM.out SX.out).mono ?_
        rintro e w' ⟨rfl, rfl⟩
        rw [HV.out]
        generalize (w8.alloc (.cells #[.int .i64 (q.1 : Int), .int .i64 (q.2 : Int)] 44)).alloc (.cells #[.int .i64 (p.1 : Int), .int .i64 (p.2 : Int)] 44) = W9 at *
        generalize w8.heap.size + 1 = Y at *
        have c0 := BN9.out.at_ 0 rfl
        have c1 := BN9.out.at_ 1 rfl
        have hlt := BN9.out.lt
        have x0 := PX.out.at0
        have x1 := PX.out.at1
        have hlx := PX.out.lt
        have t4 : ((i : Int) != (i : Int)) = false := by simp
        have t5 : ¬ (N : Int) < (p.1 : Int) := by omega
        have t6 : ¬ (N : Int) > (p.2 : Int) := by omega
        have t7 : ¬ (U : Int) > (ch : Int) := by omega
        by_cases hv : V ≤ ch
        · obtain ⟨hN2, hUV⟩ := hend hv
          have t8 : (ch : Int) ≥ (V : Int) := by omega
          have t9 : ((N : Int) == (p.2 : Int)) = true := by simp; omega
          have t10 : ((U : Int) == (V : Int)) = true := by simp; omega
          clear hend hmid hN2 hUV
          go_wp2_with fail
          go_ret
          exact ⟨rfl, B9.out⟩
        · have t8 : ¬ (ch : Int) ≥ (V : Int) := by omega
          rcases hmid hv with hU2 | hU2
          · have t9 : ((U : Int) == (ch : Int)) = true := by simp; omega
            clear hend hmid hU2
            go_wp2_with fail
            go_ret
            exact ⟨rfl, B9.out⟩
          · have t9 : ((U : Int) == (ch : Int)) = false := by simp; omega
            have t11 : ((U : Int) == (ch : Int) - 1) = true := by simp; omega
            have t12 : 0 ≤ (ch : Int) - 1 := by omega
            have t13 : (ch : Int) ≤ 9223372036854775807 := by have := hchm.out; omega
            clear hend hmid hU2
            go_wp2_with fail
            go_ret
            exact ⟨rfl, B9.out⟩
    · have t3 : (l : Int) ≥ ((lns (encs cs)).length : Int) := by omega
      have hNe := HA.out.out (by omega)
      rw [HN.out, HL.out] at hNe
      subst hNe
      have ge : Hid (plc cs (encs cs).length = (i, U)) := Lib.hid (by rw [HL.out]; exact g1.out)
      have t4 : ((N : Int) == (N : Int)) = true := by simp
      go_wp2_with fail
      have HS := Lib.hid (show ∀ w', Below w7.heap.size w7 w' → (w'.cell? ⟨w5.heap.size, 0, none⟩ = some (.int .i64 (i : Nat)) ∧ w'.cell? ⟨w5.heap.size, 1, none⟩ = some (.int .i64 (U : Nat)) ∧ Below w7.heap.size w7 w') from fun w' hb => ⟨(hb.cell (p := ⟨w5.heap.size, 0, none⟩) hlt).trans c0, (hb.cell (p := ⟨w5.heap.size, 1, none⟩) hlt).trans c1, hb⟩)
      go_region_held3 (fun w' => w'.cell? ⟨w5.heap.size, 0, none⟩ = some (.int .i64 (i : Nat)) ∧ w'.cell? ⟨w5.heap.size, 1, none⟩ = some (.int .i64 (U : Nat)) ∧ Below w7.heap.size w7 w') (exact HS.out _ (by repeat (first | assumption | exact Below.refl _ _ | refine below_drew ?_))) ((go_at_call 21; refine (end_ok _ _ _ _ _ _ (HM7.out.ext (below_drew (Below.refl _ _))) ge.out).mono ?_; rintro e w8 ⟨rfl, hb2⟩; have hb3 : Below w7.heap.size w7 w8 := Below.trans (below_drew (Below.refl _ _)) hb2; clear hb2))
      go_wp2_with fail
      go_ret
      exact ⟨rfl, ext_trans B7.out hb3⟩
  · have K := Lib.hid hch
    clear hch
    go_enter Try.func6, Try.ntmps6
    go_wp2_with fail
    refine (works_true w).mono ?_
    rintro e' w1 ⟨rfl, hb1⟩
    have B1 := Lib.hid hb1
    have S1 := Lib.hid (S.out.below hb1)
    clear hb1
    go_wp2_with fail
    refine (made_bad _ _ _ _ _ S1.out hB K.out he).mono ?_
    rintro e' w2 ⟨rfl, rfl⟩
    go_wp2_with fail
    go_ret
    exact ⟨rfl, B1.out⟩
end Go.Proofs.Ytfpgnnjkojpmdaa
