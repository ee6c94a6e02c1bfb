/-
  The walk of LinesAll.
-/
import Derived.Test.YtlicfeepmhaemaaLk
namespace Go.Proofs.Ytlicfeepmhaemaa
set_option linter.unusedVariables false
set_option linter.unusedSimpArgs false
open Go.RowKit Go.ChangeShapes Go.WideShapes Go.Shelf
open Utf Wd Wr We Wi Lm Lc
attribute [local go_sem] Oper.semAt_some

theorem pair_ext {W W' : World} {B : Nat} {t : TypeId} {x : Nat × Nat} (h : Pair W B t x) (hb : Below W.heap.size W W') : Pair W' B t x := (hb.block _ h.lt).trans h
theorem box_ext {W W' : World} {B : Nat} {t : TypeId} {v : Value} (h : Boxed W B t v) (hb : Below W.heap.size W W') : Boxed W' B t v := (hb.block _ h.lt).trans h
theorem two_pairs (W : World) (t : TypeId) (x y : Nat × Nat) : Pair ((W.alloc (.cells #[.int .i64 (x.1 : Int), .int .i64 (x.2 : Int)] t)).alloc (.cells #[.int .i64 (y.1 : Int), .int .i64 (y.2 : Int)] t)) W.heap.size t x ∧
    Pair ((W.alloc (.cells #[.int .i64 (x.1 : Int), .int .i64 (x.2 : Int)] t)).alloc (.cells #[.int .i64 (y.1 : Int), .int .i64 (y.2 : Int)] t)) (W.heap.size + 1) t y ∧
    Below W.heap.size W ((W.alloc (.cells #[.int .i64 (x.1 : Int), .int .i64 (x.2 : Int)] t)).alloc (.cells #[.int .i64 (y.1 : Int), .int .i64 (y.2 : Int)] t)) := by
  refine ⟨(Pair.new W t x).alloc _, ?_, ((Below.refl _ _).alloc (Nat.le_refl _) _).alloc (by simp) _⟩
  have := Pair.new (W.alloc (.cells #[.int .i64 (x.1 : Int), .int .i64 (x.2 : Int)] t)) t y
  rw [World.size_alloc] at this
  exact this

set_option maxRecDepth 100000 in
set_option maxHeartbeats 6400000 in
theorem walk_LinesAll (A0 : Option Addr) (n0 c0 : Nat) (l0 : List Int) (a1 : Int) (w : World) (s0 : Sl .u8 w A0 n0 c0 l0) (b0 : ∀ x ∈ l0, (Lit.int .u8 x).wf = true) (z0 : c0 * 1 ≤ 140737488351232) (u0 : c0 ≤ 1048576) (w1 : (Lit.int .i64 a1).wf = true) :
    Calls Try.prog 3 #[.slice A0 n0 c0, .int .i64 a1] w fun e w' => e = .returned (.bool true) ∧ Below w.heap.size w w' := by
  have hx1 := i64_of w1
  have S := Lib.hid s0
  have hB := isB_of b0
  have hnle := s0.le
  have hlen := s0.len
  have hll := lns_le l0
  have hlp := lns_ne l0
  have HL := Lib.hid hlen
  clear s0 b0 z0 w1
  obtain ⟨N, hN⟩ : ∃ N, (lns l0).length = N := ⟨_, rfl⟩
  rw [hN] at hll hlp
  rw [hlen] at hll
  have HN := Lib.hid hN
  clear hN
  obtain ⟨x, y, e, hch⟩ : ∃ x y e, chk l0 = (x, y, e) := ⟨_, _, _, rfl⟩
  have HC := Lib.hid hch
  clear hch
  refine (callsIn_wide (n := 6)).1 (callsIn_of_wp_marks Try.func3 rfl trivial ?_ rfl)
  simp only [Try.ntmps3, List.size_toArray, List.length_cons, List.length_nil, Nat.reduceAdd, Nat.reduceSub, Array.replicate_succ, Array.replicate_zero, List.push_toArray, List.append_toArray, List.nil_append, List.cons_append]
  refine wpIn_wide.2 ?_
  go_wp2_with fail
  have bS : Boxed ((w.alloc (.cells #[.int .i64 a1] 3)).alloc (.cells #[.bool false] 4)) w.heap.size 3 (.int .i64 a1) := (Boxed.new w _ _).alloc _
  have bR : Boxed ((w.alloc (.cells #[.int .i64 a1] 3)).alloc (.cells #[.bool false] 4)) (w.heap.size + 1) 4 (.bool false) := by
    have := Boxed.new (w.alloc (.cells #[.int .i64 a1] 3)) 4 (.bool false)
    rw [World.size_alloc] at this
    exact this
  have bB : Below w.heap.size w ((w.alloc (.cells #[.int .i64 a1] 3)).alloc (.cells #[.bool false] 4)) := ((Below.refl _ w).alloc (Nat.le_refl _) _).alloc (by simp) _
  have hz0 : ((w.alloc (.cells #[.int .i64 a1] 3)).alloc (.cells #[.bool false] 4)).heap.size = w.heap.size + 1 + 1 := by simp
  generalize (w.alloc (.cells #[.int .i64 a1] 3)).alloc (.cells #[.bool false] 4) = W0 at bS bR bB hz0 ⊢
  refine (copy_any _ _ _ _ W0 (S.out.below bB) (by omega)).mono ?_
  rintro e' w1 ⟨v1, rfl, ho1, hb1⟩
  obtain ⟨A1, c1, rfl, t1, _⟩ := ho1.sl
  have cp1 := Cp.of (w := w) ho1 (by omega) rfl
  have S1 := Lib.hid (S.out.below (ext_trans bB hb1))
  have BS1 := Lib.hid (show Boxed w1 w.heap.size 3 (.int .i64 a1) from (hb1.block _ bS.lt).trans bS)
  have BR1 := Lib.hid (show Boxed w1 (w.heap.size + 1) 4 (.bool false) from (hb1.block _ bR.lt).trans bR)
  have BB1 := Lib.hid (ext_trans bB hb1)
  have hw1l := BS1.out.lt
  have CP1 := Lib.hid cp1
  have T1 := Lib.hid t1
  clear bS bR bB hz0 hb1 ho1 cp1 t1
  rw [HL.out] at T1 CP1
  rw [HL.out]
  go_wp2_with fail
  by_cases he : e = 0
  · subst he
    refine (new_ok _ _ _ _ w1 T1.out hB HC.out (by omega)).mono ?_
    rintro e w2 ⟨P, rfl, hI, hb2⟩
    have I2 := Lib.hid hI
    have B2 := Lib.hid hb2
    have hs2 := hb2.size
    clear hI hb2
    go_wp2_with fail
    refine (rnew_ok _ _ _ _ w2 (S1.out.below B2.out) hB HC.out (by omega)).mono ?_
    rintro e w3 ⟨X, vw, vp, rfl, hbi, hb3⟩
    have hs3 := hb3.size
    have B13 := Lib.hid (ext_trans B2.out hb3)
    obtain ⟨hP2, vi, hvi, hri⟩ := I2.out
    have ab : AB w l0 a1 w1.heap.size P X w3.heap.size vi vw vp (w3.alloc (.cells #[.pointer (some ⟨X, 0, none⟩)] 28)) := by
      refine ⟨Boxed.alloc ((hb3.block _ hvi.lt).trans hvi) _, fun g hg => ?_, ?_, ?_, (I2.out.ext hb3).ext (below_alloc w3 _), (hbi.mono hs2).ext (below_alloc w3 _), Boxed.new w3 _ _, by omega, ext_trans (ext_trans BB1.out B13.out) (below_alloc w3 _)⟩
      · have := (World.ownsRow.lt hri g hg).2; rw [World.size_alloc]; omega
      · exact Boxed.alloc ((B13.out.block _ BS1.out.lt).trans BS1.out) _
      · exact Boxed.alloc ((B13.out.block _ BR1.out.lt).trans BR1.out) _
    have B14 := Lib.hid (ext_trans B13.out (below_alloc w3 (.cells #[.pointer (some ⟨X, 0, none⟩)] 28)))
    clear hbi hb3 hvi hri hP2
    have cY := ab.bY.cell
    go_wp2_with fail
    generalize hYb : w3.heap.size = Yb at ab cY ⊢
    generalize w3.alloc (.cells #[.pointer (some ⟨X, 0, none⟩)] 28) = w4 at ab B14 cY ⊢
    have AB4 := Lib.hid ab
    have T4 := Lib.hid (T1.out.below B14.out)
    have S4 := Lib.hid (S1.out.below B14.out)
    have CP4 := Lib.hid (CP1.out.ext B14.out)
    clear ab hYb cY
    refine (eq_any A1 A0 n0 n0 c1 c0 l0 l0 w4 T4.out.row S4.out.row (by have := T4.out.max; have := T4.out.le; omega)).mono ?_
    rintro e w' ⟨rfl, q5, rfl⟩
    rw [show decide (l0 = l0) = true from decide_eq_true rfl]
    have ab5 := AB4.out.drewN q5
    have cp5 : Cp w w1.heap.size n0 A1 (w4.drewN q5) := CP4.out
    generalize w4.drewN q5 = w5 at ab5 cp5 ⊢
    have AB5 := Lib.hid ab5
    have CP5 := Lib.hid cp5
    clear ab5 cp5
    go_wp2_with fail
    clear AB4 CP4 S4 T4 B14 B13 B2 I2 CP1 T1 S1 BS1 BR1 BB1
    go_loopw [10] (fun ix wr => ∃ k : Nat, ix = .int .i64 (k : Nat) ∧ k ≤ n0 ∧ Hid (AB w l0 a1 w1.heap.size P X Yb vi vw vp wr) ∧ Hid (Cp w w1.heap.size n0 A1 wr)) (fun ix _ => n0 - (intOf ix).toNat)
    case atStart => exact ⟨0, rfl, Nat.zero_le _, AB5, CP5⟩
    case round =>
      obtain ⟨k, rfl, hk, ABk, CPk⟩ := hrel
      by_cases hkn : k < n0
      · have i1 : (k : Int) < (n0 : Int) := by omega
        obtain ⟨g, u, rfl, hg1, hg2, hcu, hfu⟩ := CPk.out.at_ hkn
        go_wp2_with fail
        go_roundw
        case rel => exact ⟨k + 1, by go_num, by omega, Lib.hid (ABk.out.other (grown_set _ g k _) hg1 hg2), Lib.hid (CPk.out.set _)⟩
        case measure => simp [intOf]; omega
      · obtain rfl : k = n0 := by omega
        have i1 : ¬ (k : Int) < (k : Int) := by omega
        have cY := ABk.out.bY.cell
        go_wp2_with fail
        refine (rcount_txt l0 wr ABk.out.bi).mono ?_
        rintro e w' ⟨rfl, rfl⟩
        rw [HN.out]
        go_wp2_with fail
        have ab6 := ABk.out.alloc (.cells #[.int .i64 (N : Int)] 3)
        have bN6 := Boxed.new wr 3 (.int .i64 (N : Int))
        have hNbl : w.heap.size + 1 < wr.heap.size := ABk.out.bR.lt
        generalize hNb : wr.heap.size = Nb at bN6 hNbl ⊢
        generalize wr.alloc (.cells #[.int .i64 (N : Int)] 3) = w6 at ab6 bN6 ⊢
        have AB6 := Lib.hid ab6
        have BN6 := Lib.hid bN6
        have cN := bN6.cell
        have hcnt : Hid (∀ q, Calls Try.prog 17 #[.pointer (some ⟨P, 0, none⟩)] (w6.drewN q) fun e w' => e = .returned (.int .i64 (N : Nat)) ∧ w' = w6.drewN q) := Lib.hid (fun q => (count_txt _ P l0 (w6.drewN q) AB6.out.idx).mono (fun e w' h => ⟨by rw [h.1, HN.out], h.2.symm⟩))
        have nn : ((N : Int) != (N : Int)) = false := by simp
        clear ab6 bN6 ABk CPk AB5 CP5 cY
        go_quiet ((go_at_call 17; exact Calls.quiet_of_same (hcnt.out _)))
        have ab7 := AB6.out.drewN nq
        have bN7 : Boxed (w6.drewN nq) Nb 3 (.int .i64 (N : Int)) := BN6.out
        clear cN hcnt
        generalize w6.drewN nq = w7 at ab7 bN7 ⊢
        have AB7 := Lib.hid ab7
        have BN7 := Lib.hid bN7
        clear ab7 bN7 AB6 BN6
        go_wp2_with fail
        go_loopw [12] (fun ix wr => ∃ i : Int, ix = .int .i64 i ∧ -1 ≤ i ∧ i ≤ (N : Int) + 1 ∧ Hid (AB w l0 a1 w1.heap.size P X Yb vi vw vp wr) ∧ Hid (Boxed wr Nb 3 (.int .i64 (N : Int)))) (fun ix _ => ((N : Int) + 1 - intOf ix).toNat)
        case atStart => exact ⟨-1, rfl, by omega, by omega, AB7, BN7⟩
        case round =>
          obtain ⟨i, rfl, hi1, hi2, ABi, BNi⟩ := hrel
          have cN := BNi.out.cell
          by_cases hiN : i ≤ (N : Int)
          · have jw : IntKind.i64.wrap (i + 1) = i + 1 := by rw [IntKind.wrap_i64]; omega
            by_cases hin : 0 ≤ i ∧ i < (N : Int)
            · obtain ⟨k', rfl⟩ := Int.eq_ofNat_of_zero_le hin.1
              obtain ⟨p, q, hp, hq⟩ := ln_both l0 (i := k') (by rw [HN.out]; omega)
              have HP := Lib.hid hp
              have HQ := Lib.hid hq
              clear hp hq hin
              have d1 : decide ((k' : Int) ≤ (N : Int)) = true := decide_eq_true hiN
              have d1' : decide (k' ≤ N) = true := decide_eq_true (by omega)
              go_wp2_with fail
              refine (line_txt _ P l0 k' p q wr ABi.out.idx HP.out HQ.out).mono ?_
              rintro e w8 ⟨rfl, hb⟩
              have AB8 := Lib.hid (ABi.out.ext hb)
              have BN8 := Lib.hid (box_ext BNi.out hb)
              have cY := AB8.out.bY.cell
              have hY8 := AB8.out.bY.lt
              clear hb
              simp only [sp]
              go_wp2_with fail
              have tp := two_pairs w8 35 q p
              generalize (w8.alloc (.cells #[.int .i64 (q.1 : Int), .int .i64 (q.2 : Int)] 35)).alloc (.cells #[.int .i64 (p.1 : Int), .int .i64 (p.2 : Int)] 35) = w9 at tp ⊢
              obtain ⟨tq, tpp, hb⟩ := tp
              have AB9 := Lib.hid (AB8.out.ext hb)
              have BN9 := Lib.hid (box_ext BN8.out hb)
              have TQ := Lib.hid tq
              have TP := Lib.hid tpp
              clear tq tpp hb
              refine (rline_ok l0 k' p q w9 AB9.out.bi HP.out HQ.out (by rw [HL.out]; omega)).mono ?_
              rintro e w10 ⟨rfl, hb⟩
              have AB10 := Lib.hid (AB9.out.ext hb)
              have BN10 := Lib.hid (box_ext BN9.out hb)
              have tq := pair_ext TQ.out hb
              have tpp := pair_ext TP.out hb
              have e1 := tq.at0
              have e2 := tq.at1
              have e3 := tpp.at0
              have e4 := tpp.at1
              have e5 := tq.lt
              have e6 := tpp.lt
              clear hb cY cN tq tpp
              simp only [sp]
              go_wp2_with fail
              have hb2 := (two_pairs w10 35 q p).2.2
              go_roundw
              case rel => exact ⟨(k' : Int) + 1, by go_num, by omega, by omega, Lib.hid (AB10.out.ext hb2), Lib.hid (box_ext BN10.out hb2)⟩
              case measure => simp [intOf]; omega
            · have d1 : decide (i ≤ (N : Int)) = true := decide_eq_true hiN
              go_wp2_with fail
              refine (line_out _ P (lns l0) i wr ABi.out.idx (lns_ne l0) (by rw [HN.out]; omega)).mono ?_
              rintro e w8 ⟨rfl, hb⟩
              have AB8 := Lib.hid (ABi.out.ext hb)
              have BN8 := Lib.hid (box_ext BNi.out hb)
              have cY := AB8.out.bY.cell
              have hY8 := AB8.out.bY.lt
              clear hb
              simp only [sp]
              go_wp2_with fail
              have tp := two_pairs w8 35 (0, 0) (0, 0)
              simp only [Int.natCast_zero] at tp
              generalize (w8.alloc (.cells #[.int .i64 0, .int .i64 0] 35)).alloc (.cells #[.int .i64 0, .int .i64 0] 35) = w9 at tp ⊢
              obtain ⟨tq, tpp, hb⟩ := tp
              have AB9 := Lib.hid (AB8.out.ext hb)
              have BN9 := Lib.hid (box_ext BN8.out hb)
              have TQ := Lib.hid tq
              have TP := Lib.hid tpp
              clear tq tpp hb
              refine (rline_out l0 i w9 AB9.out.bi (by rw [HN.out]; omega)).mono ?_
              rintro e w10 ⟨rfl, hb⟩
              have AB10 := Lib.hid (AB9.out.ext hb)
              have BN10 := Lib.hid (box_ext BN9.out hb)
              have tq := pair_ext TQ.out hb
              have tpp := pair_ext TP.out hb
              have e1 := tq.at0
              have e2 := tq.at1
              have e3 := tpp.at0
              have e4 := tpp.at1
              have e5 := tq.lt
              have e6 := tpp.lt
              simp only [Int.natCast_zero] at e1 e2 e3 e4
              clear hb cY cN tq tpp
              simp only [sp]
              go_wp2_with fail
              have hb2 := (two_pairs w10 35 (0, 0) (0, 0)).2.2
              simp only [Int.natCast_zero] at hb2
              go_roundw
              case rel => exact ⟨i + 1, by go_num, by omega, by omega, Lib.hid (AB10.out.ext hb2), Lib.hid (box_ext BN10.out hb2)⟩
              case measure => simp [intOf]; omega
          · obtain rfl : i = (N : Int) + 1 := by omega
            have d1 : decide ((N : Int) + 1 ≤ (N : Int)) = false := decide_eq_false (by omega)
            have cS := ABi.out.bS.cell
            have fS := ABi.out.bS.frozen
            obtain ⟨j, hj⟩ := Int.eq_ofNat_of_zero_le (Int.emod_nonneg a1 (b := (N : Int) + 1) (by omega))
            have HJ := Lib.hid hj
            clear hj
            go_wp2_with fail
            refine (bring_at a1 ((N : Int) + 1) (by omega) (by omega) hx1.1 hx1.2 _ HJ.out).mono ?_
            rintro e w' ⟨rfl, rfl⟩
            go_wp2_with fail
            have hzs : (wr.setCell ⟨w.heap.size, 0, none⟩ (.int .i64 (j : Int))).heap.size = wr.heap.size := by simp
            have ab8 := (ABi.out.setS hw1l (j : Int)).alloc (.cells #[.int .i64 0] 3)
            have bN8 := (BNi.out.other (show Nb ≠ w.heap.size by omega) (.int .i64 (j : Int))).alloc (.cells #[.int .i64 0] 3)
            have bA8 := Boxed.new (wr.setCell ⟨w.heap.size, 0, none⟩ (.int .i64 (j : Int))) 3 (.int .i64 0)
            rw [hzs] at bA8
            have hNA : Nb < wr.heap.size := BNi.out.lt
            have hgA := ABi.out.hg
            have hPA := ABi.out.bP.lt
            have hLA := ABi.out.lts
            clear hzs ABi BNi AB7 BN7 cN cS fS
            generalize (wr.setCell ⟨w.heap.size, 0, none⟩ (.int .i64 (j : Int))).alloc (.cells #[.int .i64 0] 3) = w8 at ab8 bN8 bA8 ⊢
            generalize wr.heap.size = At at bA8 hNA hgA hPA hLA ⊢
            refine (callsIn_wide (n := 5)).1 (all_in _ _ _) |>.mono ?_
            rintro e w' ⟨rfl, rfl⟩
            have hbl := below_alloc w8 (.cells #[.pointer (some ⟨P, 0, none⟩)] 24)
            generalize w8.alloc (.cells #[.pointer (some ⟨P, 0, none⟩)] 24) = w9 at hbl ⊢
            have AB9 := Lib.hid (ab8.ext hbl)
            have BN9 := Lib.hid (box_ext bN8 hbl)
            have BA9 := Lib.hid (box_ext bA8 hbl)
            clear ab8 bN8 bA8 hbl
            go_wp2_with fail
            rw [func_not_nil]
            go_wp2_with fail
            refine (callsIn_wide (n := 5)).1 (all_in _ _ _) |>.mono ?_
            rintro e w' ⟨rfl, rfl⟩
            have hbl := below_alloc w9 (.cells #[.pointer (some ⟨P, 0, none⟩)] 24)
            have bX9 := Boxed.new w9 24 (.pointer (some ⟨P, 0, none⟩))
            have hz10 : (w9.alloc (.cells #[.pointer (some ⟨P, 0, none⟩)] 24)).heap.size = w9.heap.size + 1 := by simp
            generalize w9.alloc (.cells #[.pointer (some ⟨P, 0, none⟩)] 24) = w10 at hbl bX9 hz10 ⊢
            have AB10 := Lib.hid (AB9.out.ext hbl)
            have BN10 := Lib.hid (box_ext BN9.out hbl)
            have BA10 := Lib.hid (box_ext BA9.out hbl)
            have BX10 := Lib.hid bX9
            have hAt9 : At < w9.heap.size := BA9.out.lt
            clear hbl bX9 AB9 BN9 BA9
            go_wp2_with fail
            obtain ⟨g, cap, hvi, hrd⟩ := AB10.out.rd
            have hgA' : g < At := hgA g (by rw [hvi]; rfl)
            obtain ⟨gp, cpp, rfl, hc1, hc2, _, _, _⟩ := AB10.out.bi.rp.rd (lns_ne l0)
            have hww : w.heap.size ≤ w10.heap.size := AB10.out.bB.size
            have hRw : w.heap.size + 1 < At := by omega
            have RD := Lib.hid hrd
            have hgg : g < w10.heap.size := by omega
            clear hrd hvi hgA
            refine (wpIn_wide (n := 6)).1 ?_
            refine wpIn_rangeFunc_ownH (n := 6) rfl (by decide) (gf := 29) (lb := #[.pointer (some ⟨w9.heap.size, 0, none⟩)]) rfl trivial (enters_of Try.func29 (by kernel_rfl) rfl)
              (all_stops 5 (by decide) w9.heap.size At P g cap (lns l0) w10 (by omega) (by omega) hPA hgA' BX10.out.cell RD.out)
              belowK_t (belowK_b (by omega)) (Below.refl _ _) (fun _ => rfl)
              (fun pre W => AI w l0 (j : Int) w1.heap.size P X Yb vi vw (.slice (some ⟨gp, 0, none⟩) (lns l0).length cpp) N Nb At pre W) (fun c pre W => AX w l0 j w1.heap.size P X Yb vi vw (.slice (some ⟨gp, 0, none⟩) (lns l0).length cpp) N Nb At c pre W)
              (ai_own hww) (ax_own hww) ⟨AB10.out, BN10.out, BA10.out⟩
              (fun z a' W => ∃ Bx, At < Bx ∧ Pair W Bx 35 z.2 ∧ a' = { tmps := #[Value.slice A0 k c0, Value.int IntKind.i64 a1, undef, Value.pointer (some { block := w.heap.size, off := 0 }), Value.pointer (some { block := w.heap.size + 1, off := 0 }), Value.slice A1 k c1, Value.pointer (some { block := P, off := 0 }), Value.int IntKind.i64 0, Value.pointer (some { block := Yb, off := 0 }), Value.int IntKind.i64 0, Value.int IntKind.i64 (k : Int), Value.pointer (some { block := Nb, off := 0 }), Value.int IntKind.i64 ((N : Int) + 1), u13, u14, u15, u16, u17, u18, Value.pointer (some { block := At, off := 0 }), Value.int IntKind.i64 (z.1 : Int), Value.pointer (some ⟨Bx, 0, none⟩), Value.slice A0 k c0, Value.slice A1 k c1, Value.tuple #[Value.pointer (some { block := P, off := 0 }), Value.int IntKind.i64 0], Value.slice A1 k c1, Value.tuple #[Value.pointer (some { block := P, off := 0 }), Value.int IntKind.i64 0], Value.pointer (some { block := P, off := 0 }), Value.int IntKind.i64 0, Value.tuple #[Value.pointer (some { block := X, off := 0 }), Value.int IntKind.i64 0], Value.slice A0 k c0, Value.tuple #[Value.pointer (some { block := X, off := 0 }), Value.int IntKind.i64 0], Value.pointer (some { block := X, off := 0 }), Value.int IntKind.i64 0, Value.int IntKind.i64 0, Value.int IntKind.i64 0, Value.bool false, Value.bool false, Value.pointer (some { block := P, off := 0 }), Value.bool false, Value.int IntKind.i64 0, Value.bool false, Value.bool false, Value.bool false, Value.bool false, Value.slice A1 k c1, Value.slice A0 k c0, Value.bool true, Value.bool false, Value.bool false, Value.int IntKind.i64 0, Value.bool false, undef, Value.int IntKind.i64 (k : Int), Value.slice A1 k c1, Value.int IntKind.i64 (k : Int), Value.bool false, u57, u58, u59, u60, u61, Value.pointer (some { block := X, off := 0 }), Value.int IntKind.i64 (N : Int), Value.pointer (some { block := P, off := 0 }), Value.int IntKind.i64 (N : Int), Value.int IntKind.i64 (N : Int), Value.bool false, Value.int IntKind.i64 ((N : Int) + 1), Value.int IntKind.i64 (N : Int), Value.bool false, u71, u72, u73, u74, u75, u76, u77, u78, u79, u80, u81, u82, u83, u84, u85, u86, u87, u88, u89, u90, u91, u92, u93, u94, u95, u96, u97, u98, u99, Value.int IntKind.i64 a1, Value.int IntKind.i64 (N : Int), Value.int IntKind.i64 ((N : Int) + 1), Value.int IntKind.i64 (j : Int), Value.pointer (some { block := P, off := 0 }), Value.func (Fn.func 29) #[] #[Value.pointer (some { block := w8.heap.size, off := 0 })], Value.bool false, Value.pointer (some { block := P, off := 0 }), Value.func (Fn.func 29) #[] #[Value.pointer (some { block := w9.heap.size, off := 0 })], Value.int IntKind.i64 (z.1 : Int), Value.agg #[Value.int IntKind.i64 (z.2.1 : Int), Value.int IntKind.i64 (z.2.2 : Int)], undef, undef, undef, undef, undef, undef, undef, undef, undef, undef, undef, undef, undef, undef, undef, undef, undef, undef, undef, undef, undef, undef, undef, undef, undef, undef, undef, undef, undef, undef, undef, undef, undef, undef, undef], defers := [] }) ?hAx ?assign ?body ?done ?stop
            case hAx =>
              rintro x a' _ X Y row ⟨Bx, h1, h2, h3⟩ hg hrow
              exact ⟨Bx, h1, h2.kept hg (fun e => by obtain ⟨_, o, ho, hc⟩ := hrow Bx e.symm; rw [show X.heap[Bx]? = _ from h2] at ho; cases ho; cases hc), h3⟩
            case assign =>
              rintro l pre x W K hi' hK
              simp only [isp, sp] at hK ⊢
              gi_wp2_with fail
              have hsW := hi'.2.2.lt
              exact hK _ _ ((KeepsOthers.alloc _ _).from _) ((Below.refl _ W).alloc (by omega) _) ⟨hi'.1.alloc _, hi'.2.1.alloc _, hi'.2.2.alloc _⟩ ⟨W.heap.size, hsW, Pair.new W _ x.2, rfl⟩
            case body =>
              rintro l pre z a' W hl ⟨r, hr⟩ ⟨abW, bNW, bAW⟩ ⟨Bx, hBx, hpx, rfl⟩ hlt
              have AW := Lib.hid abW
              have NW := Lib.hid bNW
              have TW := Lib.hid bAW
              have cA := bAW.cell
              have fA := bAW.frozen
              have cR := abW.bR.cell
              have fR := abW.bR.frozen
              have cS := abW.bS.cell
              have cN := bNW.cell
              have cY := abW.bY.cell
              have cX := abW.bi.two.at1
              have p0 := hpx.at0
              have p1 := hpx.at1
              obtain ⟨np, hnp⟩ : ∃ np, pre.length = np := ⟨_, rfl⟩
              rw [hnp] at cA
              have HNP := Lib.hid hnp
              rw [HN.out] at hlt
              have hlt' : np < N := by omega
              obtain ⟨pp, hpp⟩ : ∃ pp, (lns l0)[np]? = some pp := ⟨_, List.getElem?_eq_getElem (by rw [HN.out]; exact hlt')⟩
              obtain ⟨y0, y1⟩ := Sp.cell_at abW.bi.rp hpp
              have HPP := Lib.hid hpp
              rw [HN.out] at cX
              clear abW bNW bAW hpx hr hnp hlt hpp
              obtain ⟨x1, xf, xt⟩ := z
              obtain ⟨pf, pt⟩ := pp
              simp only at p0 p1 y0 y1
              by_cases c1' : x1 = np
              · subst c1'
                have d1 : ((x1 : Int) != (x1 : Int)) = false := by simp
                have d2 : decide ((N : Int) ≤ (x1 : Int)) = false := decide_eq_false (by omega)
                have d2' : decide (N ≤ x1) = false := decide_eq_false (by omega)
                have d3 : (x1 : Int) < (N : Int) := by omega
                have d4 : IntKind.i64.wrap ((x1 : Int) + 1) = (x1 : Int) + 1 := by rw [IntKind.wrap_i64]; omega
                by_cases c2 : xf = pf ∧ xt = pt
                · obtain ⟨rfl, rfl⟩ := c2
                  gi_wp2_with fail
                  refine quiet_round (by kernel_rfl) (by kernel_rfl) (by kernel_rfl) ?hno ?_
                  case hno => rintro ⟨_, _, h⟩; exact h
                  repeat (go_big_quiet_step (fail))
                  refine wpQuiet_nil ?_
                  rintro _ ⟨nq, rfl⟩
                  by_cases hj : x1 + 1 = j
                  · have dj : ((x1 : Int) + 1 == (j : Int)) = true := by simp; omega
                    gi_wp2_with fail
                    have A2 := TW.out.set (.int .i64 ((x1 : Int) + 1))
                    have hbl : Below At W ((W.drewN nq).setCell ⟨At, 0, none⟩ (.int .i64 ((x1 : Int) + 1))) := (below_drewN (Below.refl _ W) nq).setCell (p := ⟨At, 0, none⟩) (Nat.le_refl _) _
                    refine ⟨((keeps_dr W nq).trans (KeepsOthers.setCell _ _ _)).from _, .inr ⟨rfl, ⟨AW.out.keepB hLA hbl, (hbl.block _ hNA).trans NW.out, ?_⟩, by rw [List.length_append, HNP.out]; exact hj⟩⟩
                    rw [List.length_append, HNP.out]
                    exact A2
                  · have dj : ((x1 : Int) + 1 == (j : Int)) = false := by simp; omega
                    gi_wp2_with fail
                    have A2 := TW.out.set (.int .i64 ((x1 : Int) + 1))
                    have hbl : Below At W ((W.drewN nq).setCell ⟨At, 0, none⟩ (.int .i64 ((x1 : Int) + 1))) := (below_drewN (Below.refl _ W) nq).setCell (p := ⟨At, 0, none⟩) (Nat.le_refl _) _
                    refine ⟨((keeps_dr W nq).trans (KeepsOthers.setCell _ _ _)).from _, hbl, AW.out.keepB hLA hbl, (hbl.block _ hNA).trans NW.out, ?_⟩
                    rw [List.length_append, HNP.out]
                    exact A2
                · have dd : ((xf : Int) == (pf : Int) && (xt : Int) == (pt : Int)) = false := by
                    by_cases h1 : xf = pf
                    · have h2 : xt ≠ pt := fun h => c2 ⟨h1, h⟩
                      simp; omega
                    · simp; omega
                  have C2 := Lib.hid c2
                  clear c2
                  have hq : ((xf : Int) == (pf : Int)) = false ∨ (((xf : Int) == (pf : Int)) = true ∧ ((xt : Int) == (pt : Int)) = false) := by
                    cases h1 : ((xf : Int) == (pf : Int)) with
                    | false => exact .inl rfl
                    | true => rw [h1] at dd; exact .inr ⟨rfl, by simpa using dd⟩
                  clear dd
                  rcases hq with q1 | ⟨q1, q2⟩
                  all_goals
                    gi_wp2_with fail
                    refine quiet_round (by kernel_rfl) (by kernel_rfl) (by kernel_rfl) ?hno ?_
                    case hno => rintro ⟨_, _, h⟩; exact h
                    repeat (go_big_quiet_step (fail))
                    refine wpQuiet_nil ?_
                    rintro _ ⟨nq, rfl⟩
                    gi_wp2_with fail
                    exact ⟨((keeps_dr W nq).trans (KeepsOthers.setCell _ _ _)).from _, .inl ⟨rfl, pre, _, rfl, fun h => C2.out (by have := h.2; rw [HNP.out, HPP.out] at this; cases this; exact ⟨rfl, rfl⟩)⟩⟩
              · have d1 : ((x1 : Int) != (np : Int)) = true := by simp; omega
                gi_wp2_with fail
                refine quiet_round (by kernel_rfl) (by kernel_rfl) (by kernel_rfl) ?hno ?_
                case hno => rintro ⟨_, _, h⟩; exact h
                repeat (go_big_quiet_step (fail))
                refine wpQuiet_nil ?_
                rintro _ ⟨nq, rfl⟩
                gi_wp2_with fail
                exact ⟨((keeps_dr W nq).trans (KeepsOthers.setCell _ _ _)).from _, .inl ⟨rfl, pre, _, rfl, fun h => c1' (by have := h.1; rw [HNP.out] at this; exact this)⟩⟩
            case done =>
              rintro D ys W hD rfl ⟨abW, bNW, bAW⟩ hK
              rw [en_len, HN.out] at bAW
              have hK' := Lib.hid hK
              have cA := bAW.cell
              have cN := bNW.cell
              have PW := Lib.hid abW
              clear abW bNW bAW hK
              have dd : ((N : Int) == (N : Int)) = true := by simp
              go_wp2_with fail
              refine (works_true W).mono ?_
              rintro e w12 ⟨rfl, hb⟩
              have AB12 := Lib.hid (PW.out.ext hb)
              have hK12 := (hb.block D (Array.getElem?_eq_some_iff.1 hK'.out).1).trans hK'.out
              have HK12 := Lib.hid hK12
              clear hb hK12
              have cR := AB12.out.bR.cell
              have fR := AB12.out.bR.frozen
              go_wp2_with fail
              have R2 := AB12.out.bR.set (.bool true)
              have hK2 := (KeepsOthers.setCell w12 ⟨w.heap.size + 1, 0, none⟩ (.bool true)).same D _ HK12.out rfl
              have R3 := (R2.kept (grownBy_putObj' _ D (.deferred none)) (fun e => by injection e with e; omega)).cell
              refine ⟨by simp, .inl ⟨_, _, rfl, run_takeDeferred hK2, ?_⟩⟩
              refine ⟨.bool true, ?_, rfl, ?_⟩
              · simp only [results]
                go_simp
              · exact (AB12.out.bB.setCell (p := ⟨w.heap.size + 1, 0, none⟩) (show w.heap.size ≤ w.heap.size + 1 by omega) _).trans (belowK_b (w := w) (Nat.le_refl _) _ D _ _ (by omega) hK2 rfl rfl)
            case stop =>
              rintro D cc pre W hD hpre hx hK
              rcases hx with ⟨rfl, pre0, x', rfl, hbad⟩ | ⟨rfl, ⟨abW, bNW, bAW⟩, hpl⟩
              · exact absurd (en_pre' hpre) hbad
              · rw [hpl] at bAW
                have hK' := Lib.hid hK
                have cA := bAW.cell
                have cN := bNW.cell
                have cS := abW.bS.cell
                have PW := Lib.hid abW
                clear abW bNW bAW hK
                have dd : ((j : Int) == (j : Int)) = true := by simp
                refine wpIn_wide.2 ?_
                by_cases hjN : j = N
                · subst hjN
                  go_wp2_with fail
                  refine (works_true W).mono ?_
                  rintro e w12 ⟨rfl, hb⟩
                  have AB12 := Lib.hid (PW.out.ext hb)
                  have hK12 := (hb.block D (Array.getElem?_eq_some_iff.1 hK'.out).1).trans hK'.out
                  have HK12 := Lib.hid hK12
                  clear hb hK12
                  have cR := AB12.out.bR.cell
                  have fR := AB12.out.bR.frozen
                  go_wp2_with fail
                  have R2 := AB12.out.bR.set (.bool true)
                  have hK2 := (KeepsOthers.setCell w12 ⟨w.heap.size + 1, 0, none⟩ (.bool true)).same D _ HK12.out rfl
                  have R3 := (R2.kept (grownBy_putObj' _ D (.deferred none)) (fun e => by injection e with e; omega)).cell
                  refine ⟨by simp, .inl ⟨_, _, rfl, run_takeDeferred hK2, ?_⟩⟩
                  refine ⟨.bool true, ?_, rfl, ?_⟩
                  · simp only [results]
                    go_simp
                  · exact (AB12.out.bB.setCell (p := ⟨w.heap.size + 1, 0, none⟩) (show w.heap.size ≤ w.heap.size + 1 by omega) _).trans (belowK_b (w := w) (Nat.le_refl _) _ D _ _ (by omega) hK2 rfl rfl)
                · have dn : ((j : Int) == (N : Int)) = false := by simp; omega
                  go_wp2_with fail
                  refine (works_true W).mono ?_
                  rintro e w12 ⟨rfl, hb⟩
                  have AB12 := Lib.hid (PW.out.ext hb)
                  have hK12 := (hb.block D (Array.getElem?_eq_some_iff.1 hK'.out).1).trans hK'.out
                  have HK12 := Lib.hid hK12
                  clear hb hK12
                  have cR := AB12.out.bR.cell
                  have fR := AB12.out.bR.frozen
                  go_wp2_with fail
                  have R2 := AB12.out.bR.set (.bool true)
                  have hK2 := (KeepsOthers.setCell w12 ⟨w.heap.size + 1, 0, none⟩ (.bool true)).same D _ HK12.out rfl
                  have R3 := (R2.kept (grownBy_putObj' _ D (.deferred none)) (fun e => by injection e with e; omega)).cell
                  refine ⟨by simp, .inl ⟨_, _, rfl, run_takeDeferred hK2, ?_⟩⟩
                  refine ⟨.bool true, ?_, rfl, ?_⟩
                  · simp only [results]
                    go_simp
                  · exact (AB12.out.bB.setCell (p := ⟨w.heap.size + 1, 0, none⟩) (show w.heap.size ≤ w.heap.size + 1 by omega) _).trans (belowK_b (w := w) (Nat.le_refl _) _ D _ _ (by omega) hK2 rfl rfl)
  · have HE := Lib.hid he
    have d1 : (e != e) = false := by simp
    have d2 : (e != 0) = true := by simpa using he
    clear he
    refine (new_bad _ _ _ _ w1 T1.out hB HC.out HE.out).mono ?_
    rintro e' w' ⟨rfl, rfl⟩
    go_wp2_with fail
    refine (rnew_bad _ _ _ _ w1 S1.out hB HC.out HE.out).mono ?_
    rintro e' w3 ⟨rfl, hb3⟩
    have B14 := Lib.hid (ext_trans hb3 (below_alloc w3 (.cells #[.pointer none] 28)))
    clear hb3
    go_wp2_with fail
    generalize w3.alloc (.cells #[.pointer none] 28) = w4 at B14 ⊢
    have T4 := Lib.hid (T1.out.below B14.out)
    have S4 := Lib.hid (S1.out.below B14.out)
    have R4 := Lib.hid (box_ext BR1.out B14.out)
    have BB4 := Lib.hid (ext_trans BB1.out B14.out)
    clear CP1 T1 S1 BS1 BR1 BB1 B14
    refine (eq_any A1 A0 n0 n0 c1 c0 l0 l0 w4 T4.out.row S4.out.row (by have := T4.out.max; have := T4.out.le; omega)).mono ?_
    rintro e' w' ⟨rfl, q5, rfl⟩
    rw [show decide (l0 = l0) = true from decide_eq_true rfl]
    have r5 : Boxed (w4.drewN q5) (w.heap.size + 1) 4 (.bool false) := R4.out
    have b5 := below_drewN BB4.out q5
    generalize w4.drewN q5 = w5 at r5 b5 ⊢
    have R5 := Lib.hid r5
    have BB5 := Lib.hid b5
    clear r5 b5 R4 BB4 T4 S4
    go_wp2_with fail
    refine (works_true w5).mono ?_
    rintro e' w6 ⟨rfl, hb⟩
    have R6 := Lib.hid (box_ext R5.out hb)
    have BB6 := Lib.hid (ext_trans BB5.out hb)
    have cR := R6.out.cell
    have fR := R6.out.frozen
    clear hb R5 BB5
    go_wp2_with fail
    have R7 := (R6.out.set (.bool true)).cell
    refine ⟨.bool true, ?_, rfl, ?_⟩
    · simp only [results]
      go_simp
    · exact BB6.out.setCell (p := ⟨w.heap.size + 1, 0, none⟩) (show w.heap.size ≤ w.heap.size + 1 by omega) _
end Go.Proofs.Ytlicfeepmhaemaa
