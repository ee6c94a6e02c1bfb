/-
  The walk of LinesPlain.
-/
import Derived.Test.YtlicfeepmhaemaaLz
namespace Go.Proofs.Ytlicfeepmhaemaa
set_option linter.unusedVariables false
set_option linter.unusedSimpArgs false
open Go.RowKit Go.ChangeShapes Go.WideShapes Go.Shelf
open Utf Wd Wr We Wi Lm Lc
attribute [local go_sem] Oper.semAt_some

set_option maxRecDepth 100000 in
set_option maxHeartbeats 6400000 in
theorem walk_LinesPlain (A0 : Option Addr) (n0 c0 : Nat) (l0 : List Int) (a1 : Int) (w : World) (s0 : Sl .i64 w A0 n0 c0 l0) (b0 : ∀ x ∈ l0, (Lit.int .i64 x).wf = true) (z0 : c0 * 8 ≤ 140737488351232) (w1 : (Lit.int .i64 a1).wf = true) :
    Calls Try.prog 9 #[.slice A0 n0 c0, .int .i64 a1] w fun e w' => e = .returned (.bool true) ∧ Below w.heap.size w w' := by
  obtain ⟨i0, hi, hz0, hz1, hz2⟩ := info_parts u8_info
  have hx1 := i64_of w1
  have S := Lib.hid s0
  have hnle := s0.le
  have hlen := s0.len
  have HB0 := Lib.hid b0
  obtain ⟨j, hj⟩ := Int.eq_ofNat_of_zero_le (Int.emod_nonneg a1 (b := 3) (by omega))
  have hj1 := Int.emod_lt_of_pos a1 (b := 3) (by omega)
  rw [hj] at hj1
  have hj3 : j < 3 := by omega
  have HJ := Lib.hid hj
  clear s0 b0 w1 hj hj1
  obtain ⟨m, hm40, hmin⟩ : ∃ m, m ≤ 40 ∧ ((n0 ≤ 40 ∧ m = n0) ∨ (40 < n0 ∧ m = 40)) := by
    by_cases h : n0 ≤ 40
    · exact ⟨n0, h, .inl ⟨h, rfl⟩⟩
    · exact ⟨40, Nat.le_refl _, .inr ⟨by omega, rfl⟩⟩
  refine (callsIn_wide (n := 6)).1 (callsIn_of_wp_marks Try.func9 rfl trivial ?_ rfl)
  simp only [Try.ntmps9, List.size_toArray, List.length_cons, List.length_nil, Nat.reduceAdd, Nat.reduceSub, Array.replicate_succ, Array.replicate_zero, List.push_toArray, List.append_toArray, List.nil_append, List.cons_append]
  refine wpIn_wide.2 ?_
  go_wp2_with fail
  obtain ⟨W0, hW0⟩ : ∃ W0, (w.alloc (.cells #[.slice A0 n0 c0] 50)).alloc (.cells #[.bool false] 4) = W0 := ⟨_, rfl⟩
  rw [hW0]
  have bL : Boxed W0 w.heap.size 50 (.slice A0 n0 c0) := by rw [← hW0]; exact (Boxed.new w _ _).alloc _
  have bR : Boxed W0 (w.heap.size + 1) 4 (.bool false) := by
    rw [← hW0]
    have := Boxed.new (w.alloc (.cells #[.slice A0 n0 c0] 50)) 4 (.bool false)
    rw [World.size_alloc] at this
    exact this
  have bB : Below w.heap.size w W0 := by rw [← hW0]; exact ((Below.refl _ w).alloc (Nat.le_refl _) _).alloc (by simp) _
  clear hW0
  refine (works_true W0).mono ?_
  rintro e w1 ⟨rfl, hb1⟩
  have L1 := Lib.hid (show Boxed w1 w.heap.size 50 (.slice A0 n0 c0) from (hb1.block _ bL.lt).trans bL)
  have R1 := Lib.hid (show Boxed w1 (w.heap.size + 1) 4 (.bool false) from (hb1.block _ bR.lt).trans bR)
  have B1 := Lib.hid (ext_trans bB hb1)
  clear bL bR bB hb1
  go_wp2_with fail
  refine (bring_at a1 3 (by omega) (by omega) hx1.1 hx1.2 _ HJ.out).mono ?_
  rintro e w' ⟨rfl, rfl⟩
  obtain ⟨s, E, hcs, hE, hsc, hss⟩ := three_ends w1 9 j hj3
  have cL := (L1.out.alloc (.cells #[.string ⟨#[10]⟩, .string ⟨#[13, 10]⟩, .string ⟨#[13]⟩] 9)).cell
  have jb : (j : Int) < 3 := by omega
  have cR := (R1.out.alloc (.cells #[.string ⟨#[10]⟩, .string ⟨#[13, 10]⟩, .string ⟨#[13]⟩] 9)).cell
  by_cases hm0 : m = 0
  · obtain rfl : n0 = 0 := by omega
    have hR2 := ((R1.out.alloc (.cells #[.string ⟨#[10]⟩, .string ⟨#[13, 10]⟩, .string ⟨#[13]⟩] 9)).alloc (.cells #[.int .i64 0] 3))
    have cR2 := hR2.cell
    have fR2 := hR2.frozen
    have HR2 := Lib.hid hR2
    clear hR2 hmin hm0
    go_wp2_with fail
    refine ⟨.bool true, ?_, rfl, ?_⟩
    · simp only [results]
      go_simp
    · exact ((ext_trans B1.out (below_alloc w1 _)).trans (((Below.refl _ _).alloc (by have := B1.out.size; rw [World.size_alloc]; omega) _))).setCell (p := ⟨w.heap.size + 1, 0, none⟩) (show w.heap.size ≤ w.heap.size + 1 by omega) _
  · rcases hmin with ⟨hn, hm⟩ | ⟨hn, hm⟩
    all_goals
      have HM := Lib.hid hm
      clear hm
    · have nz : ((n0 : Int) == 0) = false := by simp; have := HM.out; omega
      go_wp2_with fail
      rw [show (n0 : Int) = (m : Int) by have := HM.out; omega]
      obtain ⟨W2, hW2⟩ : ∃ W2, ((w1.alloc (.cells #[.string ⟨#[10]⟩, .string ⟨#[13, 10]⟩, .string ⟨#[13]⟩] 9)).alloc (.cells #[.int .i64 (m : Int)] 3)) = W2 := ⟨_, rfl⟩
      rw [hW2]
      have pb : PBox w A0 n0 c0 m (w1.heap.size + 1) W2 := by
        rw [← hW2]
        refine ⟨(L1.out.alloc _).alloc _, (R1.out.alloc _).alloc _, ?_, (ext_trans B1.out (below_alloc w1 _)).trans ((Below.refl _ _).alloc (by have := B1.out.size; rw [World.size_alloc]; omega) _)⟩
        have := Boxed.new (w1.alloc (.cells #[.string ⟨#[10]⟩, .string ⟨#[13, 10]⟩, .string ⟨#[13]⟩] 9)) 3 (.int .i64 (m : Int))
        rw [World.size_alloc] at this
        exact this
      have PB2 := Lib.hid pb
      clear pb hW2 hcs cL cR
      have hmn : m ≤ n0 := by have := HM.out; omega
      obtain ⟨k, hk⟩ : ∃ k, m = k + 1 := ⟨m - 1, by omega⟩
      have HK := Lib.hid hk
      clear hk
      have wm : IntKind.i64.wrap ((m : Int) - 1) = (m : Int) - 1 := by rw [IntKind.wrap_i64]; omega
      generalize hNb : w1.heap.size + 1 = Nb
      rw [hNb] at PB2
      clear hNb
      go_loopw [8, 6] (fun ix bv wr => ∃ (i : Nat) (v : Value), ix = .int .i64 (i : Nat) ∧ bv = v ∧ i ≤ m ∧ Hid (Wd.Own .u8 5 wr w.heap.size v (wtx E l0 k i)) ∧ Hid (PBox w A0 n0 c0 m Nb wr)) (fun ix _ _ => m - (intOf ix).toNat)
      case atStart => exact ⟨0, _, rfl, rfl, Nat.zero_le _, Lib.hid (by rw [wtx_zero]; exact Own.nil), PB2⟩
      case round =>
        obtain ⟨i, v, rfl, rfl, him, OV, PB⟩ := hrel
        have cN := PB.out.bN.cell
        by_cases hlt : i < m
        · have i1 : (i : Int) < (m : Int) := by omega
          have hin : i < n0 := by omega
          obtain ⟨bb, off, x, rfl, hx, _, _⟩ := S.out.row.look hin
          have hxw := i64_of (HB0.out x (List.mem_of_getElem? hx))
          obtain ⟨c, hc⟩ := Int.eq_ofNat_of_zero_le (Int.emod_nonneg x (b := 5) (by omega))
          have hc5 := Int.emod_lt_of_pos x (b := 5) (by omega)
          rw [hc] at hc5
          have hct : (x % 5).toNat = c := by rw [hc]; rfl
          have HX := Lib.hid hx
          have HC := Lib.hid hc
          have HCT := Lib.hid hct
          clear hx hc hct
          go_wp2_with fail
          go_loopw [9, 6] (fun kx bv wr' => ∃ (q : Nat) (v' : Value), kx = .int .i64 (q : Nat) ∧ bv = v' ∧ q ≤ c ∧ Hid (Wd.Own .u8 5 wr' w.heap.size v' (wtx E l0 k i ++ List.replicate q 120)) ∧ Hid (PBox w (some ⟨bb, off, none⟩) n0 c0 m Nb wr')) (fun kx _ _ => c - (intOf kx).toNat)
          case atStart => exact ⟨0, _, rfl, rfl, Nat.zero_le _, Lib.hid (by rw [List.replicate_zero, List.append_nil]; exact OV.out), PB⟩
          case round =>
            obtain ⟨q, v', rfl, rfl, hqc, OV', PB'⟩ := hrel
            have cL' := PB'.out.bL.cell
            have cN' := PB'.out.bN.cell
            obtain ⟨_, _, x', e', hx', hcx, _⟩ := (S.out.below PB'.out.bB).row.look hin
            injection e' with e'; injection e' with e1 e2; subst e1; subst e2
            obtain rfl : x = x' := by have := HX.out; rw [hx'] at this; cases this; rfl
            have j1 : (i : Int) < (n0 : Int) := by omega
            clear hx'
            go_wp2_with fail
            refine (bring_at x 5 (by omega) (by omega) hxw.1 hxw.2 _ HC.out).mono ?_
            rintro e w' ⟨rfl, rfl⟩
            by_cases hq : q < c
            · have q1 : (q : Int) < (c : Int) := by omega
              have hB' : w.heap.size ≤ wr.heap.size := PB'.out.bB.size
              have hol : (wtx E l0 k i ++ List.replicate q 120).length ≤ 1000 := by rw [List.length_append, List.length_replicate]; have := wtx_le hE l0 k i; have := HK.out; omega
              have HS := Lib.hid (show Sl .u8 (wr.alloc (.cells #[.int .u8 120] 5)) (some ⟨wr.heap.size, 0, none⟩) 1 1 [120] from Sl.new wr [120] 5 .u8 (by decide))
              have PA := Lib.hid (PB'.out.alloc (.cells #[.int .u8 120] 5))
              have OA := Lib.hid (own_alloc OV'.out (.cells #[.int .u8 120] 5))
              go_wp2_with (at_builtin; refine wp_app rfl _ _ _ rfl _ Try.underlying22 hi hz0 hz1 hz2 rfl rfl OA.out rfl HS.out (by omega) (by unfold maxLen; omega) (by rw [World.size_alloc]; omega) ?_; intro v2 w2 ho2 hb2 hg2; have PB3 := Lib.hid (PA.out.app OA.out hg2 hb2); have O2 := Lib.hid ho2; clear ho2 hb2 hg2)
              go_roundw
              case rel => exact ⟨q + 1, v2, by go_num, rfl, by omega, Lib.hid (by rw [List.replicate_succ', ← List.append_assoc]; exact O2.out), PB3⟩
              case measure => simp [intOf]; omega
            · obtain rfl : q = c := by omega
              have q1 : ¬ (q : Int) < (q : Int) := by omega
              by_cases hik : i < k
              · have q2 : (i : Int) < (m : Int) - 1 := by have := HK.out; omega
                have hB' : w.heap.size ≤ wr.heap.size := PB'.out.bB.size
                have hol : (wtx E l0 k i ++ List.replicate q 120).length ≤ 1000 := by rw [List.length_append, List.length_replicate]; have := wtx_le hE l0 k i; have := HK.out; omega
                go_wp2_with (at_builtin; refine Lib.wpList_append_own_string _ rfl _ _ _ _ rfl w.heap.size 5 i0 Try.underlying22 Try.underlying9 hi hz0 hz1 hz2 _ _ _ rfl OV'.out s rfl (by have := e_le hE; unfold maxLen; omega) (by have := e_le hE; omega) hB' ?_; intro v2 w2 ho2 hg2 _)
                have PB3 := Lib.hid (PB'.out.app OV'.out hg2 ((Below.refl _ _).grown hg2 hB' (fun g hg => (OV'.out.lt hg).1)))
                have O2 := Lib.hid (own_str ho2 hsc hss)
                clear ho2 hg2
                go_roundw
                case rel => exact ⟨i + 1, _, by go_num, rfl, by omega, Lib.hid (by rw [wtx_next hik HX.out, HCT.out]; exact O2.out), PB3⟩
                case measure => simp [intOf]; omega
              · obtain rfl : i = k := by have := HK.out; omega
                have q2 : ¬ (i : Int) < (m : Int) - 1 := by have := HK.out; omega
                go_wp2_with fail
                go_roundw
                case rel => exact ⟨i + 1, _, by go_num, rfl, by omega, Lib.hid (by rw [wtx_last HX.out, HCT.out]; exact OV'.out), PB'⟩
                case measure => simp [intOf]; omega
        · obtain rfl : i = m := by omega
          have i1 : ¬ (i : Int) < (i : Int) := by omega
          obtain ⟨A5, c5, hv5, t5, _⟩ := OV.out.sl
          subst hv5
          have hT := wtx_text hE l0 k (by have := HK.out; omega)
          rw [← HK.out] at hT
          obtain ⟨hT1, hT2, hT3, hT4⟩ := hT
          have hol : (wtx E l0 k i).length ≤ 1000 := by have := wtx_le hE l0 k i; have := HK.out; omega
          have T5 := Lib.hid t5
          have HT1 := Lib.hid hT1
          have HT2 := Lib.hid hT2
          have HT3 := Lib.hid hT3
          have HT4 := Lib.hid hT4
          clear t5 hT1 hT2 hT3 hT4
          generalize wtx E l0 k i = T at *
          go_wp2_with fail
          refine (new_ok _ _ _ _ _ T5.out HT2.out HT1.out (by omega)).mono ?_
          rintro e w6 ⟨P, rfl, hI, hb6⟩
          have PB6 := Lib.hid (PB.out.ext hb6)
          have I6 := Lib.hid hI
          clear cN
          have cN := PB6.out.bN.cell
          have nn : ((i : Int) != (i : Int)) = false := by simp
          have hcnt : Hid (∀ q, Calls Try.prog 17 #[.pointer (some ⟨P, 0, none⟩)] (w6.drewN q) fun e w' => e = .returned (.int .i64 (i : Nat)) ∧ w' = w6.drewN q) := Lib.hid (fun q => (count_txt _ P T (w6.drewN q) I6.out).mono (fun e w' h => ⟨by rw [h.1, HT3.out], h.2.symm⟩))
          clear hb6 hI
          go_wp2_with fail
          go_quiet ((go_at_call 17; exact Calls.quiet_of_same (hcnt.out _)))
          have pb7 : PBox w A0 n0 c0 i Nb (w6.drewN nq) := ⟨PB6.out.bL, PB6.out.bR, PB6.out.bN, below_drewN PB6.out.bB nq⟩
          have i7 : Idx (w6.drewN nq) wr.heap.size P (lns T) := I6.out
          clear cN hcnt
          generalize w6.drewN nq = w7 at pb7 i7 ⊢
          have PB7 := Lib.hid pb7
          have I7 := Lib.hid i7
          clear pb7 i7 PB6 I6
          go_wp2_with fail
          refine (callsIn_wide (n := 5)).1 (all_in _ _ _) |>.mono ?_
          rintro e w' ⟨rfl, rfl⟩
          go_wp2_with fail
          rw [func_not_nil]
          go_wp2_with fail
          refine (callsIn_wide (n := 5)).1 (all_in _ _ _) |>.mono ?_
          rintro e w' ⟨rfl, rfl⟩
          go_wp2_with fail
          have bA : Boxed (((w7.alloc (.cells #[.int .i64 0] 3)).alloc (.cells #[.pointer (some ⟨P, 0, none⟩)] 24)).alloc (.cells #[.pointer (some ⟨P, 0, none⟩)] 24)) w7.heap.size 3 (.int .i64 0) := ((Boxed.new w7 _ _).alloc _).alloc _
          have bX : Boxed (((w7.alloc (.cells #[.int .i64 0] 3)).alloc (.cells #[.pointer (some ⟨P, 0, none⟩)] 24)).alloc (.cells #[.pointer (some ⟨P, 0, none⟩)] 24)) (w7.heap.size + 1 + 1) 24 (.pointer (some ⟨P, 0, none⟩)) := by
            have := Boxed.new ((w7.alloc (.cells #[.int .i64 0] 3)).alloc (.cells #[.pointer (some ⟨P, 0, none⟩)] 24)) 24 (.pointer (some ⟨P, 0, none⟩))
            rw [World.size_alloc, World.size_alloc] at this
            exact this
          have pb8 := ((PB7.out.alloc (.cells #[.int .i64 0] 3)).alloc (.cells #[.pointer (some ⟨P, 0, none⟩)] 24)).alloc (.cells #[.pointer (some ⟨P, 0, none⟩)] 24)
          have b78 : Below w7.heap.size w7 (((w7.alloc (.cells #[.int .i64 0] 3)).alloc (.cells #[.pointer (some ⟨P, 0, none⟩)] 24)).alloc (.cells #[.pointer (some ⟨P, 0, none⟩)] 24)) := (((Below.refl _ w7).alloc (Nat.le_refl _) _).alloc (by simp) _).alloc (by simp; omega) _
          have hs8 : (((w7.alloc (.cells #[.int .i64 0] 3)).alloc (.cells #[.pointer (some ⟨P, 0, none⟩)] 24)).alloc (.cells #[.pointer (some ⟨P, 0, none⟩)] 24)).heap.size = w7.heap.size + 1 + 1 + 1 := by simp
          generalize ((w7.alloc (.cells #[.int .i64 0] 3)).alloc (.cells #[.pointer (some ⟨P, 0, none⟩)] 24)).alloc (.cells #[.pointer (some ⟨P, 0, none⟩)] 24) = W8 at bA bX pb8 b78 hs8 ⊢
          obtain ⟨g, cap, hrd, _, hg7⟩ := I7.out.rd (lns_ne T)
          have hP7 : P < w7.heap.size := I7.out.2.choose_spec.1.lt
          have hrd8 := hrd.below b78 hP7 hg7
          have hwz : w.heap.size ≤ w7.heap.size := PB7.out.bB.size
          have BA := Lib.hid bA
          have BX := Lib.hid bX
          have P8 := Lib.hid pb8
          have R8 := Lib.hid hrd8
          have hNb : Nb < w7.heap.size := PB7.out.bN.lt
          have hR1 : w.heap.size + 1 < w7.heap.size := PB7.out.bR.lt
          have hL7 := Lib.hid PB7.out.bL.lt
          clear bA bX pb8 b78 hrd hrd8
          refine (wpIn_wide (n := 6)).1 ?_
          refine wpIn_rangeFunc_ownH (n := 6) rfl (by decide) (gf := 29) (lb := #[.pointer (some ⟨w7.heap.size + 1 + 1, 0, none⟩)]) rfl trivial (enters_of Try.func29 (by kernel_rfl) rfl)
            (all_stops 5 (by decide) (w7.heap.size + 1 + 1) w7.heap.size P g cap (lns T) W8 (by omega) (by omega) hP7 hg7 BX.out.cell R8.out)
            belowK_t (belowK_b (by omega)) (Below.refl _ _) (fun _ => rfl)
            (fun pre W => PBox w A0 n0 c0 i Nb W ∧ Boxed W w7.heap.size 3 (.int .i64 (pre.length : Nat))) (fun _ pre _ => ∃ (pre0 : List (Nat × (Nat × Nat))) (x : Nat × (Nat × Nat)), pre = pre0 ++ [x] ∧ ¬ Gd l0 i pre0.length x)
            (pbox_own (by omega)) (fun _ _ _ _ _ hs _ _ => hs) ⟨P8.out, BA.out⟩
            (fun x a' W => ∃ Bx, w7.heap.size < Bx ∧ Pair W Bx 35 x.2 ∧ a' = { tmps := #[Value.slice A0 n0 c0, Value.int IntKind.i64 a1, Value.pointer (some { block := w.heap.size, off := 0 }), undef, Value.pointer (some { block := w.heap.size + 1, off := 0 }), Value.string s, Value.slice A5 T.length c5, Value.pointer (some { block := Nb, off := 0 }), Value.int IntKind.i64 (i : Int), u9, Value.pointer (some { block := P, off := 0 }), Value.int IntKind.i64 0, Value.pointer (some { block := w7.heap.size, off := 0 }), Value.int IntKind.i64 (x.1 : Int), Value.pointer (some ⟨Bx, 0, none⟩), Value.bool true, Value.bool false, Value.slice (some { block := w1.heap.size, off := 0 }) 3 3, Value.int IntKind.i64 a1, Value.int IntKind.i64 (j : Int), Value.pointer (some { block := w1.heap.size, off := j }), Value.string s, Value.slice A0 n0 c0, Value.int IntKind.i64 (i : Int), Value.int IntKind.i64 (i : Int), Value.int IntKind.i64 (i : Int), Value.bool false, Value.int IntKind.i64 (i : Int), Value.int IntKind.i64 (i : Int), Value.bool false, u30, u31, u32, u33, u34, u35, u36, u37, u38, u39, u40, u41, u42, u43, u44, u45, u46, u47, u48, u49, u50, Value.tuple #[Value.pointer (some { block := P, off := 0 }), Value.int IntKind.i64 0], Value.slice A5 T.length c5, Value.tuple #[Value.pointer (some { block := P, off := 0 }), Value.int IntKind.i64 0], Value.pointer (some { block := P, off := 0 }), Value.int IntKind.i64 0, Value.int IntKind.i64 0, Value.bool false, Value.bool false, Value.pointer (some { block := P, off := 0 }), Value.int IntKind.i64 (i : Int), Value.int IntKind.i64 (i : Int), Value.bool false, Value.bool false, Value.pointer (some { block := P, off := 0 }), Value.func (Fn.func 29) #[] #[Value.pointer (some { block := w7.heap.size + 1, off := 0 })], Value.bool false, Value.pointer (some { block := P, off := 0 }), Value.func (Fn.func 29) #[] #[Value.pointer (some { block := w7.heap.size + 1 + 1, off := 0 })], Value.int IntKind.i64 (x.1 : Int), Value.agg #[Value.int IntKind.i64 (x.2.1 : Int), Value.int IntKind.i64 (x.2.2 : Int)], undef, undef, undef, undef, undef, undef, undef, undef, undef, undef, undef, undef, undef, undef, undef, undef, undef, undef, undef, undef, undef, undef, undef, undef, undef, undef], defers := [] }) ?hAx ?assign ?body ?done ?stop
          case hAx =>
            rintro x a' _ X Y row ⟨Bx, h1, h2, h3⟩ hg hrow
            exact ⟨Bx, h1, h2.kept hg (fun e => by obtain ⟨_, o, ho, hc⟩ := hrow Bx e.symm; rw [show X.heap[Bx]? = _ from h2] at ho; cases ho; cases hc), h3⟩
          case assign =>
            rintro l pre x W K hi' hK
            simp only [isp, sp] at hK ⊢
            gi_wp2_with fail
            have hsW := hi'.2.lt
            exact hK _ _ ((KeepsOthers.alloc _ _).from _) ((Below.refl _ W).alloc (by omega) _) ⟨hi'.1.alloc _, hi'.2.alloc _⟩ ⟨W.heap.size, hsW, Pair.new W _ x.2, rfl⟩
          case body =>
            rintro l pre x a' W hl ⟨r, hr⟩ ⟨pbW, bAW⟩ ⟨Bx, hBx, hpx, rfl⟩ hlt
            have PW := Lib.hid pbW
            have AW := Lib.hid bAW
            have XW := Lib.hid hpx
            have cA := bAW.cell
            have fA := bAW.frozen
            have cR := pbW.bR.cell
            have fR := pbW.bR.frozen
            have cN := pbW.bN.cell
            have cL := pbW.bL.cell
            have p0 := hpx.at0
            have p1 := hpx.at1
            obtain ⟨np, hnp⟩ : ∃ np, pre.length = np := ⟨_, rfl⟩
            rw [hnp] at cA
            have HNP := Lib.hid hnp
            rw [HT3.out] at hlt
            have hlt' : np < i := by omega
            clear pbW bAW hpx hr hnp hlt
            obtain ⟨x1, xf, xt⟩ := x
            simp only at p0 p1
            by_cases c1 : x1 = np
            · subst c1
              obtain ⟨bb, off, y, hAe, hy, hcy, _⟩ := (S.out.below PW.out.bB).row.look (j := x1) (by omega)
              subst hAe
              have hyw := i64_of (HB0.out y (List.mem_of_getElem? hy))
              obtain ⟨c, hc⟩ := Int.eq_ofNat_of_zero_le (Int.emod_nonneg y (b := 5) (by omega))
              have hbr : Hid (∀ q, Calls Try.prog 20 #[.int .i64 y, .int .i64 5] (W.drewN q) fun e w' => e = .returned (.int .i64 (c : Int)) ∧ w' = W.drewN q) := Lib.hid (fun q => (bring_at y 5 (by omega) (by omega) hyw.1 hyw.2 (W.drewN q) hc).mono (fun e w' h => ⟨h.1, h.2.symm⟩))
              have HY := Lib.hid hy
              have HCC := Lib.hid hc
              have d1 : ((x1 : Int) != (x1 : Int)) = false := by simp
              have d2 : decide ((i : Int) ≤ (x1 : Int)) = false := decide_eq_false (by omega)
              have d2' : decide (i ≤ x1) = false := decide_eq_false (by omega)
              have d3 : (x1 : Int) < (n0 : Int) := by omega
              have d4 : IntKind.i64.wrap ((x1 : Int) + 1) = (x1 : Int) + 1 := by rw [IntKind.wrap_i64]; omega
              clear hy hc
              by_cases cw : IntKind.i64.wrap ((xt : Int) - (xf : Int)) = (c : Int)
              · have d5 : (IntKind.i64.wrap ((xt : Int) - (xf : Int)) != (c : Int)) = false := by simpa using cw
                have d6 : (wrap64 ((xt : Int) - (xf : Int)) != (c : Int)) = false := by have h := d5; rw [IntKind.wrap_i64] at h; unfold wrap64; exact h
                have CW := Lib.hid cw
                clear cw
                gi_wp2_with fail
                refine quiet_round (by kernel_rfl) (by kernel_rfl) (by kernel_rfl) ?hno ?_
                case hno => rintro ⟨_, _, h⟩; exact h
                repeat (go_big_quiet_step ((go_at_call 20; exact Calls.quiet_of_same (hbr.out _))))
                refine wpQuiet_nil ?_
                rintro _ ⟨nq, rfl⟩
                gi_wp2_with fail
                have A2 := AW.out.set (.int .i64 ((x1 : Int) + 1))
                refine ⟨((keeps_drewN W nq).trans (KeepsOthers.setCell _ _ _)).from _, (below_drewN (Below.refl _ W) nq).setCell (p := ⟨w7.heap.size, 0, none⟩) (Nat.le_refl _) _, ⟨PW.out.bL.other (by omega) _, PW.out.bR.other (by omega) _, PW.out.bN.other (by omega) _, (below_drewN PW.out.bB nq).setCell (p := ⟨w7.heap.size, 0, none⟩) (show w.heap.size ≤ w7.heap.size by omega) _⟩, ?_⟩
                rw [List.length_append, HNP.out]
                exact A2
              · have d5 : (IntKind.i64.wrap ((xt : Int) - (xf : Int)) != (c : Int)) = true := by simpa using cw
                have d6 : (wrap64 ((xt : Int) - (xf : Int)) != (c : Int)) = true := by have h := d5; rw [IntKind.wrap_i64] at h; unfold wrap64; exact h
                have CW := Lib.hid cw
                clear cw
                gi_wp2_with fail
                refine quiet_round (by kernel_rfl) (by kernel_rfl) (by kernel_rfl) ?hno ?_
                case hno => rintro ⟨_, _, h⟩; exact h
                repeat (go_big_quiet_step ((go_at_call 20; exact Calls.quiet_of_same (hbr.out _))))
                refine wpQuiet_nil ?_
                rintro _ ⟨nq, rfl⟩
                gi_wp2_with fail
                exact ⟨((keeps_drewN W nq).trans (KeepsOthers.setCell _ _ _)).from _, pre, _, rfl, fun h => CW.out (by have := h.2.2 y (by rw [HNP.out]; exact HY.out); rw [HCC.out] at this; exact this)⟩
            · have d1 : ((x1 : Int) != (np : Int)) = true := by simp; omega
              gi_wp2_with fail
              refine quiet_round (by kernel_rfl) (by kernel_rfl) (by kernel_rfl) ?hno ?_
              case hno => rintro ⟨_, _, h⟩; exact h
              repeat (go_big_quiet_step (fail))
              refine wpQuiet_nil ?_
              rintro _ ⟨nq, rfl⟩
              gi_wp2_with fail
              exact ⟨((keeps_drewN W nq).trans (KeepsOthers.setCell _ _ _)).from _, pre, _, rfl, fun h => c1 (by have := h.1; rw [HNP.out] at this; exact this)⟩
          case done =>
            rintro D ys W hD rfl ⟨pbW, bAW⟩ hK
            rw [en_len, HT3.out] at bAW
            have hK' := Lib.hid hK
            have cA := bAW.cell
            have cR := pbW.bR.cell
            have fR := pbW.bR.frozen
            have cN := pbW.bN.cell
            have PW := Lib.hid pbW
            clear pbW bAW hK
            have dd : ((i : Int) == (i : Int)) = true := by simp
            go_wp2_with fail
            have R2 := PW.out.bR.set (.bool true)
            have hK2 := (KeepsOthers.setCell W ⟨w.heap.size + 1, 0, none⟩ (.bool true)).same D _ hK'.out rfl
            have R3 := (R2.kept (grownBy_putObj' _ D (.deferred none)) (fun e => by cases e; omega)).cell
            refine ⟨by simp, .inl ⟨_, _, rfl, run_takeDeferred hK2, ?_⟩⟩
            refine ⟨.bool true, ?_, rfl, ?_⟩
            · simp only [results]
              go_simp
            · exact (PW.out.bB.setCell (p := ⟨w.heap.size + 1, 0, none⟩) (show w.heap.size ≤ w.heap.size + 1 by omega) _).trans (belowK_b (w := w) (Nat.le_refl _) _ D _ _ (by omega) hK2 rfl rfl)
          case stop =>
            rintro D cc pre W hD hpre ⟨pre0, x, rfl, hbad⟩ hK
            exact absurd (gd_of (T := T) hpre (fun p y => HT4.out _ p y) (by rw [HT3.out]) (by omega) (by omega)) hbad
    · go_wp2_with fail
      rw [show (40 : Int) = (m : Int) by have := HM.out; omega]
      obtain ⟨W2, hW2⟩ : ∃ W2, ((w1.alloc (.cells #[.string ⟨#[10]⟩, .string ⟨#[13, 10]⟩, .string ⟨#[13]⟩] 9)).alloc (.cells #[.int .i64 (m : Int)] 3)) = W2 := ⟨_, rfl⟩
      rw [hW2]
      have pb : PBox w A0 n0 c0 m (w1.heap.size + 1) W2 := by
        rw [← hW2]
        refine ⟨(L1.out.alloc _).alloc _, (R1.out.alloc _).alloc _, ?_, (ext_trans B1.out (below_alloc w1 _)).trans ((Below.refl _ _).alloc (by have := B1.out.size; rw [World.size_alloc]; omega) _)⟩
        have := Boxed.new (w1.alloc (.cells #[.string ⟨#[10]⟩, .string ⟨#[13, 10]⟩, .string ⟨#[13]⟩] 9)) 3 (.int .i64 (m : Int))
        rw [World.size_alloc] at this
        exact this
      have PB2 := Lib.hid pb
      clear pb hW2 hcs cL cR
      have hmn : m ≤ n0 := by have := HM.out; omega
      obtain ⟨k, hk⟩ : ∃ k, m = k + 1 := ⟨m - 1, by omega⟩
      have HK := Lib.hid hk
      clear hk
      have wm : IntKind.i64.wrap ((m : Int) - 1) = (m : Int) - 1 := by rw [IntKind.wrap_i64]; omega
      generalize hNb : w1.heap.size + 1 = Nb
      rw [hNb] at PB2
      clear hNb
      go_loopw [8, 6] (fun ix bv wr => ∃ (i : Nat) (v : Value), ix = .int .i64 (i : Nat) ∧ bv = v ∧ i ≤ m ∧ Hid (Wd.Own .u8 5 wr w.heap.size v (wtx E l0 k i)) ∧ Hid (PBox w A0 n0 c0 m Nb wr)) (fun ix _ _ => m - (intOf ix).toNat)
      case atStart => exact ⟨0, _, rfl, rfl, Nat.zero_le _, Lib.hid (by rw [wtx_zero]; exact Own.nil), PB2⟩
      case round =>
        obtain ⟨i, v, rfl, rfl, him, OV, PB⟩ := hrel
        have cN := PB.out.bN.cell
        by_cases hlt : i < m
        · have i1 : (i : Int) < (m : Int) := by omega
          have hin : i < n0 := by omega
          obtain ⟨bb, off, x, rfl, hx, _, _⟩ := S.out.row.look hin
          have hxw := i64_of (HB0.out x (List.mem_of_getElem? hx))
          obtain ⟨c, hc⟩ := Int.eq_ofNat_of_zero_le (Int.emod_nonneg x (b := 5) (by omega))
          have hc5 := Int.emod_lt_of_pos x (b := 5) (by omega)
          rw [hc] at hc5
          have hct : (x % 5).toNat = c := by rw [hc]; rfl
          have HX := Lib.hid hx
          have HC := Lib.hid hc
          have HCT := Lib.hid hct
          clear hx hc hct
          go_wp2_with fail
          go_loopw [9, 6] (fun kx bv wr' => ∃ (q : Nat) (v' : Value), kx = .int .i64 (q : Nat) ∧ bv = v' ∧ q ≤ c ∧ Hid (Wd.Own .u8 5 wr' w.heap.size v' (wtx E l0 k i ++ List.replicate q 120)) ∧ Hid (PBox w (some ⟨bb, off, none⟩) n0 c0 m Nb wr')) (fun kx _ _ => c - (intOf kx).toNat)
          case atStart => exact ⟨0, _, rfl, rfl, Nat.zero_le _, Lib.hid (by rw [List.replicate_zero, List.append_nil]; exact OV.out), PB⟩
          case round =>
            obtain ⟨q, v', rfl, rfl, hqc, OV', PB'⟩ := hrel
            have cL' := PB'.out.bL.cell
            have cN' := PB'.out.bN.cell
            obtain ⟨_, _, x', e', hx', hcx, _⟩ := (S.out.below PB'.out.bB).row.look hin
            injection e' with e'; injection e' with e1 e2; subst e1; subst e2
            obtain rfl : x = x' := by have := HX.out; rw [hx'] at this; cases this; rfl
            have j1 : (i : Int) < (n0 : Int) := by omega
            clear hx'
            go_wp2_with fail
            refine (bring_at x 5 (by omega) (by omega) hxw.1 hxw.2 _ HC.out).mono ?_
            rintro e w' ⟨rfl, rfl⟩
            by_cases hq : q < c
            · have q1 : (q : Int) < (c : Int) := by omega
              have hB' : w.heap.size ≤ wr.heap.size := PB'.out.bB.size
              have hol : (wtx E l0 k i ++ List.replicate q 120).length ≤ 1000 := by rw [List.length_append, List.length_replicate]; have := wtx_le hE l0 k i; have := HK.out; omega
              have HS := Lib.hid (show Sl .u8 (wr.alloc (.cells #[.int .u8 120] 5)) (some ⟨wr.heap.size, 0, none⟩) 1 1 [120] from Sl.new wr [120] 5 .u8 (by decide))
              have PA := Lib.hid (PB'.out.alloc (.cells #[.int .u8 120] 5))
              have OA := Lib.hid (own_alloc OV'.out (.cells #[.int .u8 120] 5))
              go_wp2_with (at_builtin; refine wp_app rfl _ _ _ rfl _ Try.underlying22 hi hz0 hz1 hz2 rfl rfl OA.out rfl HS.out (by omega) (by unfold maxLen; omega) (by rw [World.size_alloc]; omega) ?_; intro v2 w2 ho2 hb2 hg2; have PB3 := Lib.hid (PA.out.app OA.out hg2 hb2); have O2 := Lib.hid ho2; clear ho2 hb2 hg2)
              go_roundw
              case rel => exact ⟨q + 1, v2, by go_num, rfl, by omega, Lib.hid (by rw [List.replicate_succ', ← List.append_assoc]; exact O2.out), PB3⟩
              case measure => simp [intOf]; omega
            · obtain rfl : q = c := by omega
              have q1 : ¬ (q : Int) < (q : Int) := by omega
              by_cases hik : i < k
              · have q2 : (i : Int) < (m : Int) - 1 := by have := HK.out; omega
                have hB' : w.heap.size ≤ wr.heap.size := PB'.out.bB.size
                have hol : (wtx E l0 k i ++ List.replicate q 120).length ≤ 1000 := by rw [List.length_append, List.length_replicate]; have := wtx_le hE l0 k i; have := HK.out; omega
                go_wp2_with (at_builtin; refine Lib.wpList_append_own_string _ rfl _ _ _ _ rfl w.heap.size 5 i0 Try.underlying22 Try.underlying9 hi hz0 hz1 hz2 _ _ _ rfl OV'.out s rfl (by have := e_le hE; unfold maxLen; omega) (by have := e_le hE; omega) hB' ?_; intro v2 w2 ho2 hg2 _)
                have PB3 := Lib.hid (PB'.out.app OV'.out hg2 ((Below.refl _ _).grown hg2 hB' (fun g hg => (OV'.out.lt hg).1)))
                have O2 := Lib.hid (own_str ho2 hsc hss)
                clear ho2 hg2
                go_roundw
                case rel => exact ⟨i + 1, _, by go_num, rfl, by omega, Lib.hid (by rw [wtx_next hik HX.out, HCT.out]; exact O2.out), PB3⟩
                case measure => simp [intOf]; omega
              · obtain rfl : i = k := by have := HK.out; omega
                have q2 : ¬ (i : Int) < (m : Int) - 1 := by have := HK.out; omega
                go_wp2_with fail
                go_roundw
                case rel => exact ⟨i + 1, _, by go_num, rfl, by omega, Lib.hid (by rw [wtx_last HX.out, HCT.out]; exact OV'.out), PB'⟩
                case measure => simp [intOf]; omega
        · obtain rfl : i = m := by omega
          have i1 : ¬ (i : Int) < (i : Int) := by omega
          obtain ⟨A5, c5, hv5, t5, _⟩ := OV.out.sl
          subst hv5
          have hT := wtx_text hE l0 k (by have := HK.out; omega)
          rw [← HK.out] at hT
          obtain ⟨hT1, hT2, hT3, hT4⟩ := hT
          have hol : (wtx E l0 k i).length ≤ 1000 := by have := wtx_le hE l0 k i; have := HK.out; omega
          have T5 := Lib.hid t5
          have HT1 := Lib.hid hT1
          have HT2 := Lib.hid hT2
          have HT3 := Lib.hid hT3
          have HT4 := Lib.hid hT4
          clear t5 hT1 hT2 hT3 hT4
          generalize wtx E l0 k i = T at *
          go_wp2_with fail
          refine (new_ok _ _ _ _ _ T5.out HT2.out HT1.out (by omega)).mono ?_
          rintro e w6 ⟨P, rfl, hI, hb6⟩
          have PB6 := Lib.hid (PB.out.ext hb6)
          have I6 := Lib.hid hI
          clear cN
          have cN := PB6.out.bN.cell
          have nn : ((i : Int) != (i : Int)) = false := by simp
          have hcnt : Hid (∀ q, Calls Try.prog 17 #[.pointer (some ⟨P, 0, none⟩)] (w6.drewN q) fun e w' => e = .returned (.int .i64 (i : Nat)) ∧ w' = w6.drewN q) := Lib.hid (fun q => (count_txt _ P T (w6.drewN q) I6.out).mono (fun e w' h => ⟨by rw [h.1, HT3.out], h.2.symm⟩))
          clear hb6 hI
          go_wp2_with fail
          go_quiet ((go_at_call 17; exact Calls.quiet_of_same (hcnt.out _)))
          have pb7 : PBox w A0 n0 c0 i Nb (w6.drewN nq) := ⟨PB6.out.bL, PB6.out.bR, PB6.out.bN, below_drewN PB6.out.bB nq⟩
          have i7 : Idx (w6.drewN nq) wr.heap.size P (lns T) := I6.out
          clear cN hcnt
          generalize w6.drewN nq = w7 at pb7 i7 ⊢
          have PB7 := Lib.hid pb7
          have I7 := Lib.hid i7
          clear pb7 i7 PB6 I6
          go_wp2_with fail
          refine (callsIn_wide (n := 5)).1 (all_in _ _ _) |>.mono ?_
          rintro e w' ⟨rfl, rfl⟩
          go_wp2_with fail
          rw [func_not_nil]
          go_wp2_with fail
          refine (callsIn_wide (n := 5)).1 (all_in _ _ _) |>.mono ?_
          rintro e w' ⟨rfl, rfl⟩
          go_wp2_with fail
          have bA : Boxed (((w7.alloc (.cells #[.int .i64 0] 3)).alloc (.cells #[.pointer (some ⟨P, 0, none⟩)] 24)).alloc (.cells #[.pointer (some ⟨P, 0, none⟩)] 24)) w7.heap.size 3 (.int .i64 0) := ((Boxed.new w7 _ _).alloc _).alloc _
          have bX : Boxed (((w7.alloc (.cells #[.int .i64 0] 3)).alloc (.cells #[.pointer (some ⟨P, 0, none⟩)] 24)).alloc (.cells #[.pointer (some ⟨P, 0, none⟩)] 24)) (w7.heap.size + 1 + 1) 24 (.pointer (some ⟨P, 0, none⟩)) := by
            have := Boxed.new ((w7.alloc (.cells #[.int .i64 0] 3)).alloc (.cells #[.pointer (some ⟨P, 0, none⟩)] 24)) 24 (.pointer (some ⟨P, 0, none⟩))
            rw [World.size_alloc, World.size_alloc] at this
            exact this
          have pb8 := ((PB7.out.alloc (.cells #[.int .i64 0] 3)).alloc (.cells #[.pointer (some ⟨P, 0, none⟩)] 24)).alloc (.cells #[.pointer (some ⟨P, 0, none⟩)] 24)
          have b78 : Below w7.heap.size w7 (((w7.alloc (.cells #[.int .i64 0] 3)).alloc (.cells #[.pointer (some ⟨P, 0, none⟩)] 24)).alloc (.cells #[.pointer (some ⟨P, 0, none⟩)] 24)) := (((Below.refl _ w7).alloc (Nat.le_refl _) _).alloc (by simp) _).alloc (by simp; omega) _
          have hs8 : (((w7.alloc (.cells #[.int .i64 0] 3)).alloc (.cells #[.pointer (some ⟨P, 0, none⟩)] 24)).alloc (.cells #[.pointer (some ⟨P, 0, none⟩)] 24)).heap.size = w7.heap.size + 1 + 1 + 1 := by simp
          generalize ((w7.alloc (.cells #[.int .i64 0] 3)).alloc (.cells #[.pointer (some ⟨P, 0, none⟩)] 24)).alloc (.cells #[.pointer (some ⟨P, 0, none⟩)] 24) = W8 at bA bX pb8 b78 hs8 ⊢
          obtain ⟨g, cap, hrd, _, hg7⟩ := I7.out.rd (lns_ne T)
          have hP7 : P < w7.heap.size := I7.out.2.choose_spec.1.lt
          have hrd8 := hrd.below b78 hP7 hg7
          have hwz : w.heap.size ≤ w7.heap.size := PB7.out.bB.size
          have BA := Lib.hid bA
          have BX := Lib.hid bX
          have P8 := Lib.hid pb8
          have R8 := Lib.hid hrd8
          have hNb : Nb < w7.heap.size := PB7.out.bN.lt
          have hR1 : w.heap.size + 1 < w7.heap.size := PB7.out.bR.lt
          have hL7 := Lib.hid PB7.out.bL.lt
          clear bA bX pb8 b78 hrd hrd8
          refine (wpIn_wide (n := 6)).1 ?_
          refine wpIn_rangeFunc_ownH (n := 6) rfl (by decide) (gf := 29) (lb := #[.pointer (some ⟨w7.heap.size + 1 + 1, 0, none⟩)]) rfl trivial (enters_of Try.func29 (by kernel_rfl) rfl)
            (all_stops 5 (by decide) (w7.heap.size + 1 + 1) w7.heap.size P g cap (lns T) W8 (by omega) (by omega) hP7 hg7 BX.out.cell R8.out)
            belowK_t (belowK_b (by omega)) (Below.refl _ _) (fun _ => rfl)
            (fun pre W => PBox w A0 n0 c0 i Nb W ∧ Boxed W w7.heap.size 3 (.int .i64 (pre.length : Nat))) (fun _ pre _ => ∃ (pre0 : List (Nat × (Nat × Nat))) (x : Nat × (Nat × Nat)), pre = pre0 ++ [x] ∧ ¬ Gd l0 i pre0.length x)
            (pbox_own (by omega)) (fun _ _ _ _ _ hs _ _ => hs) ⟨P8.out, BA.out⟩
            (fun x a' W => ∃ Bx, w7.heap.size < Bx ∧ Pair W Bx 35 x.2 ∧ a' = { tmps := #[Value.slice A0 n0 c0, Value.int IntKind.i64 a1, Value.pointer (some { block := w.heap.size, off := 0 }), undef, Value.pointer (some { block := w.heap.size + 1, off := 0 }), Value.string s, Value.slice A5 T.length c5, Value.pointer (some { block := Nb, off := 0 }), Value.int IntKind.i64 (i : Int), u9, Value.pointer (some { block := P, off := 0 }), Value.int IntKind.i64 0, Value.pointer (some { block := w7.heap.size, off := 0 }), Value.int IntKind.i64 (x.1 : Int), Value.pointer (some ⟨Bx, 0, none⟩), Value.bool true, Value.bool false, Value.slice (some { block := w1.heap.size, off := 0 }) 3 3, Value.int IntKind.i64 a1, Value.int IntKind.i64 (j : Int), Value.pointer (some { block := w1.heap.size, off := j }), Value.string s, Value.slice A0 n0 c0, Value.int IntKind.i64 (n0 : Int), Value.int IntKind.i64 (i : Int), Value.int IntKind.i64 (i : Int), Value.bool false, Value.int IntKind.i64 (i : Int), Value.int IntKind.i64 (i : Int), Value.bool false, u30, u31, u32, u33, u34, u35, u36, u37, u38, u39, u40, u41, u42, u43, u44, u45, u46, u47, u48, u49, u50, Value.tuple #[Value.pointer (some { block := P, off := 0 }), Value.int IntKind.i64 0], Value.slice A5 T.length c5, Value.tuple #[Value.pointer (some { block := P, off := 0 }), Value.int IntKind.i64 0], Value.pointer (some { block := P, off := 0 }), Value.int IntKind.i64 0, Value.int IntKind.i64 0, Value.bool false, Value.bool false, Value.pointer (some { block := P, off := 0 }), Value.int IntKind.i64 (i : Int), Value.int IntKind.i64 (i : Int), Value.bool false, Value.bool false, Value.pointer (some { block := P, off := 0 }), Value.func (Fn.func 29) #[] #[Value.pointer (some { block := w7.heap.size + 1, off := 0 })], Value.bool false, Value.pointer (some { block := P, off := 0 }), Value.func (Fn.func 29) #[] #[Value.pointer (some { block := w7.heap.size + 1 + 1, off := 0 })], Value.int IntKind.i64 (x.1 : Int), Value.agg #[Value.int IntKind.i64 (x.2.1 : Int), Value.int IntKind.i64 (x.2.2 : Int)], undef, undef, undef, undef, undef, undef, undef, undef, undef, undef, undef, undef, undef, undef, undef, undef, undef, undef, undef, undef, undef, undef, undef, undef, undef, undef], defers := [] }) ?hAx ?assign ?body ?done ?stop
          case hAx =>
            rintro x a' _ X Y row ⟨Bx, h1, h2, h3⟩ hg hrow
            exact ⟨Bx, h1, h2.kept hg (fun e => by obtain ⟨_, o, ho, hc⟩ := hrow Bx e.symm; rw [show X.heap[Bx]? = _ from h2] at ho; cases ho; cases hc), h3⟩
          case assign =>
            rintro l pre x W K hi' hK
            simp only [isp, sp] at hK ⊢
            gi_wp2_with fail
            have hsW := hi'.2.lt
            exact hK _ _ ((KeepsOthers.alloc _ _).from _) ((Below.refl _ W).alloc (by omega) _) ⟨hi'.1.alloc _, hi'.2.alloc _⟩ ⟨W.heap.size, hsW, Pair.new W _ x.2, rfl⟩
          case body =>
            rintro l pre x a' W hl ⟨r, hr⟩ ⟨pbW, bAW⟩ ⟨Bx, hBx, hpx, rfl⟩ hlt
            have PW := Lib.hid pbW
            have AW := Lib.hid bAW
            have XW := Lib.hid hpx
            have cA := bAW.cell
            have fA := bAW.frozen
            have cR := pbW.bR.cell
            have fR := pbW.bR.frozen
            have cN := pbW.bN.cell
            have cL := pbW.bL.cell
            have p0 := hpx.at0
            have p1 := hpx.at1
            obtain ⟨np, hnp⟩ : ∃ np, pre.length = np := ⟨_, rfl⟩
            rw [hnp] at cA
            have HNP := Lib.hid hnp
            rw [HT3.out] at hlt
            have hlt' : np < i := by omega
            clear pbW bAW hpx hr hnp hlt
            obtain ⟨x1, xf, xt⟩ := x
            simp only at p0 p1
            by_cases c1 : x1 = np
            · subst c1
              obtain ⟨bb, off, y, hAe, hy, hcy, _⟩ := (S.out.below PW.out.bB).row.look (j := x1) (by omega)
              subst hAe
              have hyw := i64_of (HB0.out y (List.mem_of_getElem? hy))
              obtain ⟨c, hc⟩ := Int.eq_ofNat_of_zero_le (Int.emod_nonneg y (b := 5) (by omega))
              have hbr : Hid (∀ q, Calls Try.prog 20 #[.int .i64 y, .int .i64 5] (W.drewN q) fun e w' => e = .returned (.int .i64 (c : Int)) ∧ w' = W.drewN q) := Lib.hid (fun q => (bring_at y 5 (by omega) (by omega) hyw.1 hyw.2 (W.drewN q) hc).mono (fun e w' h => ⟨h.1, h.2.symm⟩))
              have HY := Lib.hid hy
              have HCC := Lib.hid hc
              have d1 : ((x1 : Int) != (x1 : Int)) = false := by simp
              have d2 : decide ((i : Int) ≤ (x1 : Int)) = false := decide_eq_false (by omega)
              have d2' : decide (i ≤ x1) = false := decide_eq_false (by omega)
              have d3 : (x1 : Int) < (n0 : Int) := by omega
              have d4 : IntKind.i64.wrap ((x1 : Int) + 1) = (x1 : Int) + 1 := by rw [IntKind.wrap_i64]; omega
              clear hy hc
              by_cases cw : IntKind.i64.wrap ((xt : Int) - (xf : Int)) = (c : Int)
              · have d5 : (IntKind.i64.wrap ((xt : Int) - (xf : Int)) != (c : Int)) = false := by simpa using cw
                have d6 : (wrap64 ((xt : Int) - (xf : Int)) != (c : Int)) = false := by have h := d5; rw [IntKind.wrap_i64] at h; unfold wrap64; exact h
                have CW := Lib.hid cw
                clear cw
                gi_wp2_with fail
                refine quiet_round (by kernel_rfl) (by kernel_rfl) (by kernel_rfl) ?hno ?_
                case hno => rintro ⟨_, _, h⟩; exact h
                repeat (go_big_quiet_step ((go_at_call 20; exact Calls.quiet_of_same (hbr.out _))))
                refine wpQuiet_nil ?_
                rintro _ ⟨nq, rfl⟩
                gi_wp2_with fail
                have A2 := AW.out.set (.int .i64 ((x1 : Int) + 1))
                refine ⟨((keeps_drewN W nq).trans (KeepsOthers.setCell _ _ _)).from _, (below_drewN (Below.refl _ W) nq).setCell (p := ⟨w7.heap.size, 0, none⟩) (Nat.le_refl _) _, ⟨PW.out.bL.other (by omega) _, PW.out.bR.other (by omega) _, PW.out.bN.other (by omega) _, (below_drewN PW.out.bB nq).setCell (p := ⟨w7.heap.size, 0, none⟩) (show w.heap.size ≤ w7.heap.size by omega) _⟩, ?_⟩
                rw [List.length_append, HNP.out]
                exact A2
              · have d5 : (IntKind.i64.wrap ((xt : Int) - (xf : Int)) != (c : Int)) = true := by simpa using cw
                have d6 : (wrap64 ((xt : Int) - (xf : Int)) != (c : Int)) = true := by have h := d5; rw [IntKind.wrap_i64] at h; unfold wrap64; exact h
                have CW := Lib.hid cw
                clear cw
                gi_wp2_with fail
                refine quiet_round (by kernel_rfl) (by kernel_rfl) (by kernel_rfl) ?hno ?_
                case hno => rintro ⟨_, _, h⟩; exact h
                repeat (go_big_quiet_step ((go_at_call 20; exact Calls.quiet_of_same (hbr.out _))))
                refine wpQuiet_nil ?_
                rintro _ ⟨nq, rfl⟩
                gi_wp2_with fail
                exact ⟨((keeps_drewN W nq).trans (KeepsOthers.setCell _ _ _)).from _, pre, _, rfl, fun h => CW.out (by have := h.2.2 y (by rw [HNP.out]; exact HY.out); rw [HCC.out] at this; exact this)⟩
            · have d1 : ((x1 : Int) != (np : Int)) = true := by simp; omega
              gi_wp2_with fail
              refine quiet_round (by kernel_rfl) (by kernel_rfl) (by kernel_rfl) ?hno ?_
              case hno => rintro ⟨_, _, h⟩; exact h
              repeat (go_big_quiet_step (fail))
              refine wpQuiet_nil ?_
              rintro _ ⟨nq, rfl⟩
              gi_wp2_with fail
              exact ⟨((keeps_drewN W nq).trans (KeepsOthers.setCell _ _ _)).from _, pre, _, rfl, fun h => c1 (by have := h.1; rw [HNP.out] at this; exact this)⟩
          case done =>
            rintro D ys W hD rfl ⟨pbW, bAW⟩ hK
            rw [en_len, HT3.out] at bAW
            have hK' := Lib.hid hK
            have cA := bAW.cell
            have cR := pbW.bR.cell
            have fR := pbW.bR.frozen
            have cN := pbW.bN.cell
            have PW := Lib.hid pbW
            clear pbW bAW hK
            have dd : ((i : Int) == (i : Int)) = true := by simp
            go_wp2_with fail
            have R2 := PW.out.bR.set (.bool true)
            have hK2 := (KeepsOthers.setCell W ⟨w.heap.size + 1, 0, none⟩ (.bool true)).same D _ hK'.out rfl
            have R3 := (R2.kept (grownBy_putObj' _ D (.deferred none)) (fun e => by cases e; omega)).cell
            refine ⟨by simp, .inl ⟨_, _, rfl, run_takeDeferred hK2, ?_⟩⟩
            refine ⟨.bool true, ?_, rfl, ?_⟩
            · simp only [results]
              go_simp
            · exact (PW.out.bB.setCell (p := ⟨w.heap.size + 1, 0, none⟩) (show w.heap.size ≤ w.heap.size + 1 by omega) _).trans (belowK_b (w := w) (Nat.le_refl _) _ D _ _ (by omega) hK2 rfl rfl)
          case stop =>
            rintro D cc pre W hD hpre ⟨pre0, x, rfl, hbad⟩ hK
            exact absurd (gd_of (T := T) hpre (fun p y => HT4.out _ p y) (by rw [HT3.out]) (by omega) (by omega)) hbad
end Go.Proofs.Ytlicfeepmhaemaa
