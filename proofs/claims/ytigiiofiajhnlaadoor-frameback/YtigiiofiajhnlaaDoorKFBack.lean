/-
  The walk of FrameBack.
-/
import Derived.Test.YtigiiofiajhnlaaDoorKFBroken
import Derived.Test.YtigiiofiajhnlaaDoorFk
namespace Go.Proofs.YtigiiofiajhnlaaDoor
set_option linter.unusedVariables false
open Go.RowKit Go.ChangeShapes Go.WideShapes
open Wd We Dm Dc Dd Hm Hb He Hg Fm Fa

theorem Fa.frs_nil : frs [] = ([], []) := by decide +kernel
theorem Fa.brk_nil : brk [] = 0 := by decide +kernel
theorem Fa.cut_nil : cutF [] = none := by decide +kernel
theorem Fa.rds_frms {z : Nat} (hz : z ≤ 1000) (xs ps : List (List Int)) (h : ps.flatten = frms z xs) : rds (some []) 0 ps = (xs.map (·.take z), 0, some []) := by
  have e := frms_frs hz xs []
  rw [List.append_nil, Fa.frs_nil, List.append_nil] at e
  have e2 : frs ([] ++ ps.flatten) = (xs.map (·.take z), []) := by rw [List.nil_append, h, e]
  rw [rds_all ps [] Fa.cut_nil Fa.brk_nil, e2]
  simp [Fa.brk_nil]

set_option maxRecDepth 100000 in
set_option maxHeartbeats 8000000 in
theorem walk_FrameBack (A0 : Option Addr) (n0 c0 : Nat) (ls0 : List (List Int)) (A1 : Option Addr) (n1 c1 : Nat) (l1 : List Int) (w : World) (s0 : LL w A0 n0 c0 ls0) (b0 : ∀ l ∈ ls0, IsB l) (z0 : ∀ l ∈ ls0, l.length ≤ 140737488351232) (s1 : Sl .i64 w A1 n1 c1 l1) (b1 : ∀ x ∈ l1, (Lit.int .i64 x).wf = true) (z1 : c1 * 8 ≤ 140737488351232) (tab : It.Tab w) (env : Hb.Env w) :
    Calls Tryd.prog 7 #[.slice A0 n0 c0, .slice A1 n1 c1] w fun e w' => e = .returned (.bool true) ∧ Below w.heap.size w w' := by
  obtain ⟨i0, hi, hz0, hz1, hz2⟩ := info_parts u8_info
  obtain ⟨j0, hj, jz0, jz1, jz2⟩ := info_parts bytes_info
  have hlen := s0.len
  have hmx : n0 ≤ 9223372036854775807 := by have := s0.le; have := s0.max; unfold maxLen at *; omega
  have S0 := Lib.hid s0
  have B0 := Lib.hid b0
  have S1 := Lib.hid s1
  have Z1 := Lib.hid b1
  have E := Lib.hid env
  have T := Lib.hid tab
  clear s0 b0 z0 s1 b1 env tab
  go_enter Tryd.func7, Tryd.ntmps7
  go_wp2
  go_loopw [5, 6, 7] (fun bv wv ix wr => ∃ (k : Nat), ix = .int .i64 k ∧ k ≤ n0 ∧ k ≤ 20 ∧ Hid (Wd.Own .u8 5 wr w.heap.size bv (frms 500 (ls0.take k))) ∧ Hid (VL w wr w.heap.size wv ((ls0.take k).map (·.take 500))) ∧ Hid (Below w.heap.size w wr)) (fun _ _ ix _ => 20 - (intOf ix).toNat)
  case atStart => exact ⟨0, rfl, Nat.zero_le _, by omega, Lib.hid Wd.Own.nil, Lib.hid (VL.nil _ _ _), Lib.hid (Below.refl _ _)⟩
  case round =>
    obtain ⟨k, rfl, hk, hk10, ho, hv, hb⟩ := hrel
    have hfl := frms_len (z := 500) (by omega) (ls0.take k)
    have htk : (ls0.take k).length = k := by rw [List.length_take]; omega
    rw [htk] at hfl
    have hfl2 : (frms 500 (ls0.take k)).length ≤ 10780 := by omega
    have hsB := hb.out.size
    by_cases hgo : k < n0 ∧ k < 20
    · obtain ⟨hkn, hk10'⟩ := hgo
      have i1 : (k : Int) < (n0 : Int) := by omega
      have i2 : (k : Int) < 20 := by omega
      obtain ⟨bb, off, X, m, cc, lk, rfl, hlk, hc0, sx, hbb⟩ := S0.out.look hkn
      have hc : wr.cell? ⟨bb, off + k, none⟩ = some (.slice X m cc) := (hb.out.cell (p := ⟨bb, off + k, none⟩) hbb).trans hc0
      have hmc := sx.le
      have hmm : m ≤ 9223372036854775807 := by have := sx.le; have := sx.max; unfold maxLen at *; omega
      obtain ⟨N, hN⟩ : ∃ N, N = min m 500 := ⟨_, rfl⟩
      have hmin : min (m : Int) 500 = (N : Int) := by omega
      have hN1 : N ≤ m := by omega
      have hN2 : N ≤ 500 := by omega
      have hNc : (N : Int) ≤ (cc : Int) := by omega
      have e0 : lk.take N = lk.take 500 := by
        have := sx.len
        by_cases g : m ≤ 500
        · rw [List.take_of_length_le (by omega), List.take_of_length_le (by omega)]
        · rw [show N = 500 by omega]
      clear hN
      have sN := sx.cut0 N hN1
      rw [e0] at sN
      have SN := Lib.hid sN
      have TB := Lib.hid (T.out.below hb.out)
      have hfrs := Lib.hid (show frms 500 (ls0.take (k + 1)) = frms 500 (ls0.take k) ++ fr (lk.take 500) by rw [List.take_add_one, hlk]; exact Fa.frms_snoc _ _ _)
      have hmapS := Lib.hid (show (ls0.take (k + 1)).map (·.take 500) = (ls0.take k).map (·.take 500) ++ [lk.take 500] by rw [List.take_add_one, hlk]; simp)
      have hml : ((ls0.take k).map (·.take 500)).length = k := by rw [List.length_map, htk]
      obtain ⟨vs, hrow, hel⟩ := id hv.out
      rw [hml] at hrow
      have HML := Lib.hid hml
      have hvl : vs.length = k := by have := hrow.1; omega
      have HEL := Lib.hid hel
      have HROW := Lib.hid hrow
      clear sx hlk hbb hc0 sN e0 hel hrow hml
      go_wp2_with fail
      go_quiet (fail)
      have hbq := Lib.hid (Wd.below_drewN hb.out nq)
      have oq : Wd.Own .u8 5 (wr.drewN nq) w.heap.size u5 (frms 500 (ls0.take k)) := ho.out
      have rq : (wr.drewN nq).ownsRow w.heap.size 27 1 u6 k vs := HROW.out
      have tq := TB.out.below (Wd.below_drewN (Below.refl wr.heap.size wr) nq)
      have hsq : w.heap.size ≤ (wr.drewN nq).heap.size := hsB
      generalize wr.drewN nq = wq at *
      have OQ := Lib.hid oq
      have RQ := Lib.hid rq
      have TQ := Lib.hid tq
      clear oq rq tq
      go_wp2_with fail
      refine (frame_ok _ _ _ _ _ (SN.out.below hbq.out) (by omega) TQ.out).mono ?_
      rintro e w2 ⟨A2, c2, rfl, t2, hb2⟩
      have O2 := Lib.hid (OQ.out.below hb2 (fun g hg => (OQ.out.lt hg).2))
      have R2 := Lib.hid (row_stay RQ.out (Stay.of_below (fun _ => False) hb2) (fun _ _ c => c))
      have H2 := Lib.hid (hbq.out.trans (hb2.mono hsq))
      have T2 := Lib.hid t2
      have hs2 := hb2.size
      have hhl : (hd N).length ≤ 39 := by rw [hd_length]; have := decs_five (show N ≤ 65536 by omega); omega
      have hkk := Lib.hid (show k ≤ 20 by omega)
      clear t2 hb2
      go_wp2_with (first
        | (at_builtin; refine wp_bytes rfl _ _ _ rfl w.heap.size Tryd.underlying27 hi hz0 hz1 hz2 rfl (l := frms 500 (ls0.take k)) rfl O2.out rfl T2.out (by unfold maxLen; omega) (by omega) (by omega) ?_; intro v3 w3 o3 b3 g3 _; have R3 := Lib.hid (row_stay R2.out (Stay.grown (S := fun q => u5.ownBlock = some q) g3 (fun q e => e)) (fun g hg c => row_ne R2.out O2.out (by decide) g hg c)); have O3 := Lib.hid o3; have H3 := Lib.hid (H2.out.trans b3); have hs3 := b3.size; clear o3 b3 g3)
        | (at_builtin; refine wp_own rfl _ _ _ rfl w.heap.size Tryd.underlying22 hj jz0 jz1 jz2 rfl (xs := vs) (n := k) rfl (R3.out.alloc (.cells #[.slice X N cc] 27)) (A := some ⟨w3.heap.size, 0, none⟩) (m := 1) (c := 1) (news := [.slice X N cc]) rfl rfl (fun e => by cases e) (fun ad e => by cases e; exact cell_one_new w3 _ _) (by simp [Value.oneCell']) (by have := hkk.out; unfold maxLen; omega) (by have := hkk.out; omega) (by simp; omega) ?_; intro v4 w4 o4 b4 g4 _; have V4 := Lib.hid (vl_snoc (w0 := w) (ls := (ls0.take k).map (·.take 500)) (by rw [HML.out]; exact hvl) HEL.out SN.out (by rw [HML.out]; exact o4)); have O4 := Lib.hid (Wd.Own.stay (Wd.Own.below O3.out (Dd.below_alloc w3 (.cells #[.slice X N cc] 27)) (fun g hg => (O3.out.lt hg).2)) (Stay.grown (S := fun q => u6.ownBlock = some q) g4 (fun q e => e)) (fun g hg c => row_ne (R3.out.alloc (.cells #[.slice X N cc] 27)) (Wd.Own.below O3.out (Dd.below_alloc w3 (.cells #[.slice X N cc] 27)) (fun g hg => (O3.out.lt hg).2)) (by decide) g c hg)); have H4 := Lib.hid (H3.out.trans (((Below.refl w.heap.size w3).alloc (by omega) (.cells #[.slice X N cc] 27)).trans b4)); clear o4 b4 g4))
      go_roundw
      case rel => exact ⟨k + 1, by go_num, by omega, by omega, Lib.hid (by rw [hfrs.out]; exact O4.out), Lib.hid (by rw [hmapS.out]; exact V4.out), H4⟩
      case measure => simp [intOf]; omega
    · have hcase : (¬ (k : Int) < (n0 : Int)) ∨ ((k : Int) < (n0 : Int) ∧ ¬ (k : Int) < 20) := by omega
      have hfb : IsB (frms 500 (ls0.take k)) := frms_isB (fun l hl => B0.out l (List.mem_of_mem_take hl))
      obtain ⟨A4, c4, hbv, t4, _⟩ := ho.out.sl
      subst hbv
      have T4 := Lib.hid t4
      have PC := Lib.hid (pieces_any A4 _ _ c4 _ _ _ _ wr t4 hfb (S1.out.below hb.out) Z1.out (by omega))
      have hRD := Lib.hid (fun ps h => rds_frms (z := 500) (by omega) (ls0.take k) ps h)
      have hml : ((ls0.take k).map (·.take 500)).length = k := by rw [List.length_map, htk]
      have HFL := Lib.hid hfl2
      generalize (ls0.take k).map (·.take 500) = xs at *
      generalize frms 500 (ls0.take k) = F at *
      clear t4 hfb hfl hfl2 htk hgo T4 ho hml
      rcases hcase with i1 | ⟨i1, i2⟩
      all_goals
        go_wp2_with fail
        refine PC.out.mono ?_
        rintro e w5 ⟨ps, v5, rfl, v5v, hfl5, hps, hb5⟩
        obtain ⟨A5, c5, rfl, l5⟩ := v5v.ll hb5
        have V5 := Lib.hid (hv.out.below hb5)
        have H5 := Lib.hid (ext_trans hb.out (hb5.mono (Nat.le_refl _)))
        have HR5 := Lib.hid (hRD.out ps hfl5)
        have RC := Lib.hid (reads_any A5 _ c5 ps w5 l5 hps (by rw [hfl5]; have := HFL.out; omega) (E.out.below H5.out))
        clear v5v hfl5 hps hb5 l5 PC
        go_wp2_with fail
        refine RC.out.mono ?_
        rintro e w6 ⟨v6, rfl, o6, hb6⟩
        rw [HR5.out] at o6 ⊢
        obtain ⟨A6, c6, rfl, l6, _⟩ := OL.ll o6
        have H6 := Lib.hid (ext_trans H5.out hb6)
        obtain ⟨A7, c7, hv7, l7⟩ := VL.ll (V5.out.below hb6) H6.out
        subst hv7
        have SM := Lib.hid (same_any _ _ _ _ _ _ _ _ w6 l6 l7)
        simp only [decide_true] at SM
        clear o6 hb6 l6 l7 RC V5 hv
        simp only [lft, List.length_nil]
        go_wp2_with fail
        refine SM.out.mono ?_
        rintro e w7 ⟨rfl, q, rfl⟩
        go_wp2_with fail
        refine (awake7 _ (E.out.below (Wd.below_drewN H6.out q))).mono ?_
        rintro e w8 ⟨rfl, hb8⟩
        go_wp2
        go_ret
        exact ⟨rfl, ext_trans (Wd.below_drewN H6.out q) hb8⟩
end Go.Proofs.YtigiiofiajhnlaaDoor
