/-
  The document's answers of layer 4 (colophonref04): Pos.
-/
import Derived.Test.YtfpgnnjkojpmdaaPg
namespace Go.Proofs.Ytfpgnnjkojpmdaa
set_option linter.unusedVariables false
set_option linter.unusedSimpArgs false
open Go.RowKit Go.Shelf
namespace Pc
open Utf Wd Wr We Wi Lm Lc Uw

theorem fit_stop {q s : List Int} {k : Nat} (h1 : (encs q).length ≤ k) (h2 : ∀ d s', s = d :: s' → k < (encs q).length + (enc d).length) : fit (q ++ s) k = q := by
  have := fit_app q s (k - (encs q).length)
  rw [show (encs q).length + (k - (encs q).length) = k by omega] at this
  rw [this]
  cases s with
  | nil => simp [fit]
  | cons d s' =>
    have := h2 d s' rfl
    simp only [fit]
    rw [if_neg (by omega), List.append_nil]
theorem dec_mid {cs q s' : List Int} {d : Int} {i k : Nat} {p : Nat × Nat} (hc : Chars cs) (h : Ln cs i p (q ++ d :: s')) (hk : k = p.1 + (encs q).length) : decAt (encs cs) (k : Int) = (d, ((enc d).length : Int), 0) := by
  have hcd : form d ≠ 0 := (h.chars hc).right.head
  have hde := List.length_pos_iff.2 (enc_ne hcd)
  obtain ⟨pL, pR, e1, e2⟩ := h.sp
  have hkk : k = (encs (pL ++ q)).length := by rw [hk, e2, encs_append, List.length_append]
  have hee : cs = (pL ++ q) ++ d :: (s' ++ pR) := by rw [e1]; simp
  have hlt : k < (encs cs).length := by
    have h1 : (encs cs).length = (encs (pL ++ q)).length + ((enc d).length + (encs (s' ++ pR)).length) := by rw [hee, encs_append (pL ++ q), encs_cons, List.length_append, List.length_append]
    omega
  rw [decAt_in hlt]
  have := dec_here (pre := pL ++ q) (post := s' ++ pR) (r := []) hcd
  rw [List.append_nil, ← hee, ← hkk] at this
  exact this

set_option maxRecDepth 100000 in
set_option maxHeartbeats 3200000 in
theorem rpos4_out (M X : Nat) (A : Option Addr) (c : Nat) (cs : List Int) (w : World) (h : Rm w M X A c cs) (a : Int) (ha : a < 0 ∨ ((encs cs).length : Int) < a) :
    Calls Try.prog 20 #[.pointer (some ⟨M, 0, none⟩), .int .i64 a] w fun e w' => e = .returned (.tuple #[P2 0 0, .int .i64 9]) ∧ Below w.heap.size w w' := by
  have hb0 := below_alloc w (.cells #[.int .i64 0, .int .i64 0] 24)
  have B := Lib.hid hb0
  have H := Lib.hid (h.ext hb0)
  have c0 := H.out.duo.at1
  have hlt := H.out.duo.lt
  obtain ⟨BB, vw, vp, hI⟩ := H.out.bi
  have HI := Lib.hid hI
  have few := H.out.few
  clear h hI hb0
  go_enter Try.func20, Try.ntmps20
  go_wp2_with fail
  refine (rfind_out (encs cs) a _ HI.out ha (by omega)).mono ?_
  rintro e w1 ⟨rfl, rfl⟩
  go_wp2_with fail
  refine bodyPost_ret (v := .tuple #[P2 0 0, .int .i64 9]) ?_ rfl ⟨rfl, B.out⟩
  simp only [results, P2]
  go_simp

set_option maxRecDepth 100000 in
set_option maxHeartbeats 6400000 in
theorem rpos4_in (M X : Nat) (A : Option Addr) (c : Nat) (cs : List Int) (w : World) (h : Rm w M X A c cs) (a i : Nat) {p : Nat × Nat} {mid : List Int} (hl : Ln cs i p mid) (hp : Parts (lns (encs cs)) a (i + 1)) (ha : a ≤ (encs cs).length) :
    Calls Try.prog 20 #[.pointer (some ⟨M, 0, none⟩), .int .i64 (a : Nat)] w fun e w' => e = .returned (.tuple #[P2 i (uns (fit mid (a - p.1))).length, .int .i64 0]) ∧ Below w.heap.size w w' := by
  have hb0 := below_alloc w (.cells #[.int .i64 0, .int .i64 0] 24)
  have B := Lib.hid hb0
  have H := Lib.hid (h.ext hb0)
  have CL := Lib.hid (Blk.new w 24 #[.int .i64 0, .int .i64 0])
  have c0 := H.out.duo.at1
  have hlt := H.out.duo.lt
  obtain ⟨BB, vw, vp, hI⟩ := H.out.bi
  have HI := Lib.hid hI
  have few := H.out.few
  have hpa : p.1 ≤ a := by have := hp.2.1 i p (by omega) hl.at_; omega
  obtain ⟨p', q0, hp', hq⟩ := ln_both (encs cs) hl.lt
  rw [hl.at_] at hp'; cases hp'
  have HP := Lib.hid hp
  have HQ := Lib.hid hq
  have HL := Lib.hid hl
  clear h hI hb0 hl hp hq
  go_enter Try.func20, Try.ntmps20
  go_wp2_with fail
  refine (rfind_ok (encs cs) a _ HI.out ha (by omega)).mono ?_
  rintro e w1 ⟨r, rfl, hpp, rfl⟩
  obtain rfl : i = r := rfnd_same ha hpp HP.out
  clear hpp
  go_wp2_with fail
  refine (rline_ok (encs cs) i p q0 _ HI.out HL.out.at_ HQ.out (by omega)).mono ?_
  rintro e w2 ⟨rfl, hb2⟩
  simp only [sp]
  have CL2 := Lib.hid (CL.out.ext hb2)
  have B2 := Lib.hid (ext_trans B.out hb2)
  have H2 := Lib.hid (H.out.ext hb2)
  clear c0 hlt hb2
  go_wp2_with fail
  obtain ⟨W0, hW0⟩ : ∃ W0, (w2.alloc (.cells #[.int .i64 (q0.1 : Int), .int .i64 (q0.2 : Int)] 44)).alloc (.cells #[.int .i64 (p.1 : Int), .int .i64 (p.2 : Int)] 44) = W0 := ⟨_, rfl⟩
  rw [hW0]
  have hb3 : Below w2.heap.size w2 W0 := by rw [← hW0]; exact ((Below.refl _ w2).alloc (Nat.le_refl _) _).alloc (by simp) _
  have hbx : Pair W0 (w2.heap.size + 1) 44 p := by rw [← hW0]; have := Pair.new (w2.alloc (.cells #[.int .i64 (q0.1 : Int), .int .i64 (q0.2 : Int)] 44)) 44 p; simpa using this
  have CL3 := Lib.hid (CL2.out.ext hb3)
  have B3 := Lib.hid (ext_trans B2.out hb3)
  have H3 := Lib.hid (H2.out.ext hb3)
  have x0 := hbx.at0
  have x1 := hbx.at1
  have hxl := hbx.lt
  clear hb3 hbx hW0
  have c2 := H3.out.duo.at0
  have hlt3 := H3.out.duo.lt
  have hle := HL.out.le
  have hfr := HL.out.from
  have hmx : c ≤ 9223372036854775807 := by have := H3.out.sl.max; unfold maxLen at this; exact this
  have hcp := H3.out.sl.le
  have HM := Lib.hid (HL.out.chars H3.out.ch)
  have HC := Lib.hid H3.out.ch
  have HLN := Lib.hid HL.out.len
  generalize w2.heap.size + 1 = Y at *
  go_loopw [11] (fun v wr => ∃ (k : Nat) (q s : List Int), v = .int .i64 (k : Nat) ∧ Hid (mid = q ++ s) ∧ Hid (k = p.1 + (encs q).length) ∧ k ≤ a ∧ k ≤ p.2 ∧ Hid (Below W0.heap.size W0 wr)) (fun v _ => p.2 - (intOf v).toNat)
  case atStart => exact ⟨p.1, [], mid, rfl, Lib.hid rfl, Lib.hid (by simp), hpa, hfr, Lib.hid (Below.refl _ _)⟩
  case round =>
    obtain ⟨k, q, s, rfl, hq, hk, hka, hkp, hbr⟩ := hrel
    have y1 : wr.cell? ⟨Y, 1, none⟩ = some (.int .i64 (p.2 : Int)) := (hbr.out.cell (p := ⟨Y, 1, none⟩) hxl).trans x1
    have m0 : wr.cell? ⟨M, 0, none⟩ = some (.slice A (encs cs).length c) := (hbr.out.cell (p := ⟨M, 0, none⟩) hlt3).trans c2
    have Hr := Lib.hid (H3.out.ext hbr.out)
    by_cases hlt : k < p.2
    · have i1 : (k : Int) < (p.2 : Int) := by omega
      have hsn : s ≠ [] := by
        rintro rfl
        have h1 := hk.out
        have h2 := HLN.out
        rw [hq.out, List.append_nil] at h2
        omega
      obtain ⟨d, s', rfl⟩ := List.exists_cons_of_ne_nil hsn
      have hlq : Ln cs i p (q ++ d :: s') := hq.out ▸ HL.out
      have HD := Lib.hid (dec_mid HC.out hlq hk.out)
      have hsz : k + (enc d).length ≤ p.2 := by
        have h1 := hk.out
        have h2 := HLN.out
        rw [hq.out, encs_append, encs_cons, List.length_append, List.length_append] at h2
        omega
      have hde : 0 < (enc d).length := List.length_pos_iff.2 (enc_ne (hlq.chars HC.out).right.head)
      clear hsn hlq
      go_wp2_with fail
      refine (Wf.rdecode_at _ _ _ _ _ _ Hr.out.sl (encs_byte cs) HD.out).mono ?_
      rintro e w4 ⟨rfl, hb4⟩
      have hbr4 := Lib.hid (ext_trans hbr.out hb4)
      have hnk := Lib.hid (show k + (enc d).length = p.1 + (encs (q ++ [d])).length by rw [hk.out, encs_snoc, List.length_append]; omega)
      have hnq := Lib.hid (show mid = (q ++ [d]) ++ s' by rw [hq.out]; simp)
      have hst : a < k + (enc d).length → Hid ((uns (fit mid (a - p.1))).length = (uns q).length) := fun hgt => Lib.hid (by
        have h1 := hk.out
        rw [hq.out, fit_stop (by omega) (by intro d1 s1 e1; cases e1; omega)])
      clear hb4 y1 m0
      generalize (enc d).length = sz at *
      by_cases hgt : a < k + sz
      · have i2 : (k : Int) + (sz : Int) > (a : Int) := by omega
        have HU := hst hgt
        clear hst hnk hnq HD
        have y0 : w4.cell? ⟨Y, 0, none⟩ = some (.int .i64 (p.1 : Int)) := (hbr4.out.cell (p := ⟨Y, 0, none⟩) hxl).trans x0
        have m0 : w4.cell? ⟨M, 0, none⟩ = some (.slice A (encs cs).length c) := (hbr4.out.cell (p := ⟨M, 0, none⟩) hlt3).trans c2
        have H4 := Lib.hid (H3.out.ext hbr4.out)
        have CL4 := Lib.hid (CL3.out.ext hbr4.out)
        have B4 := Lib.hid (ext_trans B3.out hbr4.out)
        have hY4 : Y < w4.heap.size := Nat.lt_of_lt_of_le hxl hbr4.out.size
        have hM4 : M < w4.heap.size := Nat.lt_of_lt_of_le hlt3 hbr4.out.size
        have hQ := Lib.hid (show Chars q by have := HM.out; rw [hq.out] at this; exact this.left)
        have htx : Hid (((encs cs).drop p.1).take (k - p.1) = encs q) := Lib.hid (by
          have h1 := hk.out
          have h2 := HLN.out
          have h5 : (encs mid).length = (encs q).length + (encs (d :: s')).length := by rw [hq.out, encs_append, List.length_append]
          rw [HL.out.part (by omega), show k - p.1 = (encs q).length by omega, hq.out, encs_append, List.take_left])
        have k1 : (0 : Int) ≤ (p.1 : Int) := by omega
        have k2 : (p.1 : Int) ≤ (k : Int) := by have := hk.out; omega
        have k3 : (k : Int) ≤ (c : Int) := by omega
        have k4 : p.1 ≤ k := by omega
        have HS := Lib.hid (show ∀ w', Below w4.heap.size w4 w' → (w'.cell? ⟨M, 0, none⟩ = some (.slice A (encs cs).length c) ∧ w'.cell? ⟨Y, 0, none⟩ = some (.int .i64 (p.1 : Int)) ∧ Below w4.heap.size w4 w') from fun w' hb => ⟨(hb.cell (p := ⟨M, 0, none⟩) hM4).trans m0, (hb.cell (p := ⟨Y, 0, none⟩) hY4).trans y0, hb⟩)
        have hs := H4.out.sl
        by_cases hce : c = p.1
        · exact absurd hce (by omega)
        · have sx := sl_cutM hs p.1 (k - p.1) (by omega)
          rw [htx.out] at sx
          have SX := Lib.hid sx
          clear sx hs
          go_wp2_with fail
          go_region_held3 (fun w' => w'.cell? ⟨M, 0, none⟩ = some (.slice A (encs cs).length c) ∧ w'.cell? ⟨Y, 0, none⟩ = some (.int .i64 (p.1 : Int)) ∧ Below w4.heap.size w4 w') (exact HS.out _ (by repeat (first | assumption | exact Below.refl _ _ | refine below_drew ?_))) ((go_at_call 49; refine (rof_txt _ _ _ q _ hQ.out (SX.out.below (below_drew (Below.refl _ _))) (by omega)).mono ?_; rintro e w5 ⟨rfl, hb2⟩; have hb3 : Below w4.heap.size w4 w5 := Below.trans (below_drew (Below.refl _ _)) hb2; clear hb2))
          obtain ⟨u, hu⟩ : ∃ u, (uns q).length = u := ⟨_, rfl⟩
          have HU2 := Lib.hid hu
          rw [hu]
          clear hu
          have d2 := CL4.out.ext hb3
          have z0 := d2.at_ 0 rfl
          have z1 := d2.at_ 1 rfl
          have f0 := d2.fz 0
          have f1 := d2.fz 1
          have hl5 := d2.lt
          have B5 := Lib.hid (ext_trans B4.out hb3)
          clear hb3 d2
          go_wp2_with fail
          refine bodyPost_ret (v := .tuple #[P2 i u, .int .i64 0]) ?_ rfl ⟨by rw [HU.out, HU2.out], (B5.out.setCell (by simp) _).setCell (by simp) _⟩
          simp only [results, P2]
          go_simp
      · have i2 : ¬ (k : Int) + (sz : Int) > (a : Int) := by omega
        go_wp2_with fail
        go_roundw
        case rel => exact ⟨k + sz, q ++ [d], s', by go_num, hnq, hnk, by omega, hsz, hbr4⟩
        case measure => simp [intOf]; omega
    · obtain rfl : k = p.2 := by omega
      have i1 : ¬ (p.2 : Int) < (p.2 : Int) := by omega
      have HU : Hid ((uns (fit mid (a - p.1))).length = (uns q).length) := Lib.hid (by
        have h1 := hk.out
        have h2 := HLN.out
        have h3 : s = [] := by
          by_cases hs : s = []
          · exact hs
          · have := encs_ne (show Chars s by have := HM.out; rw [hq.out] at this; exact this.right) hs
            rw [hq.out, encs_append, List.length_append] at h2
            omega
        rw [hq.out, h3, fit_stop (by omega) (by intro d1 s1 e1; cases e1)])
      have hbr4 := hbr
      clear y1 m0
      have y0 : wr.cell? ⟨Y, 0, none⟩ = some (.int .i64 (p.1 : Int)) := (hbr4.out.cell (p := ⟨Y, 0, none⟩) hxl).trans x0
      have y1 : wr.cell? ⟨Y, 1, none⟩ = some (.int .i64 (p.2 : Int)) := (hbr4.out.cell (p := ⟨Y, 1, none⟩) hxl).trans x1
      have m0 : wr.cell? ⟨M, 0, none⟩ = some (.slice A (encs cs).length c) := (hbr4.out.cell (p := ⟨M, 0, none⟩) hlt3).trans c2
      have H4 := Lib.hid (H3.out.ext hbr4.out)
      have CL4 := Lib.hid (CL3.out.ext hbr4.out)
      have B4 := Lib.hid (ext_trans B3.out hbr4.out)
      have hY4 : Y < wr.heap.size := Nat.lt_of_lt_of_le hxl hbr4.out.size
      have hM4 : M < wr.heap.size := Nat.lt_of_lt_of_le hlt3 hbr4.out.size
      have hQ := Lib.hid (show Chars q by have := HM.out; rw [hq.out] at this; exact this.left)
      have htx : Hid (((encs cs).drop p.1).take (p.2 - p.1) = encs q) := Lib.hid (by
        have h1 := hk.out
        have h2 := HLN.out
        have h5 : (encs mid).length = (encs q).length + (encs s).length := by rw [hq.out, encs_append, List.length_append]
        rw [HL.out.part (by omega), show p.2 - p.1 = (encs q).length by omega, hq.out, encs_append, List.take_left])
      have k1 : (0 : Int) ≤ (p.1 : Int) := by omega
      have k2 : (p.1 : Int) ≤ (p.2 : Int) := by have := hk.out; omega
      have k3 : (p.2 : Int) ≤ (c : Int) := by omega
      have k4 : p.1 ≤ p.2 := by omega
      have HS := Lib.hid (show ∀ w', Below wr.heap.size wr w' → (w'.cell? ⟨M, 0, none⟩ = some (.slice A (encs cs).length c) ∧ w'.cell? ⟨Y, 0, none⟩ = some (.int .i64 (p.1 : Int)) ∧ Below wr.heap.size wr w') from fun w' hb => ⟨(hb.cell (p := ⟨M, 0, none⟩) hM4).trans m0, (hb.cell (p := ⟨Y, 0, none⟩) hY4).trans y0, hb⟩)
      have hs := H4.out.sl
      by_cases hce : c = p.1
      · subst hce
        have sx := sl_cutE hs p.1 (p.2 - p.1) (by omega) rfl
        rw [htx.out] at sx
        have SX := Lib.hid sx
        clear sx hs
        go_wp2_with fail
        go_region_held3 (fun w' => w'.cell? ⟨M, 0, none⟩ = some (.slice A (encs cs).length p.1) ∧ w'.cell? ⟨Y, 0, none⟩ = some (.int .i64 (p.1 : Int)) ∧ Below wr.heap.size wr w') (exact HS.out _ (by repeat (first | assumption | exact Below.refl _ _ | refine below_drew ?_))) ((go_at_call 49; refine (rof_txt _ _ _ q _ hQ.out (SX.out.below (below_drew (Below.refl _ _))) (by omega)).mono ?_; rintro e w5 ⟨rfl, hb2⟩; have hb3 : Below wr.heap.size wr w5 := Below.trans (below_drew (Below.refl _ _)) hb2; clear hb2))
        obtain ⟨u, hu⟩ : ∃ u, (uns q).length = u := ⟨_, rfl⟩
        have HU2 := Lib.hid hu
        rw [hu]
        clear hu
        have d2 := CL4.out.ext hb3
        have z0 := d2.at_ 0 rfl
        have z1 := d2.at_ 1 rfl
        have f0 := d2.fz 0
        have f1 := d2.fz 1
        have hl5 := d2.lt
        have B5 := Lib.hid (ext_trans B4.out hb3)
        clear hb3 d2
        go_wp2_with fail
        refine bodyPost_ret (v := .tuple #[P2 i u, .int .i64 0]) ?_ rfl ⟨by rw [HU.out, HU2.out], (B5.out.setCell (by simp) _).setCell (by simp) _⟩
        simp only [results, P2]
        go_simp
      · have sx := sl_cutM hs p.1 (p.2 - p.1) (by omega)
        rw [htx.out] at sx
        have SX := Lib.hid sx
        clear sx hs
        go_wp2_with fail
        go_region_held3 (fun w' => w'.cell? ⟨M, 0, none⟩ = some (.slice A (encs cs).length c) ∧ w'.cell? ⟨Y, 0, none⟩ = some (.int .i64 (p.1 : Int)) ∧ Below wr.heap.size wr w') (exact HS.out _ (by repeat (first | assumption | exact Below.refl _ _ | refine below_drew ?_))) ((go_at_call 49; refine (rof_txt _ _ _ q _ hQ.out (SX.out.below (below_drew (Below.refl _ _))) (by omega)).mono ?_; rintro e w5 ⟨rfl, hb2⟩; have hb3 : Below wr.heap.size wr w5 := Below.trans (below_drew (Below.refl _ _)) hb2; clear hb2))
        obtain ⟨u, hu⟩ : ∃ u, (uns q).length = u := ⟨_, rfl⟩
        have HU2 := Lib.hid hu
        rw [hu]
        clear hu
        have d2 := CL4.out.ext hb3
        have z0 := d2.at_ 0 rfl
        have z1 := d2.at_ 1 rfl
        have f0 := d2.fz 0
        have f1 := d2.fz 1
        have hl5 := d2.lt
        have B5 := Lib.hid (ext_trans B4.out hb3)
        clear hb3 d2
        go_wp2_with fail
        refine bodyPost_ret (v := .tuple #[P2 i u, .int .i64 0]) ?_ rfl ⟨by rw [HU.out, HU2.out], (B5.out.setCell (by simp) _).setCell (by simp) _⟩
        simp only [results, P2]
        go_simp
end Pc
end Go.Proofs.Ytfpgnnjkojpmdaa
