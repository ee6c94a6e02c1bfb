/-
  What Pos (package place) does.
-/
import Derived.Test.YtfpgnnjkojpmdaaPd
namespace Go.Proofs.Ytfpgnnjkojpmdaa
set_option linter.unusedVariables false
set_option linter.unusedSimpArgs false
open Go.RowKit Go.Shelf
namespace Pc
open Utf Wd Wr We Wi Lm Lc Uw

set_option maxRecDepth 100000 in
set_option maxHeartbeats 3200000 in
theorem pos_out (M P : Nat) (A : Addr) (c : Nat) (cs : List Int) (w : World) (h : Mp w M P A c cs) (a : Int) (ha : a < 0 ∨ ((encs cs).length : Int) < a) :
    Calls Try.prog 19 #[.pointer (some ⟨M, 0, none⟩), .int .i64 a] w fun e w' => e = .returned (.tuple #[P2 0 0, .int .i64 9]) ∧ Below w.heap.size w w' := by
  have hb0 := below_alloc w (.cells #[.int .i64 0, .int .i64 0] 24)
  have B := Lib.hid hb0
  have H := Lib.hid (h.ext hb0)
  have cl : Duo 24 (w.alloc (.cells #[.int .i64 0, .int .i64 0] 24)) w.heap.size (.int .i64 0) (.int .i64 0) := Duo.new _ _ _ _
  have CL := Lib.hid cl
  have c0 := H.out.duo.at0
  have hlt := H.out.duo.lt
  obtain ⟨BB, hI⟩ := H.out.idx
  have HI := Lib.hid hI
  have OK := Lib.hid H.out.ok
  clear h hI hb0 cl
  go_enter Try.func19, Try.ntmps19
  go_wp2_with fail
  refine (none_ok _ _ _ _ _ _ H.out).mono ?_
  rintro e w' ⟨rfl, rfl⟩
  go_wp2_with fail
  refine (find_out _ P (lns (encs cs)) (encs cs).length a _ HI.out OK.out ha).mono ?_
  rintro e w1 ⟨rfl, hb1⟩
  have d2 := CL.out.ext hb1
  have B2 := Lib.hid (ext_trans B.out hb1)
  have c0 := d2.at0
  have c1 := d2.at1
  have f0 := d2.fz 0
  have f1 := d2.fz 1
  have hlt2 := d2.lt
  have D2 := Lib.hid d2
  clear hb1 d2
  go_wp2_with fail
  refine bodyPost_ret (v := .tuple #[P2 0 0, .int .i64 9]) ?_ rfl ⟨rfl, ?_⟩
  · simp only [results, P2]
    go_simp
  · exact (B2.out.setCell (by simp) _).setCell (by simp) _

set_option maxRecDepth 100000 in
set_option maxHeartbeats 6400000 in
theorem pos_in (M P : Nat) (A : Addr) (c : Nat) (cs : List Int) (w : World) (h : Mp w M P A c cs) (a i : Nat) {p : Nat × Nat} {mid : List Int} (hl : Ln cs i p mid) (hp : Parts (lns (encs cs)) a (i + 1)) (ha : a ≤ (encs cs).length) :
    Calls Try.prog 19 #[.pointer (some ⟨M, 0, none⟩), .int .i64 (a : Nat)] w fun e w' => e = .returned (.tuple #[P2 i (uns (fit mid (a - p.1))).length, .int .i64 0]) ∧ Below w.heap.size w w' := by
  have hb0 := below_alloc w (.cells #[.int .i64 0, .int .i64 0] 24)
  have B := Lib.hid hb0
  have H := Lib.hid (h.ext hb0)
  have cl : Duo 24 (w.alloc (.cells #[.int .i64 0, .int .i64 0] 24)) w.heap.size (.int .i64 0) (.int .i64 0) := Duo.new _ _ _ _
  have CL := Lib.hid cl
  have c0 := H.out.duo.at0
  have hlt := H.out.duo.lt
  obtain ⟨BB, hI⟩ := H.out.idx
  have HI := Lib.hid hI
  have OK := Lib.hid H.out.ok
  have hpa : p.1 ≤ a := by have := hp.2.1 i p (by omega) hl.at_; omega
  obtain ⟨p', q, hp', hq⟩ := ln_both (encs cs) hl.lt
  rw [hl.at_] at hp'; cases hp'
  have HP := Lib.hid hp
  have HQ := Lib.hid hq
  have HL := Lib.hid hl
  clear h hI hb0 cl hl hp hq
  go_enter Try.func19, Try.ntmps19
  go_wp2_with fail
  refine (none_ok _ _ _ _ _ _ H.out).mono ?_
  rintro e w' ⟨rfl, rfl⟩
  go_wp2_with fail
  refine (find_ok _ P (lns (encs cs)) (encs cs).length a _ HI.out OK.out ha).mono ?_
  rintro e w1 ⟨r, rfl, hpp, hb1⟩
  obtain rfl : r = i := by have := parts_one hpp HP.out; omega
  have CL1 := Lib.hid (CL.out.ext hb1)
  have B1 := Lib.hid (ext_trans B.out hb1)
  have H1 := Lib.hid (H.out.ext hb1)
  have HI1 := Lib.hid (HI.out.ext hb1)
  clear c0 hlt hb1 hpp
  have c0 := H1.out.duo.at0
  have hlt := H1.out.duo.lt
  go_wp2_with fail
  refine (line_txt _ P (encs cs) r p q _ HI1.out HL.out.at_ HQ.out).mono ?_
  rintro e w2 ⟨rfl, hb2⟩
  simp only [sp]
  have CL2 := Lib.hid (CL1.out.ext hb2)
  have B2 := Lib.hid (ext_trans B1.out hb2)
  have H2 := Lib.hid (H1.out.ext hb2)
  clear c0 hlt hb2
  go_wp2_with fail
  obtain ⟨W0, hW0⟩ : ∃ W0, (w2.alloc (.cells #[.int .i64 (q.1 : Int), .int .i64 (q.2 : Int)] 44)).alloc (.cells #[.int .i64 (p.1 : Int), .int .i64 (p.2 : Int)] 44) = W0 := ⟨_, rfl⟩
  rw [hW0]
  have hb3 : Below w2.heap.size w2 W0 := by rw [← hW0]; exact ((Below.refl _ w2).alloc (Nat.le_refl _) _).alloc (by simp) _
  have hbx : Pair W0 (w2.heap.size + 1) 44 p := by rw [← hW0]; have := Pair.new (w2.alloc (.cells #[.int .i64 (q.1 : Int), .int .i64 (q.2 : Int)] 44)) 44 p; simpa using this
  have CL3 := Lib.hid (CL2.out.ext hb3)
  have B3 := Lib.hid (ext_trans B2.out hb3)
  have H3 := Lib.hid (H2.out.ext hb3)
  have x0 := hbx.at0
  have x1 := hbx.at1
  have hxl := hbx.lt
  clear hb3 hbx hW0
  have c2 := H3.out.duo.at1
  have hlt3 := H3.out.duo.lt
  obtain ⟨b, off, rfl⟩ := H3.out.spot
  have hle := HL.out.le
  have hfr := HL.out.from
  have hs := H3.out.sl
  have hmx : c ≤ 9223372036854775807 := by have := hs.max; unfold maxLen at this; exact this
  have hcp := hs.le
  have HM := Lib.hid (HL.out.chars H3.out.ch)
  have few := H3.out.few
  have HLN := Lib.hid HL.out.len
  obtain ⟨u, hu⟩ : ∃ u, (uns (fit mid (a - p.1))).length = u := ⟨_, rfl⟩
  have HU := Lib.hid hu
  have hul : u ≤ 140737488355328 := by
    have h1 := (uns_len (fit_chars HM.out (a - p.1))).1
    obtain ⟨post, h4, _⟩ := fit_cut mid (a - p.1)
    have h5 : (encs mid).length = (encs (fit mid (a - p.1))).length + (encs post).length := by rw [← List.length_append, ← encs_append, ← h4]
    have h6 := HLN.out
    omega
  clear hu
  generalize hY : w2.heap.size + 1 = Y at *
  clear hY
  by_cases hce : c = p.1
  · have ea : a = p.1 := by omega
    have eb : p.2 = p.1 := by omega
    have e1 : encs mid = [] := List.eq_nil_of_length_eq_zero (by have := HLN.out; omega)
    have e2 : mid = [] := by
      by_cases hm : mid = []
      · exact hm
      · have := encs_ne HM.out hm; rw [e1] at this; simp at this
    have HK : Hid ((uns (fit mid 0)).length = u) := Lib.hid (by rw [← HU.out, e2]; rfl)
    have k1 : (0 : Int) ≤ (p.1 : Int) := by omega
    have k3 : (p.1 : Int) ≤ (c : Int) := by omega
    subst hce
    rw [ea, eb] at *
    clear ea eb
    · have hA : Sl .u8 W0 (some ⟨b, off, none⟩) 0 0 ((encs mid).take 0) := by
        rw [List.take_zero]; exact ⟨Row.nil, by omega, by omega, fun e => by cases e⟩
      have HA := Lib.hid hA
      have hah : Hid (∀ q, Calls Try.prog 46 #[.slice (some ⟨b, off, none⟩) (0) (0)] (W0.drewN q) fun e w' => e = .returned (.tuple #[.int .i64 (u : Int), .int .i64 0]) ∧ w' = W0.drewN q) :=
        Lib.hid (fun q => (ahead_ok _ _ _ mid (0) _ HM.out (HA.out.drewN q)).mono (fun e w' h => ⟨by rw [h.1, HK.out], h.2.symm⟩))
      clear hs hA
      go_wp2_with fail
      go_quiet ((go_at_call 46; exact Calls.quiet_of_same (hah.out _)))
      have d2 : Duo 24 (W0.drewN nq) w.heap.size (.int .i64 0) (.int .i64 0) := CL3.out
      have c0 := d2.at0
      have c1 := d2.at1
      have f0 := d2.fz 0
      have f1 := d2.fz 1
      have hlt2 := d2.lt
      have B4 := Lib.hid (below_drewN B3.out nq)
      clear d2
      generalize W0.drewN nq = W1 at *
      go_wp2_with fail
      refine bodyPost_ret (v := .tuple #[P2 r u, .int .i64 0]) ?_ rfl ⟨by rw [HU.out], ?_⟩
      · simp only [results, P2]
        go_simp
      · exact (B4.out.setCell (by simp) _).setCell (by simp) _
  · by_cases hap : a ≤ p.2
    · have hA : Sl .u8 W0 (some ⟨b, off + p.1, none⟩) (a - p.1) (c - p.1) ((encs mid).take (a - p.1)) := by
        have := hs.cutS p.1 (a - p.1) (by omega); rw [HL.out.part (by have := HLN.out; omega)] at this; exact this
      have HK := HU
      have k1 : (0 : Int) ≤ (p.1 : Int) := by omega
      have k2 : (p.1 : Int) ≤ (a : Int) := by omega
      have k3 : (a : Int) ≤ (c : Int) := by omega
      have k4 : (a : Int) ≤ (p.2 : Int) := by omega
      have k5 : min (a : Int) (p.2 : Int) = (a : Int) := by omega
      have HA := Lib.hid hA
      have hah : Hid (∀ q, Calls Try.prog 46 #[.slice (some ⟨b, off + p.1, none⟩) (a - p.1) (c - p.1)] (W0.drewN q) fun e w' => e = .returned (.tuple #[.int .i64 (u : Int), .int .i64 0]) ∧ w' = W0.drewN q) :=
        Lib.hid (fun q => (ahead_ok _ _ _ mid (a - p.1) _ HM.out (HA.out.drewN q)).mono (fun e w' h => ⟨by rw [h.1, HK.out], h.2.symm⟩))
      clear hs hA
      go_wp2_with fail
      go_quiet ((go_at_call 46; exact Calls.quiet_of_same (hah.out _)))
      have d2 : Duo 24 (W0.drewN nq) w.heap.size (.int .i64 0) (.int .i64 0) := CL3.out
      have c0 := d2.at0
      have c1 := d2.at1
      have f0 := d2.fz 0
      have f1 := d2.fz 1
      have hlt2 := d2.lt
      have B4 := Lib.hid (below_drewN B3.out nq)
      clear d2
      generalize W0.drewN nq = W1 at *
      go_wp2_with fail
      refine bodyPost_ret (v := .tuple #[P2 r u, .int .i64 0]) ?_ rfl ⟨by rw [HU.out], ?_⟩
      · simp only [results, P2]
        go_simp
      · exact (B4.out.setCell (by simp) _).setCell (by simp) _
    · have hA : Sl .u8 W0 (some ⟨b, off + p.1, none⟩) (p.2 - p.1) (c - p.1) ((encs mid).take (p.2 - p.1)) := by
        have := hs.cutS p.1 (p.2 - p.1) (by omega); rw [HL.out.part (by have := HLN.out; omega)] at this; exact this
      have HK : Hid ((uns (fit mid (p.2 - p.1))).length = u) := Lib.hid (by have := HLN.out; rw [← HU.out, fit_all (by omega), fit_all (by omega)])
      have k1 : (0 : Int) ≤ (p.1 : Int) := by omega
      have k2 : (p.1 : Int) ≤ (p.2 : Int) := by omega
      have k3 : (p.2 : Int) ≤ (c : Int) := by omega
      have k4 : ¬ (a : Int) ≤ (p.2 : Int) := by omega
      have k5 : min (a : Int) (p.2 : Int) = (p.2 : Int) := by omega
      have k6 : (p.2 : Int) < (a : Int) := by omega
      have HA := Lib.hid hA
      have hah : Hid (∀ q, Calls Try.prog 46 #[.slice (some ⟨b, off + p.1, none⟩) (p.2 - p.1) (c - p.1)] (W0.drewN q) fun e w' => e = .returned (.tuple #[.int .i64 (u : Int), .int .i64 0]) ∧ w' = W0.drewN q) :=
        Lib.hid (fun q => (ahead_ok _ _ _ mid (p.2 - p.1) _ HM.out (HA.out.drewN q)).mono (fun e w' h => ⟨by rw [h.1, HK.out], h.2.symm⟩))
      clear hs hA
      go_wp2_with fail
      go_quiet ((go_at_call 46; exact Calls.quiet_of_same (hah.out _)))
      have d2 : Duo 24 (W0.drewN nq) w.heap.size (.int .i64 0) (.int .i64 0) := CL3.out
      have c0 := d2.at0
      have c1 := d2.at1
      have f0 := d2.fz 0
      have f1 := d2.fz 1
      have hlt2 := d2.lt
      have B4 := Lib.hid (below_drewN B3.out nq)
      clear d2
      generalize W0.drewN nq = W1 at *
      go_wp2_with fail
      refine bodyPost_ret (v := .tuple #[P2 r u, .int .i64 0]) ?_ rfl ⟨by rw [HU.out], ?_⟩
      · simp only [results, P2]
        go_simp
      · exact (B4.out.setCell (by simp) _).setCell (by simp) _
end Pc
end Go.Proofs.Ytfpgnnjkojpmdaa
