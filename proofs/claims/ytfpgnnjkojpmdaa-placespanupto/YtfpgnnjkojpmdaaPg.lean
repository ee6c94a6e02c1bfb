/-
  The document's answers of layer 4 (colophonref04): New, Offset, Pos, Span, Range, End.
-/
import Derived.Test.YtfpgnnjkojpmdaaPf
import Derived.Test.YtfpgnnjkojpmdaaUs
import Derived.Test.YtfpgnnjkojpmdaaRd
import Derived.Test.YtfpgnnjkojpmdaaWq
namespace Go.Proofs.Ytfpgnnjkojpmdaa
set_option linter.unusedVariables false
set_option linter.unusedSimpArgs false
open Go.RowKit Go.Shelf
namespace Pc
open Utf Wd Wr We Wi Lm Lc Uw

/-- R is the document's map of the text that the characters cs are -/
structure Rm (w : World) (R X : Nat) (A : Option Addr) (c : Nat) (cs : List Int) : Prop where
  duo : Duo 79 w R (.slice A (encs cs).length c) (.pointer (some ⟨X, 0, none⟩))
  bi : ∃ B vw vp, Bi w B X vw vp (whs (encs cs)) (lns (encs cs))
  sl : Sl .u8 w A (encs cs).length c (encs cs)
  ch : Chars cs
  few : (encs cs).length ≤ 70368744177664
theorem Rm.ext {w w' : World} {R X : Nat} {A : Option Addr} {c : Nat} {cs : List Int} (h : Rm w R X A c cs) (hb : Below w.heap.size w w') : Rm w' R X A c cs := by
  obtain ⟨B, vw, vp, hbi⟩ := h.bi
  exact ⟨h.duo.ext hb, ⟨B, vw, vp, hbi.ext hb⟩, h.sl.below hb, h.ch, h.few⟩

set_option maxHeartbeats 800000 in
theorem rnew4_bad (A : Option Addr) (n c : Nat) (b : List Int) (w : World) (s : Sl .u8 w A n c b) (hb : IsB b) {i m : Nat} {e : Int} (h : chk b = (i, m, e)) (he : e ≠ 0) :
    Calls Try.prog 14 #[.slice A n c] w fun r w' => r = .returned (.tuple #[.pointer none, .int .i64 e]) ∧ Below w.heap.size w w' := by
  have S := Lib.hid s
  have K := Lib.hid h
  have d : (e != 0) = true := by simpa using he
  clear s h
  go_enter Try.func14, Try.ntmps14
  go_wp2_with fail
  refine (rnew_bad _ _ _ _ _ S.out hb K.out he).mono ?_
  rintro r w1 ⟨rfl, hb1⟩
  have B := Lib.hid hb1
  clear hb1
  go_wp2
  go_ret2
  exact ⟨rfl, B.out⟩

set_option maxRecDepth 100000 in
set_option maxHeartbeats 1600000 in
theorem rnew4_ok (A : Option Addr) (n c : Nat) (cs : List Int) (w : World) (hc : Chars cs) (s : Sl .u8 w A n c (encs cs)) (hn : (n + 1) * 16 ≤ 140737488355328) :
    Calls Try.prog 14 #[.slice A n c] w fun r w' => ∃ R X A' c', r = .returned (.tuple #[.pointer (some ⟨R, 0, none⟩), .int .i64 0]) ∧ Rm w' R X A' c' cs ∧ Below w.heap.size w w' := by
  have HL := Lib.hid s.len
  have S := Lib.hid s
  have K := Lib.hid (chk_encs hc)
  have HC := Lib.hid hc
  clear s hc
  go_enter Try.func14, Try.ntmps14
  go_wp2_with fail
  refine (rnew_ok _ _ _ _ _ S.out (encs_byte cs) K.out hn).mono ?_
  rintro r w1 ⟨X, vw, vp, rfl, hI, hb1⟩
  have I1 := Lib.hid hI
  have B1 := Lib.hid hb1
  have S1 := Lib.hid (S.out.below hb1)
  clear hI hb1
  go_wp2_with fail
  refine (copy_any _ _ _ _ _ S1.out (by omega)).mono ?_
  rintro r w2 ⟨v, rfl, ho, hb⟩
  obtain ⟨A', c', rfl, s2, _⟩ := ho.sl
  have hba := ext_trans hb (below_alloc w2 (.cells #[.slice A' (encs cs).length c', .pointer (some ⟨X, 0, none⟩)] 79))
  have R := Lib.hid (ext_trans B1.out hba)
  have MM := Lib.hid (show Rm (w2.alloc (.cells #[.slice A' (encs cs).length c', .pointer (some ⟨X, 0, none⟩)] 79)) w2.heap.size X A' c' cs from
    ⟨Duo.new _ _ _ _, ⟨_, _, _, I1.out.ext hba⟩, s2.alloc _, HC.out, by have := HL.out; omega⟩)
  clear ho hb s2 hba
  go_wp2
  go_ret2
  exact ⟨_, _, _, _, rfl, MM.out, R.out⟩

set_option maxRecDepth 100000 in
set_option maxHeartbeats 1600000 in
theorem roffset4_neg (M X : Nat) (A : Option Addr) (c : Nat) (cs : List Int) (w : World) (h : Rm w M X A c cs) (l ch : Int) (hl : l < 0 ∨ ch < 0) :
    Calls Try.prog 18 #[.pointer (some ⟨M, 0, none⟩), P2 l ch] w fun e w' => e = .returned (.tuple #[.int .i64 0, .int .i64 9]) ∧ Below w.heap.size w w' := by
  have B := Lib.hid (below_alloc w (.cells #[.int .i64 l, .int .i64 ch] 24))
  have H := Lib.hid (h.ext (below_alloc w (.cells #[.int .i64 l, .int .i64 ch] 24)))
  clear h
  unfold P2
  by_cases h0 : l < 0
  · go_enter Try.func18, Try.ntmps18
    go_wp2
    go_ret2
    exact ⟨rfl, B.out⟩
  · have h1 : ch < 0 := by omega
    go_enter Try.func18, Try.ntmps18
    go_wp2
    go_ret2
    exact ⟨rfl, B.out⟩

set_option maxRecDepth 100000 in
set_option maxHeartbeats 1600000 in
theorem roffset4_out (M X : Nat) (A : Option Addr) (c : Nat) (cs : List Int) (w : World) (h : Rm w M X A c cs) (l ch : Nat) (hl : (lns (encs cs)).length ≤ l) :
    Calls Try.prog 18 #[.pointer (some ⟨M, 0, none⟩), P2 l ch] w fun e w' => e = .returned (.tuple #[.int .i64 (encs cs).length, .int .i64 0]) ∧ Below w.heap.size w w' := by
  have B := Lib.hid (below_alloc w (.cells #[.int .i64 l, .int .i64 ch] 24))
  have H := Lib.hid (h.ext (below_alloc w (.cells #[.int .i64 l, .int .i64 ch] 24)))
  have cl : (w.alloc (.cells #[.int .i64 l, .int .i64 ch] 24)).cell? ⟨w.heap.size, 0, none⟩ = some (.int .i64 l) := by simp
  have cc : (w.alloc (.cells #[.int .i64 l, .int .i64 ch] 24)).cell? ⟨w.heap.size, 1, none⟩ = some (.int .i64 ch) := by simp
  have c1 := H.out.duo.at0
  have c0 := H.out.duo.at1
  have hlt := H.out.duo.lt
  have i0 : ¬ (l : Int) < 0 := by omega
  have i1 : ¬ (ch : Int) < 0 := by omega
  have i2 : (l : Int) ≥ ((lns (encs cs)).length : Int) := by omega
  obtain ⟨BB, vw, vp, hI⟩ := H.out.bi
  have HI := Lib.hid hI
  clear h hI
  unfold P2
  go_enter Try.func18, Try.ntmps18
  go_wp2_with fail
  generalize w.alloc (.cells #[.int .i64 l, .int .i64 ch] 24) = W0 at *
  have hcnt : Hid (∀ q, Calls Try.prog 42 #[.pointer (some ⟨X, 0, none⟩)] (W0.drewN q) fun e w' => e = .returned (.int .i64 ((lns (encs cs)).length : Nat)) ∧ w' = W0.drewN q) := Lib.hid (fun q => (rcount_txt (encs cs) (W0.drewN q) (show Bi (W0.drewN q) BB X vw vp _ _ from HI.out.ext (below_drewN (Below.refl _ _) q))).mono (fun e w' h => ⟨h.1, h.2.symm⟩))
  go_quiet ((go_at_call 42; exact Calls.quiet_of_same (hcnt.out _)))
  go_wp2
  go_ret2
  exact ⟨rfl, below_drewN B.out _⟩

set_option maxRecDepth 100000 in
set_option maxHeartbeats 6400000 in
theorem roffset4_in (M X : Nat) (A : Option Addr) (c : Nat) (cs : List Int) (w : World) (h : Rm w M X A c cs) (l ch : Nat) {p : Nat × Nat} {mid : List Int} (hl : Ln cs l p mid) (hm : ch ≤ 9223372036854775807) :
    Calls Try.prog 18 #[.pointer (some ⟨M, 0, none⟩), P2 l ch] w fun e w' => e = .returned (.tuple #[.int .i64 ((p.1 + (Utf.ends mid ch).1 : Nat) : Int), .int .i64 0]) ∧ Below w.heap.size w w' := by
  have B := Lib.hid (below_alloc w (.cells #[.int .i64 l, .int .i64 ch] 24))
  have H := Lib.hid (h.ext (below_alloc w (.cells #[.int .i64 l, .int .i64 ch] 24)))
  have cl : (w.alloc (.cells #[.int .i64 l, .int .i64 ch] 24)).cell? ⟨w.heap.size, 0, none⟩ = some (.int .i64 l) := by simp
  have cc : (w.alloc (.cells #[.int .i64 l, .int .i64 ch] 24)).cell? ⟨w.heap.size, 1, none⟩ = some (.int .i64 ch) := by simp
  have hsz : w.heap.size < (w.alloc (.cells #[.int .i64 l, .int .i64 ch] 24)).heap.size := by simp
  have c1 := H.out.duo.at0
  have c0 := H.out.duo.at1
  have hlt := H.out.duo.lt
  have i0 : ¬ (l : Int) < 0 := by omega
  have i1 : ¬ (ch : Int) < 0 := by omega
  have hll := hl.lt
  have hfew0 := H.out.few
  have i2 : ¬ (l : Int) ≥ ((lns (encs cs)).length : Int) := by omega
  obtain ⟨BB, vw, vp, hI⟩ := H.out.bi
  have HI := Lib.hid hI
  obtain ⟨p', q, hp', hq⟩ := ln_both (encs cs) hll
  rw [hl.at_] at hp'; cases hp'
  have HQ := Lib.hid hq
  have HL := Lib.hid hl
  clear h hI hl hq
  unfold P2
  go_enter Try.func18, Try.ntmps18
  go_wp2_with fail
  generalize w.alloc (.cells #[.int .i64 l, .int .i64 ch] 24) = W0 at *
  have hcnt : Hid (∀ q, Calls Try.prog 42 #[.pointer (some ⟨X, 0, none⟩)] (W0.drewN q) fun e w' => e = .returned (.int .i64 ((lns (encs cs)).length : Nat)) ∧ w' = W0.drewN q) := Lib.hid (fun q => (rcount_txt (encs cs) (W0.drewN q) (show Bi (W0.drewN q) BB X vw vp _ _ from HI.out.ext (below_drewN (Below.refl _ _) q))).mono (fun e w' h => ⟨h.1, h.2.symm⟩))
  go_quiet ((go_at_call 42; exact Calls.quiet_of_same (hcnt.out _)))
  clear hcnt
  have B' := Lib.hid (below_drewN B.out nq)
  have H' := Lib.hid (show Rm (W0.drewN nq) M X A c cs from H.out.ext (below_drewN (Below.refl _ _) nq))
  have HI' := Lib.hid (show Bi (W0.drewN nq) BB X vw vp (whs (encs cs)) (lns (encs cs)) from HI.out.ext (below_drewN (Below.refl _ _) nq))
  have cl' : (W0.drewN nq).cell? ⟨w.heap.size, 0, none⟩ = some (.int .i64 l) := cl
  have cc' : (W0.drewN nq).cell? ⟨w.heap.size, 1, none⟩ = some (.int .i64 ch) := cc
  have c0' : (W0.drewN nq).cell? ⟨M, 1, none⟩ = some (.pointer (some ⟨X, 0, none⟩)) := c0
  have c1' : (W0.drewN nq).cell? ⟨M, 0, none⟩ = some (.slice A (encs cs).length c) := c1
  have hsz' : w.heap.size < (W0.drewN nq).heap.size := hsz
  have hlt' : M < (W0.drewN nq).heap.size := hlt
  clear B H HI cl cc c0 c1 hsz hlt
  generalize W0.drewN nq = W1 at *
  go_wp2_with fail
  have hS : ∀ w', Below W1.heap.size W1 w' → (w'.cell? ⟨M, 1, none⟩ = some (.pointer (some ⟨X, 0, none⟩)) ∧ w'.cell? ⟨w.heap.size, 0, none⟩ = some (.int .i64 l) ∧ Below W1.heap.size W1 w') := fun w' hb => ⟨(hb.cell (p := ⟨M, 1, none⟩) hlt').trans c0', (hb.cell (p := ⟨w.heap.size, 0, none⟩) hsz').trans cl', hb⟩
  have HS := Lib.hid hS
  clear hS
  go_upto_region 5 with fail
  go_cut [7, 8] (fun s7 s8 wx => ∃ Y : Nat, s7 = .pointer (some ⟨Y, 0, none⟩) ∧ s8 = .int .i64 0 ∧ wx.cell? ⟨Y, 0, none⟩ = some (.int .i64 (p.1 : Int)) ∧ wx.cell? ⟨Y, 1, none⟩ = some (.int .i64 (p.2 : Int)) ∧ Below W1.heap.size W1 wx)
  case first =>
    go_region_held3 (fun w' => w'.cell? ⟨M, 1, none⟩ = some (.pointer (some ⟨X, 0, none⟩)) ∧ w'.cell? ⟨w.heap.size, 0, none⟩ = some (.int .i64 l) ∧ Below W1.heap.size W1 w') (exact HS.out _ (by repeat (first | assumption | exact Below.refl _ _ | refine below_drew ?_ | refine Below.alloc ?_ (by first | omega | (simp <;> omega)) _ | refine Below.setCell ?_ (by first | omega | (simp <;> omega)) _))) ((go_at_call 43; refine (rline_ok (encs cs) l p q _ (HI'.out.ext (by repeat (first | assumption | exact Below.refl _ _ | refine below_drew ?_ | refine Below.alloc ?_ (by first | omega | (simp <;> omega)) _))) HL.out.at_ HQ.out (by omega)).mono ?_; rintro e w2 ⟨rfl, hb2⟩; simp only [sp]; have hb3 : Below W1.heap.size W1 w2 := Below.trans (by repeat (first | assumption | exact Below.refl _ _ | refine below_drew ?_ | refine Below.alloc ?_ (by first | omega | (simp <;> omega)) _)) (hb2.mono (by first | omega | (simp <;> omega))); have hz3 := hb2.size; obtain ⟨hcc, hff⟩ := bcell hb2; simp at hz3 hcc hff; (try (have hz4 := Nat.lt_of_succ_le hz3)); clear hb2))
    all_goals (go_wp2_with fail; go_meet; exact ⟨_, rfl, rfl, by first | (go_simp; done) | exact (pair_set w2 W1.heap.size (W1.heap.size + 1) (by omega) _ _ _ _ (.int .i64 0) (.int .i64 0) (by rw [hcc _ _ (by omega)]; go_simp) (by rw [hcc _ _ (by omega)]; go_simp)).1, by first | (go_simp; done) | exact (pair_set w2 W1.heap.size (W1.heap.size + 1) (by omega) _ _ _ _ (.int .i64 0) (.int .i64 0) (by rw [hcc _ _ (by omega)]; go_simp) (by rw [hcc _ _ (by omega)]; go_simp)).2, by repeat (first | assumption | exact Below.refl _ _ | refine below_drew ?_ | refine Below.alloc ?_ (by first | omega | (simp <;> omega)) _ | refine Below.setCell ?_ (by first | omega | (simp <;> omega)) _)⟩)
  case rest =>
    obtain ⟨Y, rfl, rfl, x0, x1, hbc⟩ := hcut
    have B2 := Lib.hid (ext_trans B'.out hbc)
    have H2 := Lib.hid (H'.out.ext hbc)
    have c2 := H2.out.duo.at0
    have hlt2 := H2.out.duo.lt
    have cc2 : wc.cell? ⟨w.heap.size, 1, none⟩ = some (.int .i64 ch) := (hbc.cell (p := ⟨w.heap.size, 1, none⟩) hsz').trans cc'
    have hsz2 : w.heap.size < wc.heap.size := Nat.lt_of_lt_of_le hsz' hbc.size
    have hle := HL.out.le
    have hfr := HL.out.from
    have hlen := HL.out.len
    have htx := HL.out.text
    have hs := H2.out.sl
    have hmx : c ≤ 9223372036854775807 := by have := hs.max; unfold maxLen at this; exact this
    have hcp := hs.le
    have HT := Lib.hid htx
    have HM := Lib.hid (HL.out.chars H2.out.ch)
    have hen := (Utf.ends_le mid ch).1
    have HLN := Lib.hid hlen
    have k1 : (0 : Int) ≤ (p.1 : Int) := by omega
    have k2 : (p.1 : Int) ≤ (p.2 : Int) := by omega
    have k3 : (p.2 : Int) ≤ (c : Int) := by omega
    have hsum : p.1 + (Utf.ends mid ch).1 ≤ 140737488355328 := by omega
    have hxl : Y < wc.heap.size := lt_of_cell x0
    generalize hz : (Utf.ends mid ch).1 = z at *
    have HZ := Lib.hid hz
    clear cl' cc' c0' c1' hbc htx hlen hz
    have HS2 := Lib.hid (show ∀ w', Below wc.heap.size wc w' → (w'.cell? ⟨M, 0, none⟩ = some (.slice A (encs cs).length c) ∧ w'.cell? ⟨Y, 0, none⟩ = some (.int .i64 (p.1 : Int)) ∧ w'.cell? ⟨Y, 1, none⟩ = some (.int .i64 (p.2 : Int)) ∧ w'.cell? ⟨w.heap.size, 1, none⟩ = some (.int .i64 ch) ∧ Below wc.heap.size wc w') from
      fun w' hb => ⟨(hb.cell (p := ⟨M, 0, none⟩) hlt2).trans c2, (hb.cell (p := ⟨Y, 0, none⟩) hxl).trans x0, (hb.cell (p := ⟨Y, 1, none⟩) hxl).trans x1, (hb.cell (p := ⟨w.heap.size, 1, none⟩) hsz2).trans cc2, hb⟩)
    by_cases hce : c = p.1
    · subst hce
      have sx := sl_cutE hs p.1 (p.2 - p.1) (by omega) rfl
      rw [HT.out] at sx
      have SX := Lib.hid sx
      clear hs sx
      go_wp2_with fail
      go_region_held3 (fun w' => w'.cell? ⟨M, 0, none⟩ = some (.slice A (encs cs).length p.1) ∧ w'.cell? ⟨Y, 0, none⟩ = some (.int .i64 (p.1 : Int)) ∧ w'.cell? ⟨Y, 1, none⟩ = some (.int .i64 (p.2 : Int)) ∧ w'.cell? ⟨w.heap.size, 1, none⟩ = some (.int .i64 ch) ∧ Below wc.heap.size wc w') (exact HS2.out _ (by repeat (first | assumption | exact Below.refl _ _ | refine below_drew ?_))) ((go_at_call 44; refine (roffset_txt _ _ _ mid _ HM.out (SX.out.below (below_drew (Below.refl _ _))) ch hm).mono ?_; rintro e w3 ⟨rfl, hb2⟩; have hb3 : Below wc.heap.size wc w3 := Below.trans (below_drew (Below.refl _ _)) hb2; clear hb2))
      rw [HZ.out]
      have B3 := Lib.hid (ext_trans B2.out hb3)
      have y0 : w3.cell? ⟨Y, 0, none⟩ = some (.int .i64 (p.1 : Int)) := (hb3.cell (p := ⟨Y, 0, none⟩) hxl).trans x0
      clear hb3
      go_wp2
      go_ret2
      exact ⟨by rw [HZ.out]; simp, B3.out⟩
    · have sx := sl_cutM hs p.1 (p.2 - p.1) (by omega)
      rw [HT.out] at sx
      have SX := Lib.hid sx
      clear hs sx
      go_wp2_with fail
      go_region_held3 (fun w' => w'.cell? ⟨M, 0, none⟩ = some (.slice A (encs cs).length c) ∧ w'.cell? ⟨Y, 0, none⟩ = some (.int .i64 (p.1 : Int)) ∧ w'.cell? ⟨Y, 1, none⟩ = some (.int .i64 (p.2 : Int)) ∧ w'.cell? ⟨w.heap.size, 1, none⟩ = some (.int .i64 ch) ∧ Below wc.heap.size wc w') (exact HS2.out _ (by repeat (first | assumption | exact Below.refl _ _ | refine below_drew ?_))) ((go_at_call 44; refine (roffset_txt _ _ _ mid _ HM.out (SX.out.below (below_drew (Below.refl _ _))) ch hm).mono ?_; rintro e w3 ⟨rfl, hb2⟩; have hb3 : Below wc.heap.size wc w3 := Below.trans (below_drew (Below.refl _ _)) hb2; clear hb2))
      rw [HZ.out]
      have B3 := Lib.hid (ext_trans B2.out hb3)
      have y0 : w3.cell? ⟨Y, 0, none⟩ = some (.int .i64 (p.1 : Int)) := (hb3.cell (p := ⟨Y, 0, none⟩) hxl).trans x0
      clear hb3
      go_wp2
      go_ret2
      exact ⟨by rw [HZ.out]; simp, B3.out⟩

theorem fit_stop {q s : List Int} {k : Nat} (h1 : (encs q).length ≤ k) (h2 : ∀ d s', s = d :: s' → k < (encs q).length + (enc d).length) : fit (q ++ s) k = q := by
  have := fit_app q s (k - (encs q).length)
  rw [show (encs q).length + (k - (encs q).length) = k by omega] at this
  rw [this]
  cases s with
  | nil => simp [fit]
  | cons d s' =>
    have := h2 d s' rfl
    simp only [fit]
    rw [if_neg (by omega), List.append_nil]
theorem dec_mid {cs q s' : List Int} {d : Int} {i k : Nat} {p : Nat × Nat} (hc : Chars cs) (h : Ln cs i p (q ++ d :: s')) (hk : k = p.1 + (encs q).length) : decAt (encs cs) (k : Int) = (d, ((enc d).length : Int), 0) := by
  have hcd : form d ≠ 0 := (h.chars hc).right.head
  have hde := List.length_pos_iff.2 (enc_ne hcd)
  obtain ⟨pL, pR, e1, e2⟩ := h.sp
  have hkk : k = (encs (pL ++ q)).length := by rw [hk, e2, encs_append, List.length_append]
  have hee : cs = (pL ++ q) ++ d :: (s' ++ pR) := by rw [e1]; simp
  have hlt : k < (encs cs).length := by
    have h1 : (encs cs).length = (encs (pL ++ q)).length + ((enc d).length + (encs (s' ++ pR)).length) := by rw [hee, encs_append (pL ++ q), encs_cons, List.length_append, List.length_append]
    omega
  rw [decAt_in hlt]
  have := dec_here (pre := pL ++ q) (post := s' ++ pR) (r := []) hcd
  rw [List.append_nil, ← hee, ← hkk] at this
  exact this

set_option maxRecDepth 100000 in
set_option maxHeartbeats 3200000 in
theorem rpos4_out (M X : Nat) (A : Option Addr) (c : Nat) (cs : List Int) (w : World) (h : Rm w M X A c cs) (a : Int) (ha : a < 0 ∨ ((encs cs).length : Int) < a) :
    Calls Try.prog 20 #[.pointer (some ⟨M, 0, none⟩), .int .i64 a] w fun e w' => e = .returned (.tuple #[P2 0 0, .int .i64 9]) ∧ Below w.heap.size w w' := by
  have hb0 := below_alloc w (.cells #[.int .i64 0, .int .i64 0] 24)
  have B := Lib.hid hb0
  have H := Lib.hid (h.ext hb0)
  have c0 := H.out.duo.at1
  have hlt := H.out.duo.lt
  obtain ⟨BB, vw, vp, hI⟩ := H.out.bi
  have HI := Lib.hid hI
  have few := H.out.few
  clear h hI hb0
  go_enter Try.func20, Try.ntmps20
  go_wp2_with fail
  refine (rfind_out (encs cs) a _ HI.out ha (by omega)).mono ?_
  rintro e w1 ⟨rfl, rfl⟩
  go_wp2_with fail
  refine bodyPost_ret (v := .tuple #[P2 0 0, .int .i64 9]) ?_ rfl ⟨rfl, B.out⟩
  simp only [results, P2]
  go_simp

set_option maxRecDepth 100000 in
set_option maxHeartbeats 6400000 in
theorem rpos4_in (M X : Nat) (A : Option Addr) (c : Nat) (cs : List Int) (w : World) (h : Rm w M X A c cs) (a i : Nat) {p : Nat × Nat} {mid : List Int} (hl : Ln cs i p mid) (hp : Parts (lns (encs cs)) a (i + 1)) (ha : a ≤ (encs cs).length) :
    Calls Try.prog 20 #[.pointer (some ⟨M, 0, none⟩), .int .i64 (a : Nat)] w fun e w' => e = .returned (.tuple #[P2 i (uns (fit mid (a - p.1))).length, .int .i64 0]) ∧ Below w.heap.size w w' := by
  have hb0 := below_alloc w (.cells #[.int .i64 0, .int .i64 0] 24)
  have B := Lib.hid hb0
  have H := Lib.hid (h.ext hb0)
  have CL := Lib.hid (Blk.new w 24 #[.int .i64 0, .int .i64 0])
  have c0 := H.out.duo.at1
  have hlt := H.out.duo.lt
  obtain ⟨BB, vw, vp, hI⟩ := H.out.bi
  have HI := Lib.hid hI
  have few := H.out.few
  have hpa : p.1 ≤ a := by have := hp.2.1 i p (by omega) hl.at_; omega
  obtain ⟨p', q0, hp', hq⟩ := ln_both (encs cs) hl.lt
  rw [hl.at_] at hp'; cases hp'
  have HP := Lib.hid hp
  have HQ := Lib.hid hq
  have HL := Lib.hid hl
  clear h hI hb0 hl hp hq
  go_enter Try.func20, Try.ntmps20
  go_wp2_with fail
  refine (rfind_ok (encs cs) a _ HI.out ha (by omega)).mono ?_
  rintro e w1 ⟨r, rfl, hpp, rfl⟩
  obtain rfl : i = r := rfnd_same ha hpp HP.out
  clear hpp
  go_wp2_with fail
  refine (rline_ok (encs cs) i p q0 _ HI.out HL.out.at_ HQ.out (by omega)).mono ?_
  rintro e w2 ⟨rfl, hb2⟩
  simp only [sp]
  have CL2 := Lib.hid (CL.out.ext hb2)
  have B2 := Lib.hid (ext_trans B.out hb2)
  have H2 := Lib.hid (H.out.ext hb2)
  clear c0 hlt hb2
  go_wp2_with fail
  obtain ⟨W0, hW0⟩ : ∃ W0, (w2.alloc (.cells #[.int .i64 (q0.1 : Int), .int .i64 (q0.2 : Int)] 44)).alloc (.cells #[.int .i64 (p.1 : Int), .int .i64 (p.2 : Int)] 44) = W0 := ⟨_, rfl⟩
  rw [hW0]
  have hb3 : Below w2.heap.size w2 W0 := by rw [← hW0]; exact ((Below.refl _ w2).alloc (Nat.le_refl _) _).alloc (by simp) _
  have hbx : Pair W0 (w2.heap.size + 1) 44 p := by rw [← hW0]; have := Pair.new (w2.alloc (.cells #[.int .i64 (q0.1 : Int), .int .i64 (q0.2 : Int)] 44)) 44 p; simpa using this
  have CL3 := Lib.hid (CL2.out.ext hb3)
  have B3 := Lib.hid (ext_trans B2.out hb3)
  have H3 := Lib.hid (H2.out.ext hb3)
  have x0 := hbx.at0
  have x1 := hbx.at1
  have hxl := hbx.lt
  clear hb3 hbx hW0
  have c2 := H3.out.duo.at0
  have hlt3 := H3.out.duo.lt
  have hle := HL.out.le
  have hfr := HL.out.from
  have hmx : c ≤ 9223372036854775807 := by have := H3.out.sl.max; unfold maxLen at this; exact this
  have hcp := H3.out.sl.le
  have HM := Lib.hid (HL.out.chars H3.out.ch)
  have HC := Lib.hid H3.out.ch
  have HLN := Lib.hid HL.out.len
  generalize w2.heap.size + 1 = Y at *
  go_loopw [11] (fun v wr => ∃ (k : Nat) (q s : List Int), v = .int .i64 (k : Nat) ∧ Hid (mid = q ++ s) ∧ Hid (k = p.1 + (encs q).length) ∧ k ≤ a ∧ k ≤ p.2 ∧ Hid (Below W0.heap.size W0 wr)) (fun v _ => p.2 - (intOf v).toNat)
  case atStart => exact ⟨p.1, [], mid, rfl, Lib.hid rfl, Lib.hid (by simp), hpa, hfr, Lib.hid (Below.refl _ _)⟩
  case round =>
    obtain ⟨k, q, s, rfl, hq, hk, hka, hkp, hbr⟩ := hrel
    have y1 : wr.cell? ⟨Y, 1, none⟩ = some (.int .i64 (p.2 : Int)) := (hbr.out.cell (p := ⟨Y, 1, none⟩) hxl).trans x1
    have m0 : wr.cell? ⟨M, 0, none⟩ = some (.slice A (encs cs).length c) := (hbr.out.cell (p := ⟨M, 0, none⟩) hlt3).trans c2
    have Hr := Lib.hid (H3.out.ext hbr.out)
    by_cases hlt : k < p.2
    · have i1 : (k : Int) < (p.2 : Int) := by omega
      have hsn : s ≠ [] := by
        rintro rfl
        have h1 := hk.out
        have h2 := HLN.out
        rw [hq.out, List.append_nil] at h2
        omega
      obtain ⟨d, s', rfl⟩ := List.exists_cons_of_ne_nil hsn
      have hlq : Ln cs i p (q ++ d :: s') := hq.out ▸ HL.out
      have HD := Lib.hid (dec_mid HC.out hlq hk.out)
      have hsz : k + (enc d).length ≤ p.2 := by
        have h1 := hk.out
        have h2 := HLN.out
        rw [hq.out, encs_append, encs_cons, List.length_append, List.length_append] at h2
        omega
      have hde : 0 < (enc d).length := List.length_pos_iff.2 (enc_ne (hlq.chars HC.out).right.head)
      clear hsn hlq
      go_wp2_with fail
      refine (Wf.rdecode_at _ _ _ _ _ _ Hr.out.sl (encs_byte cs) HD.out).mono ?_
      rintro e w4 ⟨rfl, hb4⟩
      have hbr4 := Lib.hid (ext_trans hbr.out hb4)
      have hnk := Lib.hid (show k + (enc d).length = p.1 + (encs (q ++ [d])).length by rw [hk.out, encs_snoc, List.length_append]; omega)
      have hnq := Lib.hid (show mid = (q ++ [d]) ++ s' by rw [hq.out]; simp)
      have hst : a < k + (enc d).length → Hid ((uns (fit mid (a - p.1))).length = (uns q).length) := fun hgt => Lib.hid (by
        have h1 := hk.out
        rw [hq.out, fit_stop (by omega) (by intro d1 s1 e1; cases e1; omega)])
      clear hb4 y1 m0
      generalize (enc d).length = sz at *
      by_cases hgt : a < k + sz
      · have i2 : (k : Int) + (sz : Int) > (a : Int) := by omega
        have HU := hst hgt
        clear hst hnk hnq HD
        have y0 : w4.cell? ⟨Y, 0, none⟩ = some (.int .i64 (p.1 : Int)) := (hbr4.out.cell (p := ⟨Y, 0, none⟩) hxl).trans x0
        have m0 : w4.cell? ⟨M, 0, none⟩ = some (.slice A (encs cs).length c) := (hbr4.out.cell (p := ⟨M, 0, none⟩) hlt3).trans c2
        have H4 := Lib.hid (H3.out.ext hbr4.out)
        have CL4 := Lib.hid (CL3.out.ext hbr4.out)
        have B4 := Lib.hid (ext_trans B3.out hbr4.out)
        have hY4 : Y < w4.heap.size := Nat.lt_of_lt_of_le hxl hbr4.out.size
        have hM4 : M < w4.heap.size := Nat.lt_of_lt_of_le hlt3 hbr4.out.size
        have hQ := Lib.hid (show Chars q by have := HM.out; rw [hq.out] at this; exact this.left)
        have htx : Hid (((encs cs).drop p.1).take (k - p.1) = encs q) := Lib.hid (by
          have h1 := hk.out
          have h2 := HLN.out
          have h5 : (encs mid).length = (encs q).length + (encs (d :: s')).length := by rw [hq.out, encs_append, List.length_append]
          rw [HL.out.part (by omega), show k - p.1 = (encs q).length by omega, hq.out, encs_append, List.take_left])
        have k1 : (0 : Int) ≤ (p.1 : Int) := by omega
        have k2 : (p.1 : Int) ≤ (k : Int) := by have := hk.out; omega
        have k3 : (k : Int) ≤ (c : Int) := by omega
        have k4 : p.1 ≤ k := by omega
        have HS := Lib.hid (show ∀ w', Below w4.heap.size w4 w' → (w'.cell? ⟨M, 0, none⟩ = some (.slice A (encs cs).length c) ∧ w'.cell? ⟨Y, 0, none⟩ = some (.int .i64 (p.1 : Int)) ∧ Below w4.heap.size w4 w') from fun w' hb => ⟨(hb.cell (p := ⟨M, 0, none⟩) hM4).trans m0, (hb.cell (p := ⟨Y, 0, none⟩) hY4).trans y0, hb⟩)
        have hs := H4.out.sl
        by_cases hce : c = p.1
        · exact absurd hce (by omega)
        · have sx := sl_cutM hs p.1 (k - p.1) (by omega)
          rw [htx.out] at sx
          have SX := Lib.hid sx
          clear sx hs
          go_wp2_with fail
          go_region_held3 (fun w' => w'.cell? ⟨M, 0, none⟩ = some (.slice A (encs cs).length c) ∧ w'.cell? ⟨Y, 0, none⟩ = some (.int .i64 (p.1 : Int)) ∧ Below w4.heap.size w4 w') (exact HS.out _ (by repeat (first | assumption | exact Below.refl _ _ | refine below_drew ?_))) ((go_at_call 49; refine (rof_txt _ _ _ q _ hQ.out (SX.out.below (below_drew (Below.refl _ _))) (by omega)).mono ?_; rintro e w5 ⟨rfl, hb2⟩; have hb3 : Below w4.heap.size w4 w5 := Below.trans (below_drew (Below.refl _ _)) hb2; clear hb2))
          obtain ⟨u, hu⟩ : ∃ u, (uns q).length = u := ⟨_, rfl⟩
          have HU2 := Lib.hid hu
          rw [hu]
          clear hu
          have d2 := CL4.out.ext hb3
          have z0 := d2.at_ 0 rfl
          have z1 := d2.at_ 1 rfl
          have f0 := d2.fz 0
          have f1 := d2.fz 1
          have hl5 := d2.lt
          have B5 := Lib.hid (ext_trans B4.out hb3)
          clear hb3 d2
          go_wp2_with fail
          refine bodyPost_ret (v := .tuple #[P2 i u, .int .i64 0]) ?_ rfl ⟨by rw [HU.out, HU2.out], (B5.out.setCell (by simp) _).setCell (by simp) _⟩
          simp only [results, P2]
          go_simp
      · have i2 : ¬ (k : Int) + (sz : Int) > (a : Int) := by omega
        go_wp2_with fail
        go_roundw
        case rel => exact ⟨k + sz, q ++ [d], s', by go_num, hnq, hnk, by omega, hsz, hbr4⟩
        case measure => simp [intOf]; omega
    · obtain rfl : k = p.2 := by omega
      have i1 : ¬ (p.2 : Int) < (p.2 : Int) := by omega
      have HU : Hid ((uns (fit mid (a - p.1))).length = (uns q).length) := Lib.hid (by
        have h1 := hk.out
        have h2 := HLN.out
        have h3 : s = [] := by
          by_cases hs : s = []
          · exact hs
          · have := encs_ne (show Chars s by have := HM.out; rw [hq.out] at this; exact this.right) hs
            rw [hq.out, encs_append, List.length_append] at h2
            omega
        rw [hq.out, h3, fit_stop (by omega) (by intro d1 s1 e1; cases e1)])
      have hbr4 := hbr
      clear y1 m0
      have y0 : wr.cell? ⟨Y, 0, none⟩ = some (.int .i64 (p.1 : Int)) := (hbr4.out.cell (p := ⟨Y, 0, none⟩) hxl).trans x0
      have y1 : wr.cell? ⟨Y, 1, none⟩ = some (.int .i64 (p.2 : Int)) := (hbr4.out.cell (p := ⟨Y, 1, none⟩) hxl).trans x1
      have m0 : wr.cell? ⟨M, 0, none⟩ = some (.slice A (encs cs).length c) := (hbr4.out.cell (p := ⟨M, 0, none⟩) hlt3).trans c2
      have H4 := Lib.hid (H3.out.ext hbr4.out)
      have CL4 := Lib.hid (CL3.out.ext hbr4.out)
      have B4 := Lib.hid (ext_trans B3.out hbr4.out)
      have hY4 : Y < wr.heap.size := Nat.lt_of_lt_of_le hxl hbr4.out.size
      have hM4 : M < wr.heap.size := Nat.lt_of_lt_of_le hlt3 hbr4.out.size
      have hQ := Lib.hid (show Chars q by have := HM.out; rw [hq.out] at this; exact this.left)
      have htx : Hid (((encs cs).drop p.1).take (p.2 - p.1) = encs q) := Lib.hid (by
        have h1 := hk.out
        have h2 := HLN.out
        have h5 : (encs mid).length = (encs q).length + (encs s).length := by rw [hq.out, encs_append, List.length_append]
        rw [HL.out.part (by omega), show p.2 - p.1 = (encs q).length by omega, hq.out, encs_append, List.take_left])
      have k1 : (0 : Int) ≤ (p.1 : Int) := by omega
      have k2 : (p.1 : Int) ≤ (p.2 : Int) := by have := hk.out; omega
      have k3 : (p.2 : Int) ≤ (c : Int) := by omega
      have k4 : p.1 ≤ p.2 := by omega
      have HS := Lib.hid (show ∀ w', Below wr.heap.size wr w' → (w'.cell? ⟨M, 0, none⟩ = some (.slice A (encs cs).length c) ∧ w'.cell? ⟨Y, 0, none⟩ = some (.int .i64 (p.1 : Int)) ∧ Below wr.heap.size wr w') from fun w' hb => ⟨(hb.cell (p := ⟨M, 0, none⟩) hM4).trans m0, (hb.cell (p := ⟨Y, 0, none⟩) hY4).trans y0, hb⟩)
      have hs := H4.out.sl
      by_cases hce : c = p.1
      · subst hce
        have sx := sl_cutE hs p.1 (p.2 - p.1) (by omega) rfl
        rw [htx.out] at sx
        have SX := Lib.hid sx
        clear sx hs
        go_wp2_with fail
        go_region_held3 (fun w' => w'.cell? ⟨M, 0, none⟩ = some (.slice A (encs cs).length p.1) ∧ w'.cell? ⟨Y, 0, none⟩ = some (.int .i64 (p.1 : Int)) ∧ Below wr.heap.size wr w') (exact HS.out _ (by repeat (first | assumption | exact Below.refl _ _ | refine below_drew ?_))) ((go_at_call 49; refine (rof_txt _ _ _ q _ hQ.out (SX.out.below (below_drew (Below.refl _ _))) (by omega)).mono ?_; rintro e w5 ⟨rfl, hb2⟩; have hb3 : Below wr.heap.size wr w5 := Below.trans (below_drew (Below.refl _ _)) hb2; clear hb2))
        obtain ⟨u, hu⟩ : ∃ u, (uns q).length = u := ⟨_, rfl⟩
        have HU2 := Lib.hid hu
        rw [hu]
        clear hu
        have d2 := CL4.out.ext hb3
        have z0 := d2.at_ 0 rfl
        have z1 := d2.at_ 1 rfl
        have f0 := d2.fz 0
        have f1 := d2.fz 1
        have hl5 := d2.lt
        have B5 := Lib.hid (ext_trans B4.out hb3)
        clear hb3 d2
        go_wp2_with fail
        refine bodyPost_ret (v := .tuple #[P2 i u, .int .i64 0]) ?_ rfl ⟨by rw [HU.out, HU2.out], (B5.out.setCell (by simp) _).setCell (by simp) _⟩
        simp only [results, P2]
        go_simp
      · have sx := sl_cutM hs p.1 (p.2 - p.1) (by omega)
        rw [htx.out] at sx
        have SX := Lib.hid sx
        clear sx hs
        go_wp2_with fail
        go_region_held3 (fun w' => w'.cell? ⟨M, 0, none⟩ = some (.slice A (encs cs).length c) ∧ w'.cell? ⟨Y, 0, none⟩ = some (.int .i64 (p.1 : Int)) ∧ Below wr.heap.size wr w') (exact HS.out _ (by repeat (first | assumption | exact Below.refl _ _ | refine below_drew ?_))) ((go_at_call 49; refine (rof_txt _ _ _ q _ hQ.out (SX.out.below (below_drew (Below.refl _ _))) (by omega)).mono ?_; rintro e w5 ⟨rfl, hb2⟩; have hb3 : Below wr.heap.size wr w5 := Below.trans (below_drew (Below.refl _ _)) hb2; clear hb2))
        obtain ⟨u, hu⟩ : ∃ u, (uns q).length = u := ⟨_, rfl⟩
        have HU2 := Lib.hid hu
        rw [hu]
        clear hu
        have d2 := CL4.out.ext hb3
        have z0 := d2.at_ 0 rfl
        have z1 := d2.at_ 1 rfl
        have f0 := d2.fz 0
        have f1 := d2.fz 1
        have hl5 := d2.lt
        have B5 := Lib.hid (ext_trans B4.out hb3)
        clear hb3 d2
        go_wp2_with fail
        refine bodyPost_ret (v := .tuple #[P2 i u, .int .i64 0]) ?_ rfl ⟨by rw [HU.out, HU2.out], (B5.out.setCell (by simp) _).setCell (by simp) _⟩
        simp only [results, P2]
        go_simp

theorem r4offset_at (M X : Nat) (A : Option Addr) (c : Nat) (cs : List Int) (w : World) (h : Rm w M X A c cs) (l ch : Int) (hm : ch ≤ 9223372036854775807) {n e : Int} (hz : ofz cs l ch = (n, e)) :
    Calls Try.prog 18 #[.pointer (some ⟨M, 0, none⟩), .agg #[.int .i64 l, .int .i64 ch]] w fun r w' => r = .returned (.tuple #[.int .i64 n, .int .i64 e]) ∧ Below w.heap.size w w' := by
  by_cases hneg : l < 0 ∨ ch < 0
  · rw [ofz_neg hneg] at hz; cases hz
    exact roffset4_neg M X A c cs w h l ch hneg
  · obtain ⟨l', rfl⟩ := Int.eq_ofNat_of_zero_le (show 0 ≤ l by omega)
    obtain ⟨ch', rfl⟩ := Int.eq_ofNat_of_zero_le (show 0 ≤ ch by omega)
    rw [ofz_nat] at hz; cases hz
    by_cases hl : l' < (lns (encs cs)).length
    · obtain ⟨p, hp⟩ : ∃ y, (lns (encs cs))[l']? = some y := ⟨_, List.getElem?_eq_getElem hl⟩
      obtain ⟨mid, hmid⟩ := ln_ex h.ch hp
      rw [hmid.off h.ch]
      exact roffset4_in M X A c cs w h l' ch' hmid (by omega)
    · rw [off_out (show (lns (encs cs)).length ≤ l' by omega)]
      exact roffset4_out M X A c cs w h l' ch' (by omega)
theorem r4pos_at (M X : Nat) (A : Option Addr) (c : Nat) (cs : List Int) (w : World) (h : Rm w M X A c cs) (a : Int) {x y e : Int} (hz : psz cs a = (x, y, e)) :
    Calls Try.prog 20 #[.pointer (some ⟨M, 0, none⟩), .int .i64 a] w fun r w' => r = .returned (.tuple #[.agg #[.int .i64 x, .int .i64 y], .int .i64 e]) ∧ Below w.heap.size w w' := by
  by_cases hout : a < 0 ∨ ((encs cs).length : Int) < a
  · rw [psz_out hout] at hz; cases hz
    exact rpos4_out M X A c cs w h a hout
  · obtain ⟨a', rfl⟩ := Int.eq_ofNat_of_zero_le (show 0 ≤ a by omega)
    rw [psz_nat (show a' ≤ (encs cs).length by omega)] at hz; cases hz
    obtain ⟨i, p, mid, hl, hp, _⟩ := line_ex h.ch a'
    rw [hl.plc h.ch hp]
    exact rpos4_in M X A c cs w h a' i hl hp (by omega)
set_option maxRecDepth 100000 in
set_option maxHeartbeats 3200000 in
theorem r4span_at (M X : Nat) (A : Option Addr) (c : Nat) (cs : List Int) (w : World) (h : Rm w M X A c cs) (l ch l2 ch2 : Int) (hm : ch ≤ 9223372036854775807) (hm2 : ch2 ≤ 9223372036854775807) {x y e : Int} (hz : spz cs l ch l2 ch2 = (x, y, e)) :
    Calls Try.prog 24 #[.pointer (some ⟨M, 0, none⟩), .agg #[.int .i64 l, .int .i64 ch, .int .i64 l2, .int .i64 ch2]] w fun r w' => r = .returned (.tuple #[.agg #[.int .i64 x, .int .i64 y], .int .i64 e]) ∧ Below w.heap.size w w' := by
  have hb0 := below_alloc w (.cells #[.int .i64 l, .int .i64 ch, .int .i64 l2, .int .i64 ch2] 42)
  have hb1 := below_alloc (w.alloc (.cells #[.int .i64 l, .int .i64 ch, .int .i64 l2, .int .i64 ch2] 42)) (.cells #[.int .i64 0, .int .i64 0] 44)
  have H := Lib.hid ((h.ext hb0).ext hb1)
  have B := Lib.hid (ext_trans hb0 hb1)
  have bp : Blk 42 ((w.alloc (.cells #[.int .i64 l, .int .i64 ch, .int .i64 l2, .int .i64 ch2] 42)).alloc (.cells #[.int .i64 0, .int .i64 0] 44)) w.heap.size #[.int .i64 l, .int .i64 ch, .int .i64 l2, .int .i64 ch2] := (Blk.new _ _ _).alloc _
  have br : Blk 44 ((w.alloc (.cells #[.int .i64 l, .int .i64 ch, .int .i64 l2, .int .i64 ch2] 42)).alloc (.cells #[.int .i64 0, .int .i64 0] 44)) (w.heap.size + 1) #[.int .i64 0, .int .i64 0] := by have := Blk.new (w.alloc (.cells #[.int .i64 l, .int .i64 ch, .int .i64 l2, .int .i64 ch2] 42)) 44 #[.int .i64 0, .int .i64 0]; simpa using this
  have BP := Lib.hid bp
  have BR := Lib.hid br
  obtain ⟨n1, e1, h1⟩ : ∃ n1 e1, ofz cs l ch = (n1, e1) := ⟨_, _, rfl⟩
  have HZ1 := Lib.hid h1
  obtain ⟨n2, e2, h2⟩ : ∃ n2 e2, ofz cs l2 ch2 = (n2, e2) := ⟨_, _, rfl⟩
  have HZ2 := Lib.hid h2
  clear h1 h2
  clear h hb0 hb1 bp br
  unfold spz at hz
  rw [HZ1.out, HZ2.out] at hz
  by_cases he1 : e1 = 0
  · subst he1
    by_cases he2 : e2 = 0
    · subst he2
      by_cases hlt : n2 < n1
      · have hz' := Lib.hid (show 0 = x ∧ 0 = y ∧ 2 = e by simp [hlt] at hz; exact hz)
        clear hz
        go_enter Try.func24, Try.ntmps24
        go_wp2_with fail
        refine (r4offset_at _ _ _ _ _ _ H.out l ch hm HZ1.out).mono ?_
        rintro r w1 ⟨rfl, hb⟩
        have B1 := Lib.hid (ext_trans B.out hb)
        have H1 := Lib.hid (H.out.ext hb)
        have BP1 := Lib.hid (BP.out.ext hb)
        have BR1 := Lib.hid (BR.out.ext hb)
        clear hb
        have q0 := BP1.out.at_ 0 rfl
        have q1 := BP1.out.at_ 1 rfl
        have q2 := BP1.out.at_ 2 rfl
        have q3 := BP1.out.at_ 3 rfl
        have hlt1 := BP1.out.lt
        go_wp2_with fail
        refine (r4offset_at _ _ _ _ _ _ H1.out l2 ch2 hm2 HZ2.out).mono ?_
        rintro r w2 ⟨rfl, hb⟩
        have B2 := Lib.hid (ext_trans B1.out hb)
        have BR2 := Lib.hid (BR1.out.ext hb)
        clear hb q0 q1 q2 q3
        have r0 := BR2.out.at_ 0 rfl
        have f0 := BR2.out.fz 0
        have r1 := BR2.out.at_ 1 rfl
        have f1 := BR2.out.fz 1
        have hlr := BR2.out.lt
        go_wp2_with fail
        obtain ⟨rfl, rfl, rfl⟩ := hz'.out
        refine bodyPost_ret (v := .tuple #[.agg #[.int .i64 0, .int .i64 0], .int .i64 2]) ?_ rfl ⟨rfl, ?_⟩
        · simp only [results]
          go_simp
        · exact ((B2.out).setCell (by simp) _).setCell (by simp) _
      · have hz' := Lib.hid (show n1 = x ∧ n2 = y ∧ 0 = e by simp [hlt] at hz; exact hz)
        clear hz
        go_enter Try.func24, Try.ntmps24
        go_wp2_with fail
        refine (r4offset_at _ _ _ _ _ _ H.out l ch hm HZ1.out).mono ?_
        rintro r w1 ⟨rfl, hb⟩
        have B1 := Lib.hid (ext_trans B.out hb)
        have H1 := Lib.hid (H.out.ext hb)
        have BP1 := Lib.hid (BP.out.ext hb)
        have BR1 := Lib.hid (BR.out.ext hb)
        clear hb
        have q0 := BP1.out.at_ 0 rfl
        have q1 := BP1.out.at_ 1 rfl
        have q2 := BP1.out.at_ 2 rfl
        have q3 := BP1.out.at_ 3 rfl
        have hlt1 := BP1.out.lt
        go_wp2_with fail
        refine (r4offset_at _ _ _ _ _ _ H1.out l2 ch2 hm2 HZ2.out).mono ?_
        rintro r w2 ⟨rfl, hb⟩
        have B2 := Lib.hid (ext_trans B1.out hb)
        have BR2 := Lib.hid (BR1.out.ext hb)
        clear hb q0 q1 q2 q3
        have r0 := BR2.out.at_ 0 rfl
        have f0 := BR2.out.fz 0
        have r1 := BR2.out.at_ 1 rfl
        have f1 := BR2.out.fz 1
        have hlr := BR2.out.lt
        go_wp2_with fail
        obtain ⟨rfl, rfl, rfl⟩ := hz'.out
        refine bodyPost_ret (v := .tuple #[.agg #[.int .i64 n1, .int .i64 n2], .int .i64 0]) ?_ rfl ⟨rfl, ?_⟩
        · simp only [results]
          go_simp
        · exact ((B2.out).setCell (by simp) _).setCell (by simp) _
    · have hz' := Lib.hid (show 0 = x ∧ 0 = y ∧ e2 = e by simp [he2] at hz; exact hz)
      have d2 : (e2 != 0) = true := by simpa using he2
      clear hz
      go_enter Try.func24, Try.ntmps24
      go_wp2_with fail
      refine (r4offset_at _ _ _ _ _ _ H.out l ch hm HZ1.out).mono ?_
      rintro r w1 ⟨rfl, hb⟩
      have B1 := Lib.hid (ext_trans B.out hb)
      have H1 := Lib.hid (H.out.ext hb)
      have BP1 := Lib.hid (BP.out.ext hb)
      have BR1 := Lib.hid (BR.out.ext hb)
      clear hb
      have q0 := BP1.out.at_ 0 rfl
      have q1 := BP1.out.at_ 1 rfl
      have q2 := BP1.out.at_ 2 rfl
      have q3 := BP1.out.at_ 3 rfl
      have hlt1 := BP1.out.lt
      go_wp2_with fail
      refine (r4offset_at _ _ _ _ _ _ H1.out l2 ch2 hm2 HZ2.out).mono ?_
      rintro r w2 ⟨rfl, hb⟩
      have B2 := Lib.hid (ext_trans B1.out hb)
      have BR2 := Lib.hid (BR1.out.ext hb)
      clear hb q0 q1 q2 q3
      have r0 := BR2.out.at_ 0 rfl
      have f0 := BR2.out.fz 0
      have r1 := BR2.out.at_ 1 rfl
      have f1 := BR2.out.fz 1
      have hlr := BR2.out.lt
      go_wp2_with fail
      obtain ⟨rfl, rfl, rfl⟩ := hz'.out
      refine bodyPost_ret (v := .tuple #[.agg #[.int .i64 0, .int .i64 0], .int .i64 e2]) ?_ rfl ⟨rfl, ?_⟩
      · simp only [results]
        go_simp
      · exact ((B2.out).setCell (by simp) _).setCell (by simp) _
  · have hz' := Lib.hid (show 0 = x ∧ 0 = y ∧ e1 = e by simp [he1] at hz; exact hz)
    have d1 : (e1 != 0) = true := by simpa using he1
    clear hz
    go_enter Try.func24, Try.ntmps24
    go_wp2_with fail
    refine (r4offset_at _ _ _ _ _ _ H.out l ch hm HZ1.out).mono ?_
    rintro r w1 ⟨rfl, hb⟩
    have B1 := Lib.hid (ext_trans B.out hb)
    have H1 := Lib.hid (H.out.ext hb)
    have BP1 := Lib.hid (BP.out.ext hb)
    have BR1 := Lib.hid (BR.out.ext hb)
    clear hb
    have q0 := BP1.out.at_ 0 rfl
    have q1 := BP1.out.at_ 1 rfl
    have q2 := BP1.out.at_ 2 rfl
    have q3 := BP1.out.at_ 3 rfl
    have r0 := BR1.out.at_ 0 rfl
    have f0 := BR1.out.fz 0
    have r1 := BR1.out.at_ 1 rfl
    have f1 := BR1.out.fz 1
    have hlr := BR1.out.lt
    go_wp2_with fail
    obtain ⟨rfl, rfl, rfl⟩ := hz'.out
    refine bodyPost_ret (v := .tuple #[.agg #[.int .i64 0, .int .i64 0], .int .i64 e1]) ?_ rfl ⟨rfl, ?_⟩
    · simp only [results]
      go_simp
    · exact ((B1.out).setCell (by simp) _).setCell (by simp) _

set_option maxRecDepth 100000 in
set_option maxHeartbeats 3200000 in
theorem r4range_at (M X : Nat) (A : Option Addr) (c : Nat) (cs : List Int) (w : World) (h : Rm w M X A c cs) (a b : Int) {x y x' y' e : Int} (hz : rgz cs a b = ((x, y), (x', y'), e)) :
    Calls Try.prog 26 #[.pointer (some ⟨M, 0, none⟩), .agg #[.int .i64 a, .int .i64 b]] w fun r w' => r = .returned (.tuple #[.agg #[.int .i64 x, .int .i64 y, .int .i64 x', .int .i64 y'], .int .i64 e]) ∧ Below w.heap.size w w' := by
  have hb0 := below_alloc w (.cells #[.int .i64 a, .int .i64 b] 44)
  have hb1 := below_alloc (w.alloc (.cells #[.int .i64 a, .int .i64 b] 44)) (.cells #[.int .i64 0, .int .i64 0, .int .i64 0, .int .i64 0] 42)
  have H := Lib.hid ((h.ext hb0).ext hb1)
  have B := Lib.hid (ext_trans hb0 hb1)
  have bp : Blk 44 ((w.alloc (.cells #[.int .i64 a, .int .i64 b] 44)).alloc (.cells #[.int .i64 0, .int .i64 0, .int .i64 0, .int .i64 0] 42)) w.heap.size #[.int .i64 a, .int .i64 b] := (Blk.new _ _ _).alloc _
  have br : Blk 42 ((w.alloc (.cells #[.int .i64 a, .int .i64 b] 44)).alloc (.cells #[.int .i64 0, .int .i64 0, .int .i64 0, .int .i64 0] 42)) (w.heap.size + 1) #[.int .i64 0, .int .i64 0, .int .i64 0, .int .i64 0] := by have := Blk.new (w.alloc (.cells #[.int .i64 a, .int .i64 b] 44)) 42 #[.int .i64 0, .int .i64 0, .int .i64 0, .int .i64 0]; simpa using this
  have BP := Lib.hid bp
  have BR := Lib.hid br
  obtain ⟨x1, y1, e1, h1⟩ : ∃ x1 y1 e1, psz cs a = (x1, y1, e1) := ⟨_, _, _, rfl⟩
  have HZ1 := Lib.hid h1
  obtain ⟨x2, y2, e2, h2⟩ : ∃ x2 y2 e2, psz cs b = (x2, y2, e2) := ⟨_, _, _, rfl⟩
  have HZ2 := Lib.hid h2
  clear h1 h2
  clear h hb0 hb1 bp br
  unfold rgz at hz
  rw [HZ1.out, HZ2.out] at hz
  by_cases he1 : e1 = 0
  · subst he1
    by_cases he2 : e2 = 0
    · subst he2
      by_cases hlt : b < a
      · have hz' := Lib.hid (show (0 = x ∧ 0 = y) ∧ (0 = x' ∧ 0 = y') ∧ 2 = e by simp [hlt] at hz; exact hz)
        clear hz
        go_enter Try.func26, Try.ntmps26
        go_wp2_with fail
        refine (r4pos_at _ _ _ _ _ _ H.out a HZ1.out).mono ?_
        rintro r w1 ⟨rfl, hb⟩
        replace hb := ext_trans hb (below_alloc w1 (.cells #[.int .i64 x1, .int .i64 y1] 24))
        have BF := Lib.hid (Blk.new w1 24 #[.int .i64 x1, .int .i64 y1])
        have B1 := Lib.hid (ext_trans B.out hb)
        have H1 := Lib.hid (H.out.ext hb)
        have BP1 := Lib.hid (BP.out.ext hb)
        have BR1 := Lib.hid (BR.out.ext hb)
        clear hb
        have q0 := BP1.out.at_ 0 rfl
        have q1 := BP1.out.at_ 1 rfl
        have hlt1 := BP1.out.lt
        go_wp2_with fail
        refine (r4pos_at _ _ _ _ _ _ H1.out b HZ2.out).mono ?_
        rintro r w2 ⟨rfl, hb⟩
        replace hb := ext_trans hb (below_alloc w2 (.cells #[.int .i64 x2, .int .i64 y2] 24))
        have B2 := Lib.hid (ext_trans B1.out hb)
        have BR2 := Lib.hid (BR1.out.ext hb)
        have BP2 := Lib.hid (BP1.out.ext hb)
        have BF2 := Lib.hid (BF.out.ext hb)
        have z0 := BF2.out.at_ 0 rfl
        have z1 := BF2.out.at_ 1 rfl
        have hltz := BF2.out.lt
        clear hb q0 q1
        have q0 := BP2.out.at_ 0 rfl
        have q1 := BP2.out.at_ 1 rfl
        have hlt2 := BP2.out.lt
        have r0 := BR2.out.at_ 0 rfl
        have f0 := BR2.out.fz 0
        have r1 := BR2.out.at_ 1 rfl
        have f1 := BR2.out.fz 1
        have r2 := BR2.out.at_ 2 rfl
        have f2 := BR2.out.fz 2
        have r3 := BR2.out.at_ 3 rfl
        have f3 := BR2.out.fz 3
        have hlr := BR2.out.lt
        go_wp2_with fail
        obtain ⟨⟨rfl, rfl⟩, ⟨rfl, rfl⟩, rfl⟩ := hz'.out
        refine bodyPost_ret (v := .tuple #[.agg #[.int .i64 0, .int .i64 0, .int .i64 0, .int .i64 0], .int .i64 2]) ?_ rfl ⟨rfl, ?_⟩
        · simp only [results]
          go_simp
        · exact ((((B2.out).setCell (by simp) _).setCell (by simp) _).setCell (by simp) _).setCell (by simp) _
      · have hz' := Lib.hid (show (x1 = x ∧ y1 = y) ∧ (x2 = x' ∧ y2 = y') ∧ 0 = e by simp [hlt] at hz; exact hz)
        clear hz
        go_enter Try.func26, Try.ntmps26
        go_wp2_with fail
        refine (r4pos_at _ _ _ _ _ _ H.out a HZ1.out).mono ?_
        rintro r w1 ⟨rfl, hb⟩
        replace hb := ext_trans hb (below_alloc w1 (.cells #[.int .i64 x1, .int .i64 y1] 24))
        have BF := Lib.hid (Blk.new w1 24 #[.int .i64 x1, .int .i64 y1])
        have B1 := Lib.hid (ext_trans B.out hb)
        have H1 := Lib.hid (H.out.ext hb)
        have BP1 := Lib.hid (BP.out.ext hb)
        have BR1 := Lib.hid (BR.out.ext hb)
        clear hb
        have q0 := BP1.out.at_ 0 rfl
        have q1 := BP1.out.at_ 1 rfl
        have hlt1 := BP1.out.lt
        go_wp2_with fail
        refine (r4pos_at _ _ _ _ _ _ H1.out b HZ2.out).mono ?_
        rintro r w2 ⟨rfl, hb⟩
        replace hb := ext_trans hb (below_alloc w2 (.cells #[.int .i64 x2, .int .i64 y2] 24))
        have B2 := Lib.hid (ext_trans B1.out hb)
        have BR2 := Lib.hid (BR1.out.ext hb)
        have BP2 := Lib.hid (BP1.out.ext hb)
        have BF2 := Lib.hid (BF.out.ext hb)
        have z0 := BF2.out.at_ 0 rfl
        have z1 := BF2.out.at_ 1 rfl
        have hltz := BF2.out.lt
        clear hb q0 q1
        have q0 := BP2.out.at_ 0 rfl
        have q1 := BP2.out.at_ 1 rfl
        have hlt2 := BP2.out.lt
        have r0 := BR2.out.at_ 0 rfl
        have f0 := BR2.out.fz 0
        have r1 := BR2.out.at_ 1 rfl
        have f1 := BR2.out.fz 1
        have r2 := BR2.out.at_ 2 rfl
        have f2 := BR2.out.fz 2
        have r3 := BR2.out.at_ 3 rfl
        have f3 := BR2.out.fz 3
        have hlr := BR2.out.lt
        go_wp2_with fail
        obtain ⟨⟨rfl, rfl⟩, ⟨rfl, rfl⟩, rfl⟩ := hz'.out
        refine bodyPost_ret (v := .tuple #[.agg #[.int .i64 x1, .int .i64 y1, .int .i64 x2, .int .i64 y2], .int .i64 0]) ?_ rfl ⟨rfl, ?_⟩
        · simp only [results]
          go_simp
        · exact ((((B2.out).setCell (by simp) _).setCell (by simp) _).setCell (by simp) _).setCell (by simp) _
    · have hz' := Lib.hid (show (0 = x ∧ 0 = y) ∧ (0 = x' ∧ 0 = y') ∧ e2 = e by simp [he2] at hz; exact hz)
      have d2 : (e2 != 0) = true := by simpa using he2
      clear hz
      go_enter Try.func26, Try.ntmps26
      go_wp2_with fail
      refine (r4pos_at _ _ _ _ _ _ H.out a HZ1.out).mono ?_
      rintro r w1 ⟨rfl, hb⟩
      replace hb := ext_trans hb (below_alloc w1 (.cells #[.int .i64 x1, .int .i64 y1] 24))
      have BF := Lib.hid (Blk.new w1 24 #[.int .i64 x1, .int .i64 y1])
      have B1 := Lib.hid (ext_trans B.out hb)
      have H1 := Lib.hid (H.out.ext hb)
      have BP1 := Lib.hid (BP.out.ext hb)
      have BR1 := Lib.hid (BR.out.ext hb)
      clear hb
      have q0 := BP1.out.at_ 0 rfl
      have q1 := BP1.out.at_ 1 rfl
      have hlt1 := BP1.out.lt
      go_wp2_with fail
      refine (r4pos_at _ _ _ _ _ _ H1.out b HZ2.out).mono ?_
      rintro r w2 ⟨rfl, hb⟩
      replace hb := ext_trans hb (below_alloc w2 (.cells #[.int .i64 x2, .int .i64 y2] 24))
      have B2 := Lib.hid (ext_trans B1.out hb)
      have BR2 := Lib.hid (BR1.out.ext hb)
      have BP2 := Lib.hid (BP1.out.ext hb)
      have BF2 := Lib.hid (BF.out.ext hb)
      have z0 := BF2.out.at_ 0 rfl
      have z1 := BF2.out.at_ 1 rfl
      have hltz := BF2.out.lt
      clear hb q0 q1
      have q0 := BP2.out.at_ 0 rfl
      have q1 := BP2.out.at_ 1 rfl
      have hlt2 := BP2.out.lt
      have r0 := BR2.out.at_ 0 rfl
      have f0 := BR2.out.fz 0
      have r1 := BR2.out.at_ 1 rfl
      have f1 := BR2.out.fz 1
      have r2 := BR2.out.at_ 2 rfl
      have f2 := BR2.out.fz 2
      have r3 := BR2.out.at_ 3 rfl
      have f3 := BR2.out.fz 3
      have hlr := BR2.out.lt
      go_wp2_with fail
      obtain ⟨⟨rfl, rfl⟩, ⟨rfl, rfl⟩, rfl⟩ := hz'.out
      refine bodyPost_ret (v := .tuple #[.agg #[.int .i64 0, .int .i64 0, .int .i64 0, .int .i64 0], .int .i64 e2]) ?_ rfl ⟨rfl, ?_⟩
      · simp only [results]
        go_simp
      · exact ((((B2.out).setCell (by simp) _).setCell (by simp) _).setCell (by simp) _).setCell (by simp) _
  · have hz' := Lib.hid (show (0 = x ∧ 0 = y) ∧ (0 = x' ∧ 0 = y') ∧ e1 = e by simp [he1] at hz; exact hz)
    have d1 : (e1 != 0) = true := by simpa using he1
    clear hz
    go_enter Try.func26, Try.ntmps26
    go_wp2_with fail
    refine (r4pos_at _ _ _ _ _ _ H.out a HZ1.out).mono ?_
    rintro r w1 ⟨rfl, hb⟩
    replace hb := ext_trans hb (below_alloc w1 (.cells #[.int .i64 x1, .int .i64 y1] 24))
    have BF := Lib.hid (Blk.new w1 24 #[.int .i64 x1, .int .i64 y1])
    have B1 := Lib.hid (ext_trans B.out hb)
    have H1 := Lib.hid (H.out.ext hb)
    have BP1 := Lib.hid (BP.out.ext hb)
    have BR1 := Lib.hid (BR.out.ext hb)
    clear hb
    have q0 := BP1.out.at_ 0 rfl
    have q1 := BP1.out.at_ 1 rfl
    have r0 := BR1.out.at_ 0 rfl
    have f0 := BR1.out.fz 0
    have r1 := BR1.out.at_ 1 rfl
    have f1 := BR1.out.fz 1
    have r2 := BR1.out.at_ 2 rfl
    have f2 := BR1.out.fz 2
    have r3 := BR1.out.at_ 3 rfl
    have f3 := BR1.out.fz 3
    have hlr := BR1.out.lt
    go_wp2_with fail
    obtain ⟨⟨rfl, rfl⟩, ⟨rfl, rfl⟩, rfl⟩ := hz'.out
    refine bodyPost_ret (v := .tuple #[.agg #[.int .i64 0, .int .i64 0, .int .i64 0, .int .i64 0], .int .i64 e1]) ?_ rfl ⟨rfl, ?_⟩
    · simp only [results]
      go_simp
    · exact ((((B1.out).setCell (by simp) _).setCell (by simp) _).setCell (by simp) _).setCell (by simp) _
set_option maxRecDepth 100000 in
set_option maxHeartbeats 1600000 in
theorem r4end_ok (M X : Nat) (A : Option Addr) (c : Nat) (cs : List Int) (w : World) (h : Rm w M X A c cs) {x y : Nat} (hz : plc cs (encs cs).length = (x, y)) :
    Calls Try.prog 22 #[.pointer (some ⟨M, 0, none⟩)] w fun r w' => r = .returned (.agg #[.int .i64 (x : Nat), .int .i64 (y : Nat)]) ∧ Below w.heap.size w w' := by
  have hb0 := below_alloc w (.cells #[.int .i64 0, .int .i64 0] 24)
  have B := Lib.hid hb0
  have H := Lib.hid (h.ext hb0)
  have CL := Lib.hid (Blk.new w 24 #[.int .i64 0, .int .i64 0])
  have c1 := H.out.duo.at0
  have hlt := H.out.duo.lt
  have HZ := Lib.hid hz
  clear h hb0 hz
  go_enter Try.func22, Try.ntmps22
  go_wp2_with fail
  refine (r4pos_at _ _ _ _ _ _ H.out ((encs cs).length : Nat) (by rw [psz_nat (Nat.le_refl _), HZ.out])).mono ?_
  rintro e w1 ⟨rfl, hb1⟩
  replace hb1 := ext_trans hb1 (below_alloc w1 (.cells #[.int .i64 (x : Nat), .int .i64 (y : Nat)] 24))
  have d2 := CL.out.ext hb1
  have c0 := d2.at_ 0 rfl
  have c1 := d2.at_ 1 rfl
  have f0 := d2.fz 0
  have f1 := d2.fz 1
  have hlt2 := d2.lt
  have B2 := Lib.hid (ext_trans B.out hb1)
  clear hb1 d2
  go_wp2_with fail
  refine bodyPost_ret (v := .agg #[.int .i64 (x : Nat), .int .i64 (y : Nat)]) ?_ rfl ⟨rfl, (B2.out.setCell (by simp) _).setCell (by simp) _⟩
  simp only [results]
  go_simp

end Pc
end Go.Proofs.Ytfpgnnjkojpmdaa
