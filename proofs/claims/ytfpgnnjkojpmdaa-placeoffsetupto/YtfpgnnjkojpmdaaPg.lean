/-
  The document's answers of layer 4 (colophonref04): New, Offset.
-/
import Derived.Test.YtfpgnnjkojpmdaaPf
import Derived.Test.YtfpgnnjkojpmdaaUs
import Derived.Test.YtfpgnnjkojpmdaaRd
import Derived.Test.YtfpgnnjkojpmdaaWq
namespace Go.Proofs.Ytfpgnnjkojpmdaa
set_option linter.unusedVariables false
set_option linter.unusedSimpArgs false
open Go.RowKit Go.Shelf
namespace Pc
open Utf Wd Wr We Wi Lm Lc Uw

/-- R is the document's map of the text that the characters cs are -/
structure Rm (w : World) (R X : Nat) (A : Option Addr) (c : Nat) (cs : List Int) : Prop where
  duo : Duo 79 w R (.slice A (encs cs).length c) (.pointer (some ⟨X, 0, none⟩))
  bi : ∃ B vw vp, Bi w B X vw vp (whs (encs cs)) (lns (encs cs))
  sl : Sl .u8 w A (encs cs).length c (encs cs)
  ch : Chars cs
  few : (encs cs).length ≤ 70368744177664
theorem Rm.ext {w w' : World} {R X : Nat} {A : Option Addr} {c : Nat} {cs : List Int} (h : Rm w R X A c cs) (hb : Below w.heap.size w w') : Rm w' R X A c cs := by
  obtain ⟨B, vw, vp, hbi⟩ := h.bi
  exact ⟨h.duo.ext hb, ⟨B, vw, vp, hbi.ext hb⟩, h.sl.below hb, h.ch, h.few⟩

set_option maxHeartbeats 800000 in
theorem rnew4_bad (A : Option Addr) (n c : Nat) (b : List Int) (w : World) (s : Sl .u8 w A n c b) (hb : IsB b) {i m : Nat} {e : Int} (h : chk b = (i, m, e)) (he : e ≠ 0) :
    Calls Try.prog 14 #[.slice A n c] w fun r w' => r = .returned (.tuple #[.pointer none, .int .i64 e]) ∧ Below w.heap.size w w' := by
  have S := Lib.hid s
  have K := Lib.hid h
  have d : (e != 0) = true := by simpa using he
  clear s h
  go_enter Try.func14, Try.ntmps14
  go_wp2_with fail
  refine (rnew_bad _ _ _ _ _ S.out hb K.out he).mono ?_
  rintro r w1 ⟨rfl, hb1⟩
  have B := Lib.hid hb1
  clear hb1
  go_wp2
  go_ret2
  exact ⟨rfl, B.out⟩

set_option maxRecDepth 100000 in
set_option maxHeartbeats 1600000 in
theorem rnew4_ok (A : Option Addr) (n c : Nat) (cs : List Int) (w : World) (hc : Chars cs) (s : Sl .u8 w A n c (encs cs)) (hn : (n + 1) * 16 ≤ 140737488355328) :
    Calls Try.prog 14 #[.slice A n c] w fun r w' => ∃ R X A' c', r = .returned (.tuple #[.pointer (some ⟨R, 0, none⟩), .int .i64 0]) ∧ Rm w' R X A' c' cs ∧ Below w.heap.size w w' := by
  have HL := Lib.hid s.len
  have S := Lib.hid s
  have K := Lib.hid (chk_encs hc)
  have HC := Lib.hid hc
  clear s hc
  go_enter Try.func14, Try.ntmps14
  go_wp2_with fail
  refine (rnew_ok _ _ _ _ _ S.out (encs_byte cs) K.out hn).mono ?_
  rintro r w1 ⟨X, vw, vp, rfl, hI, hb1⟩
  have I1 := Lib.hid hI
  have B1 := Lib.hid hb1
  have S1 := Lib.hid (S.out.below hb1)
  clear hI hb1
  go_wp2_with fail
  refine (copy_any _ _ _ _ _ S1.out (by omega)).mono ?_
  rintro r w2 ⟨v, rfl, ho, hb⟩
  obtain ⟨A', c', rfl, s2, _⟩ := ho.sl
  have hba := ext_trans hb (below_alloc w2 (.cells #[.slice A' (encs cs).length c', .pointer (some ⟨X, 0, none⟩)] 79))
  have R := Lib.hid (ext_trans B1.out hba)
  have MM := Lib.hid (show Rm (w2.alloc (.cells #[.slice A' (encs cs).length c', .pointer (some ⟨X, 0, none⟩)] 79)) w2.heap.size X A' c' cs from
    ⟨Duo.new _ _ _ _, ⟨_, _, _, I1.out.ext hba⟩, s2.alloc _, HC.out, by have := HL.out; omega⟩)
  clear ho hb s2 hba
  go_wp2
  go_ret2
  exact ⟨_, _, _, _, rfl, MM.out, R.out⟩

set_option maxRecDepth 100000 in
set_option maxHeartbeats 1600000 in
theorem roffset4_neg (M X : Nat) (A : Option Addr) (c : Nat) (cs : List Int) (w : World) (h : Rm w M X A c cs) (l ch : Int) (hl : l < 0 ∨ ch < 0) :
    Calls Try.prog 18 #[.pointer (some ⟨M, 0, none⟩), P2 l ch] w fun e w' => e = .returned (.tuple #[.int .i64 0, .int .i64 9]) ∧ Below w.heap.size w w' := by
  have B := Lib.hid (below_alloc w (.cells #[.int .i64 l, .int .i64 ch] 24))
  have H := Lib.hid (h.ext (below_alloc w (.cells #[.int .i64 l, .int .i64 ch] 24)))
  clear h
  unfold P2
  by_cases h0 : l < 0
  · go_enter Try.func18, Try.ntmps18
    go_wp2
    go_ret2
    exact ⟨rfl, B.out⟩
  · have h1 : ch < 0 := by omega
    go_enter Try.func18, Try.ntmps18
    go_wp2
    go_ret2
    exact ⟨rfl, B.out⟩

set_option maxRecDepth 100000 in
set_option maxHeartbeats 1600000 in
theorem roffset4_out (M X : Nat) (A : Option Addr) (c : Nat) (cs : List Int) (w : World) (h : Rm w M X A c cs) (l ch : Nat) (hl : (lns (encs cs)).length ≤ l) :
    Calls Try.prog 18 #[.pointer (some ⟨M, 0, none⟩), P2 l ch] w fun e w' => e = .returned (.tuple #[.int .i64 (encs cs).length, .int .i64 0]) ∧ Below w.heap.size w w' := by
  have B := Lib.hid (below_alloc w (.cells #[.int .i64 l, .int .i64 ch] 24))
  have H := Lib.hid (h.ext (below_alloc w (.cells #[.int .i64 l, .int .i64 ch] 24)))
  have cl : (w.alloc (.cells #[.int .i64 l, .int .i64 ch] 24)).cell? ⟨w.heap.size, 0, none⟩ = some (.int .i64 l) := by simp
  have cc : (w.alloc (.cells #[.int .i64 l, .int .i64 ch] 24)).cell? ⟨w.heap.size, 1, none⟩ = some (.int .i64 ch) := by simp
  have c1 := H.out.duo.at0
  have c0 := H.out.duo.at1
  have hlt := H.out.duo.lt
  have i0 : ¬ (l : Int) < 0 := by omega
  have i1 : ¬ (ch : Int) < 0 := by omega
  have i2 : (l : Int) ≥ ((lns (encs cs)).length : Int) := by omega
  obtain ⟨BB, vw, vp, hI⟩ := H.out.bi
  have HI := Lib.hid hI
  clear h hI
  unfold P2
  go_enter Try.func18, Try.ntmps18
  go_wp2_with fail
  generalize w.alloc (.cells #[.int .i64 l, .int .i64 ch] 24) = W0 at *
  have hcnt : Hid (∀ q, Calls Try.prog 42 #[.pointer (some ⟨X, 0, none⟩)] (W0.drewN q) fun e w' => e = .returned (.int .i64 ((lns (encs cs)).length : Nat)) ∧ w' = W0.drewN q) := Lib.hid (fun q => (rcount_txt (encs cs) (W0.drewN q) (show Bi (W0.drewN q) BB X vw vp _ _ from HI.out.ext (below_drewN (Below.refl _ _) q))).mono (fun e w' h => ⟨h.1, h.2.symm⟩))
  go_quiet ((go_at_call 42; exact Calls.quiet_of_same (hcnt.out _)))
  go_wp2
  go_ret2
  exact ⟨rfl, below_drewN B.out _⟩

set_option maxRecDepth 100000 in
set_option maxHeartbeats 6400000 in
theorem roffset4_in (M X : Nat) (A : Option Addr) (c : Nat) (cs : List Int) (w : World) (h : Rm w M X A c cs) (l ch : Nat) {p : Nat × Nat} {mid : List Int} (hl : Ln cs l p mid) (hm : ch ≤ 9223372036854775807) :
    Calls Try.prog 18 #[.pointer (some ⟨M, 0, none⟩), P2 l ch] w fun e w' => e = .returned (.tuple #[.int .i64 ((p.1 + (Utf.ends mid ch).1 : Nat) : Int), .int .i64 0]) ∧ Below w.heap.size w w' := by
  have B := Lib.hid (below_alloc w (.cells #[.int .i64 l, .int .i64 ch] 24))
  have H := Lib.hid (h.ext (below_alloc w (.cells #[.int .i64 l, .int .i64 ch] 24)))
  have cl : (w.alloc (.cells #[.int .i64 l, .int .i64 ch] 24)).cell? ⟨w.heap.size, 0, none⟩ = some (.int .i64 l) := by simp
  have cc : (w.alloc (.cells #[.int .i64 l, .int .i64 ch] 24)).cell? ⟨w.heap.size, 1, none⟩ = some (.int .i64 ch) := by simp
  have hsz : w.heap.size < (w.alloc (.cells #[.int .i64 l, .int .i64 ch] 24)).heap.size := by simp
  have c1 := H.out.duo.at0
  have c0 := H.out.duo.at1
  have hlt := H.out.duo.lt
  have i0 : ¬ (l : Int) < 0 := by omega
  have i1 : ¬ (ch : Int) < 0 := by omega
  have hll := hl.lt
  have hfew0 := H.out.few
  have i2 : ¬ (l : Int) ≥ ((lns (encs cs)).length : Int) := by omega
  obtain ⟨BB, vw, vp, hI⟩ := H.out.bi
  have HI := Lib.hid hI
  obtain ⟨p', q, hp', hq⟩ := ln_both (encs cs) hll
  rw [hl.at_] at hp'; cases hp'
  have HQ := Lib.hid hq
  have HL := Lib.hid hl
  clear h hI hl hq
  unfold P2
  go_enter Try.func18, Try.ntmps18
  go_wp2_with fail
  generalize w.alloc (.cells #[.int .i64 l, .int .i64 ch] 24) = W0 at *
  have hcnt : Hid (∀ q, Calls Try.prog 42 #[.pointer (some ⟨X, 0, none⟩)] (W0.drewN q) fun e w' => e = .returned (.int .i64 ((lns (encs cs)).length : Nat)) ∧ w' = W0.drewN q) := Lib.hid (fun q => (rcount_txt (encs cs) (W0.drewN q) (show Bi (W0.drewN q) BB X vw vp _ _ from HI.out.ext (below_drewN (Below.refl _ _) q))).mono (fun e w' h => ⟨h.1, h.2.symm⟩))
  go_quiet ((go_at_call 42; exact Calls.quiet_of_same (hcnt.out _)))
  clear hcnt
  have B' := Lib.hid (below_drewN B.out nq)
  have H' := Lib.hid (show Rm (W0.drewN nq) M X A c cs from H.out.ext (below_drewN (Below.refl _ _) nq))
  have HI' := Lib.hid (show Bi (W0.drewN nq) BB X vw vp (whs (encs cs)) (lns (encs cs)) from HI.out.ext (below_drewN (Below.refl _ _) nq))
  have cl' : (W0.drewN nq).cell? ⟨w.heap.size, 0, none⟩ = some (.int .i64 l) := cl
  have cc' : (W0.drewN nq).cell? ⟨w.heap.size, 1, none⟩ = some (.int .i64 ch) := cc
  have c0' : (W0.drewN nq).cell? ⟨M, 1, none⟩ = some (.pointer (some ⟨X, 0, none⟩)) := c0
  have c1' : (W0.drewN nq).cell? ⟨M, 0, none⟩ = some (.slice A (encs cs).length c) := c1
  have hsz' : w.heap.size < (W0.drewN nq).heap.size := hsz
  have hlt' : M < (W0.drewN nq).heap.size := hlt
  clear B H HI cl cc c0 c1 hsz hlt
  generalize W0.drewN nq = W1 at *
  go_wp2_with fail
  have hS : ∀ w', Below W1.heap.size W1 w' → (w'.cell? ⟨M, 1, none⟩ = some (.pointer (some ⟨X, 0, none⟩)) ∧ w'.cell? ⟨w.heap.size, 0, none⟩ = some (.int .i64 l) ∧ Below W1.heap.size W1 w') := fun w' hb => ⟨(hb.cell (p := ⟨M, 1, none⟩) hlt').trans c0', (hb.cell (p := ⟨w.heap.size, 0, none⟩) hsz').trans cl', hb⟩
  have HS := Lib.hid hS
  clear hS
  go_upto_region 5 with fail
  go_cut [7, 8] (fun s7 s8 wx => ∃ Y : Nat, s7 = .pointer (some ⟨Y, 0, none⟩) ∧ s8 = .int .i64 0 ∧ wx.cell? ⟨Y, 0, none⟩ = some (.int .i64 (p.1 : Int)) ∧ wx.cell? ⟨Y, 1, none⟩ = some (.int .i64 (p.2 : Int)) ∧ Below W1.heap.size W1 wx)
  case first =>
    go_region_held3 (fun w' => w'.cell? ⟨M, 1, none⟩ = some (.pointer (some ⟨X, 0, none⟩)) ∧ w'.cell? ⟨w.heap.size, 0, none⟩ = some (.int .i64 l) ∧ Below W1.heap.size W1 w') (exact HS.out _ (by repeat (first | assumption | exact Below.refl _ _ | refine below_drew ?_ | refine Below.alloc ?_ (by first | omega | (simp <;> omega)) _ | refine Below.setCell ?_ (by first | omega | (simp <;> omega)) _))) ((go_at_call 43; refine (rline_ok (encs cs) l p q _ (HI'.out.ext (by repeat (first | assumption | exact Below.refl _ _ | refine below_drew ?_ | refine Below.alloc ?_ (by first | omega | (simp <;> omega)) _))) HL.out.at_ HQ.out (by omega)).mono ?_; rintro e w2 ⟨rfl, hb2⟩; simp only [sp]; have hb3 : Below W1.heap.size W1 w2 := Below.trans (by repeat (first | assumption | exact Below.refl _ _ | refine below_drew ?_ | refine Below.alloc ?_ (by first | omega | (simp <;> omega)) _)) (hb2.mono (by first | omega | (simp <;> omega))); have hz3 := hb2.size; obtain ⟨hcc, hff⟩ := bcell hb2; simp at hz3 hcc hff; (try (have hz4 := Nat.lt_of_succ_le hz3)); clear hb2))
    all_goals (go_wp2_with fail; go_meet; exact ⟨_, rfl, rfl, by first | (go_simp; done) | exact (pair_set w2 W1.heap.size (W1.heap.size + 1) (by omega) _ _ _ _ (.int .i64 0) (.int .i64 0) (by rw [hcc _ _ (by omega)]; go_simp) (by rw [hcc _ _ (by omega)]; go_simp)).1, by first | (go_simp; done) | exact (pair_set w2 W1.heap.size (W1.heap.size + 1) (by omega) _ _ _ _ (.int .i64 0) (.int .i64 0) (by rw [hcc _ _ (by omega)]; go_simp) (by rw [hcc _ _ (by omega)]; go_simp)).2, by repeat (first | assumption | exact Below.refl _ _ | refine below_drew ?_ | refine Below.alloc ?_ (by first | omega | (simp <;> omega)) _ | refine Below.setCell ?_ (by first | omega | (simp <;> omega)) _)⟩)
  case rest =>
    obtain ⟨Y, rfl, rfl, x0, x1, hbc⟩ := hcut
    have B2 := Lib.hid (ext_trans B'.out hbc)
    have H2 := Lib.hid (H'.out.ext hbc)
    have c2 := H2.out.duo.at0
    have hlt2 := H2.out.duo.lt
    have cc2 : wc.cell? ⟨w.heap.size, 1, none⟩ = some (.int .i64 ch) := (hbc.cell (p := ⟨w.heap.size, 1, none⟩) hsz').trans cc'
    have hsz2 : w.heap.size < wc.heap.size := Nat.lt_of_lt_of_le hsz' hbc.size
    have hle := HL.out.le
    have hfr := HL.out.from
    have hlen := HL.out.len
    have htx := HL.out.text
    have hs := H2.out.sl
    have hmx : c ≤ 9223372036854775807 := by have := hs.max; unfold maxLen at this; exact this
    have hcp := hs.le
    have HT := Lib.hid htx
    have HM := Lib.hid (HL.out.chars H2.out.ch)
    have hen := (Utf.ends_le mid ch).1
    have HLN := Lib.hid hlen
    have k1 : (0 : Int) ≤ (p.1 : Int) := by omega
    have k2 : (p.1 : Int) ≤ (p.2 : Int) := by omega
    have k3 : (p.2 : Int) ≤ (c : Int) := by omega
    have hsum : p.1 + (Utf.ends mid ch).1 ≤ 140737488355328 := by omega
    have hxl : Y < wc.heap.size := lt_of_cell x0
    generalize hz : (Utf.ends mid ch).1 = z at *
    have HZ := Lib.hid hz
    clear cl' cc' c0' c1' hbc htx hlen hz
    have HS2 := Lib.hid (show ∀ w', Below wc.heap.size wc w' → (w'.cell? ⟨M, 0, none⟩ = some (.slice A (encs cs).length c) ∧ w'.cell? ⟨Y, 0, none⟩ = some (.int .i64 (p.1 : Int)) ∧ w'.cell? ⟨Y, 1, none⟩ = some (.int .i64 (p.2 : Int)) ∧ w'.cell? ⟨w.heap.size, 1, none⟩ = some (.int .i64 ch) ∧ Below wc.heap.size wc w') from
      fun w' hb => ⟨(hb.cell (p := ⟨M, 0, none⟩) hlt2).trans c2, (hb.cell (p := ⟨Y, 0, none⟩) hxl).trans x0, (hb.cell (p := ⟨Y, 1, none⟩) hxl).trans x1, (hb.cell (p := ⟨w.heap.size, 1, none⟩) hsz2).trans cc2, hb⟩)
    by_cases hce : c = p.1
    · subst hce
      have sx := sl_cutE hs p.1 (p.2 - p.1) (by omega) rfl
      rw [HT.out] at sx
      have SX := Lib.hid sx
      clear hs sx
      go_wp2_with fail
      go_region_held3 (fun w' => w'.cell? ⟨M, 0, none⟩ = some (.slice A (encs cs).length p.1) ∧ w'.cell? ⟨Y, 0, none⟩ = some (.int .i64 (p.1 : Int)) ∧ w'.cell? ⟨Y, 1, none⟩ = some (.int .i64 (p.2 : Int)) ∧ w'.cell? ⟨w.heap.size, 1, none⟩ = some (.int .i64 ch) ∧ Below wc.heap.size wc w') (exact HS2.out _ (by repeat (first | assumption | exact Below.refl _ _ | refine below_drew ?_))) ((go_at_call 44; refine (roffset_txt _ _ _ mid _ HM.out (SX.out.below (below_drew (Below.refl _ _))) ch hm).mono ?_; rintro e w3 ⟨rfl, hb2⟩; have hb3 : Below wc.heap.size wc w3 := Below.trans (below_drew (Below.refl _ _)) hb2; clear hb2))
      rw [HZ.out]
      have B3 := Lib.hid (ext_trans B2.out hb3)
      have y0 : w3.cell? ⟨Y, 0, none⟩ = some (.int .i64 (p.1 : Int)) := (hb3.cell (p := ⟨Y, 0, none⟩) hxl).trans x0
      clear hb3
      go_wp2
      go_ret2
      exact ⟨by rw [HZ.out]; simp, B3.out⟩
    · have sx := sl_cutM hs p.1 (p.2 - p.1) (by omega)
      rw [HT.out] at sx
      have SX := Lib.hid sx
      clear hs sx
      go_wp2_with fail
      go_region_held3 (fun w' => w'.cell? ⟨M, 0, none⟩ = some (.slice A (encs cs).length c) ∧ w'.cell? ⟨Y, 0, none⟩ = some (.int .i64 (p.1 : Int)) ∧ w'.cell? ⟨Y, 1, none⟩ = some (.int .i64 (p.2 : Int)) ∧ w'.cell? ⟨w.heap.size, 1, none⟩ = some (.int .i64 ch) ∧ Below wc.heap.size wc w') (exact HS2.out _ (by repeat (first | assumption | exact Below.refl _ _ | refine below_drew ?_))) ((go_at_call 44; refine (roffset_txt _ _ _ mid _ HM.out (SX.out.below (below_drew (Below.refl _ _))) ch hm).mono ?_; rintro e w3 ⟨rfl, hb2⟩; have hb3 : Below wc.heap.size wc w3 := Below.trans (below_drew (Below.refl _ _)) hb2; clear hb2))
      rw [HZ.out]
      have B3 := Lib.hid (ext_trans B2.out hb3)
      have y0 : w3.cell? ⟨Y, 0, none⟩ = some (.int .i64 (p.1 : Int)) := (hb3.cell (p := ⟨Y, 0, none⟩) hxl).trans x0
      clear hb3
      go_wp2
      go_ret2
      exact ⟨by rw [HZ.out]; simp, B3.out⟩
end Pc
end Go.Proofs.Ytfpgnnjkojpmdaa
