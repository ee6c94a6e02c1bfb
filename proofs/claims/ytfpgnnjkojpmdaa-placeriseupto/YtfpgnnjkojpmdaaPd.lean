/-
  What Offset and Pos (package place) do.
-/
import Derived.Test.YtfpgnnjkojpmdaaPb
import Derived.Deep.RegionHeld3
import Derived.Deep.DeepCutAuto
import Derived.Deep.QuietTactic
import Derived.BigQuiet
namespace Go.Proofs.Ytfpgnnjkojpmdaa
set_option linter.unusedVariables false
set_option linter.unusedSimpArgs false
open Go.RowKit Go.Shelf
namespace Pc
open Utf Wd Wr We Wi Lm Lc Uw

def P2 (a b : Int) : Value := .agg #[.int .i64 a, .int .i64 b]
set_option maxRecDepth 100000 in
set_option maxHeartbeats 1600000 in
theorem offset_neg (M P : Nat) (A : Addr) (c : Nat) (cs : List Int) (w : World) (h : Mp w M P A c cs) (l ch : Int) (hl : l < 0 ∨ ch < 0) :
    Calls Try.prog 17 #[.pointer (some ⟨M, 0, none⟩), P2 l ch] w fun e w' => e = .returned (.tuple #[.int .i64 0, .int .i64 9]) ∧ Below w.heap.size w w' := by
  have B := Lib.hid (below_alloc w (.cells #[.int .i64 l, .int .i64 ch] 24))
  have H := Lib.hid (h.ext (below_alloc w (.cells #[.int .i64 l, .int .i64 ch] 24)))
  clear h
  unfold P2
  by_cases h0 : l < 0
  · go_enter Try.func17, Try.ntmps17
    go_wp2_with fail
    refine (none_ok _ _ _ _ _ _ H.out).mono ?_
    rintro e w' ⟨rfl, rfl⟩
    go_wp2
    go_ret2
    exact ⟨rfl, B.out⟩
  · have h1 : ch < 0 := by omega
    go_enter Try.func17, Try.ntmps17
    go_wp2_with fail
    refine (none_ok _ _ _ _ _ _ H.out).mono ?_
    rintro e w' ⟨rfl, rfl⟩
    go_wp2
    go_ret2
    exact ⟨rfl, B.out⟩

set_option maxRecDepth 100000 in
set_option maxHeartbeats 1600000 in
theorem offset_out (M P : Nat) (A : Addr) (c : Nat) (cs : List Int) (w : World) (h : Mp w M P A c cs) (l ch : Nat) (hl : (lns (encs cs)).length ≤ l) :
    Calls Try.prog 17 #[.pointer (some ⟨M, 0, none⟩), P2 l ch] w fun e w' => e = .returned (.tuple #[.int .i64 (encs cs).length, .int .i64 0]) ∧ Below w.heap.size w w' := by
  have B := Lib.hid (below_alloc w (.cells #[.int .i64 l, .int .i64 ch] 24))
  have H := Lib.hid (h.ext (below_alloc w (.cells #[.int .i64 l, .int .i64 ch] 24)))
  have cl : (w.alloc (.cells #[.int .i64 l, .int .i64 ch] 24)).cell? ⟨w.heap.size, 0, none⟩ = some (.int .i64 l) := by simp
  have cc : (w.alloc (.cells #[.int .i64 l, .int .i64 ch] 24)).cell? ⟨w.heap.size, 1, none⟩ = some (.int .i64 ch) := by simp
  have c0 := H.out.duo.at0
  have c1 := H.out.duo.at1
  have hlt := H.out.duo.lt
  have i0 : ¬ (l : Int) < 0 := by omega
  have i1 : ¬ (ch : Int) < 0 := by omega
  have i2 : (l : Int) ≥ ((lns (encs cs)).length : Int) := by omega
  obtain ⟨BB, hI⟩ := H.out.idx
  have HI := Lib.hid hI
  clear h hI
  unfold P2
  go_enter Try.func17, Try.ntmps17
  go_wp2_with fail
  refine (none_ok _ _ _ _ _ _ H.out).mono ?_
  rintro e w' ⟨rfl, rfl⟩
  go_wp2_with fail
  generalize w.alloc (.cells #[.int .i64 l, .int .i64 ch] 24) = W0 at *
  have hcnt : Hid (∀ q, Calls Try.prog 33 #[.pointer (some ⟨P, 0, none⟩)] (W0.drewN q) fun e w' => e = .returned (.int .i64 ((lns (encs cs)).length : Nat)) ∧ w' = W0.drewN q) := Lib.hid (fun q => (count_txt _ P _ (W0.drewN q) HI.out).mono (fun e w' h => ⟨h.1, h.2.symm⟩))
  go_quiet ((go_at_call 33; exact Calls.quiet_of_same (hcnt.out _)))
  go_wp2
  go_ret2
  exact ⟨rfl, below_drewN B.out _⟩

theorem bcell {W w1 : World} (hb : Below W.heap.size W w1) : (∀ b o, b < W.heap.size → w1.cell? ⟨b, o, none⟩ = W.cell? ⟨b, o, none⟩) ∧ (∀ b o, b < W.heap.size → w1.frozen? ⟨b, o, none⟩ = W.frozen? ⟨b, o, none⟩) :=
  ⟨fun b o h => hb.cell (p := ⟨b, o, none⟩) h, fun b o h => hb.frozen (p := ⟨b, o, none⟩) h⟩
theorem pair_set (w : World) (X Y : Nat) (hXY : X ≠ Y) (a b c d u v : Value) (h0 : w.cell? ⟨X, 0, none⟩ = some u) (h1 : w.cell? ⟨X, 1, none⟩ = some v) :
    ((((w.setCell ⟨Y, 0, none⟩ a).setCell ⟨Y, 1, none⟩ b).setCell ⟨X, 0, none⟩ c).setCell ⟨X, 1, none⟩ d).cell? ⟨X, 0, none⟩ = some c ∧ ((((w.setCell ⟨Y, 0, none⟩ a).setCell ⟨Y, 1, none⟩ b).setCell ⟨X, 0, none⟩ c).setCell ⟨X, 1, none⟩ d).cell? ⟨X, 1, none⟩ = some d := by
  have g0 : ((w.setCell ⟨Y, 0, none⟩ a).setCell ⟨Y, 1, none⟩ b).cell? ⟨X, 0, none⟩ = some u := by
    rw [World.cell?_setCell_other _ _ _ _ (by intro e; injection e with e1; exact hXY e1.symm), World.cell?_setCell_other _ _ _ _ (by intro e; injection e with e1; exact hXY e1.symm), h0]
  have g1 : ((w.setCell ⟨Y, 0, none⟩ a).setCell ⟨Y, 1, none⟩ b).cell? ⟨X, 1, none⟩ = some v := by
    rw [World.cell?_setCell_other _ _ _ _ (by intro e; injection e with e1; exact hXY e1.symm), World.cell?_setCell_other _ _ _ _ (by intro e; injection e with e1; exact hXY e1.symm), h1]
  have k0 := World.cell?_setCell_same _ _ c g0
  have k1 : (((w.setCell ⟨Y, 0, none⟩ a).setCell ⟨Y, 1, none⟩ b).setCell ⟨X, 0, none⟩ c).cell? ⟨X, 1, none⟩ = some v := by
    rw [World.cell?_setCell_other _ _ _ _ (by simp), g1]
  exact ⟨by rw [World.cell?_setCell_other _ _ _ _ (by simp), k0], World.cell?_setCell_same _ _ d k1⟩
theorem below_drew {B : Nat} {a w : World} (h : Below B a w) : Below B a w.drew := below_drewN h 1
set_option maxRecDepth 100000 in
set_option maxHeartbeats 6400000 in
theorem offset_in (M P : Nat) (A : Addr) (c : Nat) (cs : List Int) (w : World) (h : Mp w M P A c cs) (l ch : Nat) {p : Nat × Nat} {mid : List Int} (hl : Ln cs l p mid) (hm : ch ≤ 9223372036854775807) :
    Calls Try.prog 17 #[.pointer (some ⟨M, 0, none⟩), P2 l ch] w fun e w' => e = .returned (.tuple #[.int .i64 ((p.1 + (Utf.ends mid ch).1 : Nat) : Int), .int .i64 0]) ∧ Below w.heap.size w w' := by
  have B := Lib.hid (below_alloc w (.cells #[.int .i64 l, .int .i64 ch] 24))
  have H := Lib.hid (h.ext (below_alloc w (.cells #[.int .i64 l, .int .i64 ch] 24)))
  have cl : (w.alloc (.cells #[.int .i64 l, .int .i64 ch] 24)).cell? ⟨w.heap.size, 0, none⟩ = some (.int .i64 l) := by simp
  have cc : (w.alloc (.cells #[.int .i64 l, .int .i64 ch] 24)).cell? ⟨w.heap.size, 1, none⟩ = some (.int .i64 ch) := by simp
  have hsz : w.heap.size < (w.alloc (.cells #[.int .i64 l, .int .i64 ch] 24)).heap.size := by simp
  have c0 := H.out.duo.at0
  have c1 := H.out.duo.at1
  have hlt := H.out.duo.lt
  have i0 : ¬ (l : Int) < 0 := by omega
  have i1 : ¬ (ch : Int) < 0 := by omega
  have hll := hl.lt
  have i2 : ¬ (l : Int) ≥ ((lns (encs cs)).length : Int) := by omega
  obtain ⟨BB, hI⟩ := H.out.idx
  have HI := Lib.hid hI
  obtain ⟨p', q, hp', hq⟩ := ln_both (encs cs) hll
  rw [hl.at_] at hp'; cases hp'
  have HQ := Lib.hid hq
  have HL := Lib.hid hl
  clear h hI hl hq
  unfold P2
  go_enter Try.func17, Try.ntmps17
  go_wp2_with fail
  refine (none_ok _ _ _ _ _ _ H.out).mono ?_
  rintro e w' ⟨rfl, rfl⟩
  go_wp2_with fail
  generalize w.alloc (.cells #[.int .i64 l, .int .i64 ch] 24) = W0 at *
  have hcnt : Hid (∀ q, Calls Try.prog 33 #[.pointer (some ⟨P, 0, none⟩)] (W0.drewN q) fun e w' => e = .returned (.int .i64 ((lns (encs cs)).length : Nat)) ∧ w' = W0.drewN q) := Lib.hid (fun q => (count_txt _ P _ (W0.drewN q) HI.out).mono (fun e w' h => ⟨h.1, h.2.symm⟩))
  go_quiet ((go_at_call 33; exact Calls.quiet_of_same (hcnt.out _)))
  clear hcnt
  have B' := Lib.hid (below_drewN B.out nq)
  have H' := Lib.hid (show Mp (W0.drewN nq) M P A c cs from H.out.ext (below_drewN (Below.refl _ _) nq))
  have HI' := Lib.hid (show Idx (W0.drewN nq) BB P (lns (encs cs)) from HI.out.ext (below_drewN (Below.refl _ _) nq))
  have cl' : (W0.drewN nq).cell? ⟨w.heap.size, 0, none⟩ = some (.int .i64 l) := cl
  have cc' : (W0.drewN nq).cell? ⟨w.heap.size, 1, none⟩ = some (.int .i64 ch) := cc
  have c0' : (W0.drewN nq).cell? ⟨M, 0, none⟩ = some (.pointer (some ⟨P, 0, none⟩)) := c0
  have c1' : (W0.drewN nq).cell? ⟨M, 1, none⟩ = some (.slice (some A) (encs cs).length c) := c1
  have hsz' : w.heap.size < (W0.drewN nq).heap.size := hsz
  have hlt' : M < (W0.drewN nq).heap.size := hlt
  clear B H HI cl cc c0 c1 hsz hlt
  generalize W0.drewN nq = W1 at *
  go_wp2_with fail
  have hS : ∀ w', Below W1.heap.size W1 w' → (w'.cell? ⟨M, 0, none⟩ = some (.pointer (some ⟨P, 0, none⟩)) ∧ w'.cell? ⟨w.heap.size, 0, none⟩ = some (.int .i64 l) ∧ Below W1.heap.size W1 w') := fun w' hb => ⟨(hb.cell (p := ⟨M, 0, none⟩) hlt').trans c0', (hb.cell (p := ⟨w.heap.size, 0, none⟩) hsz').trans cl', hb⟩
  have HS := Lib.hid hS
  clear hS
  go_upto_region 7 with fail
  go_cut [7, 8] (fun s7 s8 wx => ∃ X : Nat, s7 = .pointer (some ⟨X, 0, none⟩) ∧ s8 = .int .i64 0 ∧ wx.cell? ⟨X, 0, none⟩ = some (.int .i64 (p.1 : Int)) ∧ wx.cell? ⟨X, 1, none⟩ = some (.int .i64 (p.2 : Int)) ∧ Below W1.heap.size W1 wx)
  case first =>
    go_region_held3 (fun w' => w'.cell? ⟨M, 0, none⟩ = some (.pointer (some ⟨P, 0, none⟩)) ∧ w'.cell? ⟨w.heap.size, 0, none⟩ = some (.int .i64 l) ∧ Below W1.heap.size W1 w') (exact HS.out _ (by repeat (first | assumption | exact Below.refl _ _ | refine below_drew ?_ | refine Below.alloc ?_ (by first | omega | (simp <;> omega)) _ | refine Below.setCell ?_ (by first | omega | (simp <;> omega)) _))) ((go_at_call 34; refine (line_txt _ P (encs cs) l p q _ (HI'.out.ext (by repeat (first | assumption | exact Below.refl _ _ | refine below_drew ?_ | refine Below.alloc ?_ (by first | omega | (simp <;> omega)) _))) HL.out.at_ HQ.out).mono ?_; rintro e w2 ⟨rfl, hb2⟩; simp only [sp]; have hb3 : Below W1.heap.size W1 w2 := Below.trans (by repeat (first | assumption | exact Below.refl _ _ | refine below_drew ?_ | refine Below.alloc ?_ (by first | omega | (simp <;> omega)) _)) (hb2.mono (by first | omega | (simp <;> omega))); have hz3 := hb2.size; obtain ⟨hcc, hff⟩ := bcell hb2; simp at hz3 hcc hff; (try (have hz4 := Nat.lt_of_succ_le hz3)); clear hb2))
    all_goals (go_wp2_with fail; go_meet; exact ⟨_, rfl, rfl, by first | (go_simp; done) | exact (pair_set w2 W1.heap.size (W1.heap.size + 1) (by omega) _ _ _ _ (.int .i64 0) (.int .i64 0) (by rw [hcc _ _ (by omega)]; go_simp) (by rw [hcc _ _ (by omega)]; go_simp)).1, by first | (go_simp; done) | exact (pair_set w2 W1.heap.size (W1.heap.size + 1) (by omega) _ _ _ _ (.int .i64 0) (.int .i64 0) (by rw [hcc _ _ (by omega)]; go_simp) (by rw [hcc _ _ (by omega)]; go_simp)).2, by repeat (first | assumption | exact Below.refl _ _ | refine below_drew ?_ | refine Below.alloc ?_ (by first | omega | (simp <;> omega)) _ | refine Below.setCell ?_ (by first | omega | (simp <;> omega)) _)⟩)
  case rest =>
    obtain ⟨X, rfl, rfl, x0, x1, hbc⟩ := hcut
    have B2 := Lib.hid (ext_trans B'.out hbc)
    have H2 := Lib.hid (H'.out.ext hbc)
    have c2 := H2.out.duo.at1
    have cc2 : wc.cell? ⟨w.heap.size, 1, none⟩ = some (.int .i64 ch) := (hbc.cell (p := ⟨w.heap.size, 1, none⟩) hsz').trans cc'
    obtain ⟨b, off, rfl⟩ := H2.out.spot
    have hle := HL.out.le
    have hfr := HL.out.from
    have hlen := HL.out.len
    have htx := HL.out.text
    have hs := H2.out.sl
    have hmx : c ≤ 9223372036854775807 := by have := hs.max; unfold maxLen at this; exact this
    have hcp := hs.le
    have HT := Lib.hid htx
    have HM := Lib.hid (HL.out.chars H2.out.ch)
    have few := H2.out.few
    have hen := (Utf.ends_le mid ch).1
    have HLN := Lib.hid hlen
    have k1 : (0 : Int) ≤ (p.1 : Int) := by omega
    have k2 : (p.1 : Int) ≤ (p.2 : Int) := by omega
    have k3 : (p.2 : Int) ≤ (c : Int) := by omega
    have hsum : p.1 + (Utf.ends mid ch).1 ≤ 140737488355328 := by omega
    generalize hz : (Utf.ends mid ch).1 = z at *
    have HZ := Lib.hid hz
    clear cl' cc' c0' c1' hbc htx hlen hz
    by_cases hce : c = p.1
    · subst hce
      have e0 : p.2 - p.1 = 0 := by omega
      have e1 : encs mid = [] := by rw [← HT.out, e0]; simp
      have hA : Sl .u8 wc (some ⟨b, off, none⟩) (p.2 - p.1) 0 (encs mid) := by
        rw [e0, e1]; exact ⟨Row.nil, by omega, by omega, fun e => by cases e⟩
      have HA := Lib.hid hA
      have hof : Hid (∀ q, Calls Try.prog 36 #[.slice (some ⟨b, off, none⟩) (p.2 - p.1) 0, .int .i64 ch] (wc.drewN q) fun e w' => e = .returned (.tuple #[.int .i64 (z : Int), .int .i64 0]) ∧ w' = wc.drewN q) :=
        Lib.hid (fun q => (offset_txt _ _ _ mid _ HM.out (HA.out.drewN q) ch hm).mono (fun e w' h => ⟨by rw [h.1, HZ.out], h.2.symm⟩))
      clear hs hA e0 e1
      go_wp2_with fail
      go_quiet ((go_at_call 36; exact Calls.quiet_of_same (hof.out _)))
      go_wp2
      go_ret2
      exact ⟨by rw [HZ.out]; simp, below_drewN B2.out _⟩
    · have HA := Lib.hid (by have := hs.cutS p.1 (p.2 - p.1) (by omega); rw [HT.out] at this; exact this)
      have hof : Hid (∀ q, Calls Try.prog 36 #[.slice (some ⟨b, off + p.1, none⟩) (p.2 - p.1) (c - p.1), .int .i64 ch] (wc.drewN q) fun e w' => e = .returned (.tuple #[.int .i64 (z : Int), .int .i64 0]) ∧ w' = wc.drewN q) :=
        Lib.hid (fun q => (offset_txt _ _ _ mid _ HM.out (HA.out.drewN q) ch hm).mono (fun e w' h => ⟨by rw [h.1, HZ.out], h.2.symm⟩))
      clear hs
      go_wp2_with fail
      go_quiet ((go_at_call 36; exact Calls.quiet_of_same (hof.out _)))
      go_wp2
      go_ret2
      exact ⟨by rw [HZ.out]; simp, below_drewN B2.out _⟩
end Pc
end Go.Proofs.Ytfpgnnjkojpmdaa
