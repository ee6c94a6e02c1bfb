/-
  The walk of PlaceRise.
-/
import Derived.Test.YtfpgnnjkojpmdaaPi
import Derived.Test.YtfpgnnjkojpmdaaWe
import Derived.Test.YtfpgnnjkojpmdaaWp
namespace Go.Proofs.Ytfpgnnjkojpmdaa
set_option linter.unusedVariables false
set_option linter.unusedSimpArgs false
open Go.RowKit Go.ChangeShapes Go.WideShapes
open Utf Wd Wr We Wi Lm Lc Pc

theorem swap_cells (w : World) (X Y : Nat) (hXY : X ≠ Y) (a b c d : Value) {u v u' v' : Value} (h0 : w.cell? ⟨X, 0, none⟩ = some u) (h1 : w.cell? ⟨X, 1, none⟩ = some v) (g0 : w.cell? ⟨Y, 0, none⟩ = some u') (g1 : w.cell? ⟨Y, 1, none⟩ = some v') :
    ((((w.setCell ⟨X, 0, none⟩ a).setCell ⟨X, 1, none⟩ b).setCell ⟨Y, 0, none⟩ c).setCell ⟨Y, 1, none⟩ d).cell? ⟨X, 0, none⟩ = some a ∧ ((((w.setCell ⟨X, 0, none⟩ a).setCell ⟨X, 1, none⟩ b).setCell ⟨Y, 0, none⟩ c).setCell ⟨Y, 1, none⟩ d).cell? ⟨X, 1, none⟩ = some b ∧
    ((((w.setCell ⟨X, 0, none⟩ a).setCell ⟨X, 1, none⟩ b).setCell ⟨Y, 0, none⟩ c).setCell ⟨Y, 1, none⟩ d).cell? ⟨Y, 0, none⟩ = some c ∧ ((((w.setCell ⟨X, 0, none⟩ a).setCell ⟨X, 1, none⟩ b).setCell ⟨Y, 0, none⟩ c).setCell ⟨Y, 1, none⟩ d).cell? ⟨Y, 1, none⟩ = some d := by
  have hx := fun (i : Nat) (V : World) (p q : Value) => (World.cell?_setCell_other (V.setCell ⟨Y, 0, none⟩ p) ⟨Y, 1, none⟩ ⟨X, i, none⟩ q (by intro e; injection e with e1; exact hXY e1.symm)).trans (World.cell?_setCell_other V ⟨Y, 0, none⟩ ⟨X, i, none⟩ p (by intro e; injection e with e1; exact hXY e1.symm))
  have k0 := World.cell?_setCell_same _ _ a h0
  have k1 : (w.setCell ⟨X, 0, none⟩ a).cell? ⟨X, 1, none⟩ = some v := (World.cell?_setCell_other _ _ _ _ (by simp)).trans h1
  refine ⟨?_, ?_, (pair_set w Y X hXY.symm a b c d u' v' g0 g1).1, (pair_set w Y X hXY.symm a b c d u' v' g0 g1).2⟩
  · rw [hx]; exact (World.cell?_setCell_other _ _ _ _ (by simp)).trans k0
  · rw [hx]; exact World.cell?_setCell_same _ _ b k1

set_option maxRecDepth 100000 in
set_option maxHeartbeats 40000000 in
theorem walk_PlaceRise (A0 : Option Addr) (n0 c0 : Nat) (l0 : List Int) (a1 b1 : Int) (a2 b2 : Int) (w : World) (s0 : Sl .u8 w A0 n0 c0 l0) (b0 : ∀ x ∈ l0, (Lit.int .u8 x).wf = true) (z0 : c0 * 1 ≤ 140737488351232) (u0 : c0 ≤ 1048576) (w1 : (Lit.int .i64 a1).wf = true) (x1 : (Lit.int .i64 b1).wf = true) (w2 : (Lit.int .i64 a2).wf = true) (x2 : (Lit.int .i64 b2).wf = true) :
    Calls Try.prog 8 #[.slice A0 n0 c0, .agg #[.int .i64 a1, .int .i64 b1], .agg #[.int .i64 a2, .int .i64 b2]] w fun e w' => e = .returned (.bool true) ∧ Below w.heap.size w w' := by
  have hx1 := i64_of w1
  have hx2 := i64_of x1
  have hx3 := i64_of w2
  have hx4 := i64_of x2
  have S := Lib.hid s0
  have hB := isB_of b0
  have hnle := s0.le
  have hlen := s0.len
  clear s0 b0 z0 w1 x1 w2 x2
  have hb0 := ext_trans (below_alloc w (.cells #[.int .i64 a1, .int .i64 b1] 67)) (below_alloc (w.alloc (.cells #[.int .i64 a1, .int .i64 b1] 67)) (.cells #[.int .i64 a2, .int .i64 b2] 67))
  have bp := (Blk.new w 67 #[.int .i64 a1, .int .i64 b1]).alloc (.cells #[.int .i64 a2, .int .i64 b2] 67)
  have bq := Blk.new (w.alloc (.cells #[.int .i64 a1, .int .i64 b1] 67)) 67 #[.int .i64 a2, .int .i64 b2]
  rw [World.size_alloc] at bq
  have B0 := Lib.hid hb0
  have S0 := Lib.hid (S.out.below hb0)
  have BP0 := Lib.hid bp
  have BQ0 := Lib.hid bq
  clear hb0 bp bq S
  rcases txt_or hB with ⟨cs, hc, rfl⟩ | ⟨x, y, e, he, hch⟩
  · have HF := Lib.hid (show ((Lm.ends 0 (encs cs)).length + 1) * 16 ≤ 140737488355328 by have := Lm.ends_le (encs cs) 0; omega)
    have HC := Lib.hid hc
    have HL := Lib.hid hlen
    obtain ⟨m1, h1⟩ := Int.eq_ofNat_of_zero_le (Int.emod_nonneg a1 (b := 50) (by omega))
    obtain ⟨k1, h2⟩ := Int.eq_ofNat_of_zero_le (Int.emod_nonneg b1 (b := 50) (by omega))
    obtain ⟨m2, h3⟩ := Int.eq_ofNat_of_zero_le (Int.emod_nonneg a2 (b := 50) (by omega))
    obtain ⟨k2, h4⟩ := Int.eq_ofNat_of_zero_le (Int.emod_nonneg b2 (b := 50) (by omega))
    have hl2 := Int.emod_lt_of_pos b1 (b := 50) (by omega)
    have hl4 := Int.emod_lt_of_pos b2 (b := 50) (by omega)
    rw [h2] at hl2
    rw [h4] at hl4
    have HB1 := Lib.hid h1
    have HB2 := Lib.hid h2
    have HB3 := Lib.hid h3
    have HB4 := Lib.hid h4
    have hk1 := Lib.hid (show k1 ≤ 9223372036854775807 by omega)
    have hk2 := Lib.hid (show k2 ≤ 9223372036854775807 by omega)
    obtain ⟨N, hN⟩ : ∃ N, off cs m1 k1 = N := ⟨_, rfl⟩
    obtain ⟨N', hN'⟩ : ∃ N, off cs m2 k2 = N := ⟨_, rfl⟩
    have HN := Lib.hid hN
    have HN' := Lib.hid hN'
    have hup : (m1 < m2 ∨ (m1 = m2 ∧ k1 ≤ k2)) → N ≤ N' := fun h => by rw [← hN, ← hN']; exact off_rise hc h
    have hdn : (m2 < m1 ∨ (m2 = m1 ∧ k2 ≤ k1)) → N' ≤ N := fun h => by rw [← hN, ← hN']; exact off_rise hc h
    clear hN hN'
    clear h1 h2 h3 h4 hl2 hl4 hc hlen hB
    go_enter Try.func8, Try.ntmps8
    go_wp2_with fail
    refine (works_true _).mono ?_
    rintro r w1 ⟨rfl, hb⟩
    have B1 := Lib.hid (ext_trans B0.out hb)
    have S1 := Lib.hid (S0.out.below hb)
    have BP1 := Lib.hid (BP0.out.ext hb)
    have BQ1 := Lib.hid (BQ0.out.ext hb)
    clear hb
    go_wp2_with fail
    refine (made_ok _ _ _ _ _ HC.out S1.out HF.out (by omega)).mono ?_
    rintro r w2 ⟨M, P, A, c, rfl, hM, hb⟩
    have HM2 := Lib.hid hM
    have B2 := Lib.hid (ext_trans B1.out hb)
    have BP2 := Lib.hid (BP1.out.ext hb)
    have BQ2 := Lib.hid (BQ1.out.ext hb)
    clear hM hb B0 S0 BP0 BQ0 B1 S1 BP1 BQ1 hnle
    have p0 := BP2.out.at_ 0 rfl
    have p1 := BP2.out.at_ 1 rfl
    have q0 := BQ2.out.at_ 0 rfl
    have q1 := BQ2.out.at_ 1 rfl
    have lp := BP2.out.lt
    have lq := BQ2.out.lt
    generalize w.heap.size + 1 = Xq at *
    generalize hXp : w.heap.size = Xp at p0 p1 lp ⊢
    have HS := Lib.hid (show ∀ w', Below w2.heap.size w2 w' → (w'.cell? ⟨Xp, 0, none⟩ = some (.int .i64 a1) ∧ w'.cell? ⟨Xp, 1, none⟩ = some (.int .i64 b1) ∧ w'.cell? ⟨Xq, 0, none⟩ = some (.int .i64 a2) ∧ w'.cell? ⟨Xq, 1, none⟩ = some (.int .i64 b2) ∧ Below w2.heap.size w2 w') from fun w' hb => ⟨(hb.cell (p := ⟨Xp, 0, none⟩) lp).trans p0, (hb.cell (p := ⟨Xp, 1, none⟩) lp).trans p1, (hb.cell (p := ⟨Xq, 0, none⟩) lq).trans q0, (hb.cell (p := ⟨Xq, 1, none⟩) lq).trans q1, hb⟩)
    go_upto_region 6 with fail
    go_cut [8, 9] (fun s8 s9 wx => ∃ X Y : Nat, s8 = .pointer (some ⟨X, 0, none⟩) ∧ s9 = .pointer (some ⟨Y, 0, none⟩) ∧ X ≠ Y ∧ w2.heap.size ≤ X ∧ w2.heap.size ≤ Y ∧ wx.cell? ⟨X, 0, none⟩ = some (.int .i64 (m1 : Nat)) ∧ wx.cell? ⟨X, 1, none⟩ = some (.int .i64 (k1 : Nat)) ∧ wx.cell? ⟨Y, 0, none⟩ = some (.int .i64 (m2 : Nat)) ∧ wx.cell? ⟨Y, 1, none⟩ = some (.int .i64 (k2 : Nat)) ∧ wx.frozen? ⟨X, 0, none⟩ = false ∧ wx.frozen? ⟨X, 1, none⟩ = false ∧ wx.frozen? ⟨Y, 0, none⟩ = false ∧ wx.frozen? ⟨Y, 1, none⟩ = false ∧ Below w2.heap.size w2 wx)
    case first =>
      go_region_held3 (fun w' => w'.cell? ⟨Xp, 0, none⟩ = some (.int .i64 a1) ∧ w'.cell? ⟨Xp, 1, none⟩ = some (.int .i64 b1) ∧ w'.cell? ⟨Xq, 0, none⟩ = some (.int .i64 a2) ∧ w'.cell? ⟨Xq, 1, none⟩ = some (.int .i64 b2) ∧ Below w2.heap.size w2 w') (exact HS.out _ (by repeat (first | assumption | exact Below.refl _ _ | refine below_drew ?_ | refine Below.alloc ?_ (by first | omega | (simp <;> omega)) _ | refine Below.setCell ?_ (by first | omega | (simp <;> omega)) _)))
        (first
          | (go_at_call_of 31 (Value.int IntKind.i64 a1); refine (bring_at a1 50 (by decide) (by decide) hx1.1 hx1.2 _ HB1.out).mono ?_; rintro e w' ⟨rfl, rfl⟩)
          | (go_at_call_of 31 (Value.int IntKind.i64 b1); refine (bring_at b1 50 (by decide) (by decide) hx2.1 hx2.2 _ HB2.out).mono ?_; rintro e w' ⟨rfl, rfl⟩)
          | (go_at_call_of 31 (Value.int IntKind.i64 a2); refine (bring_at a2 50 (by decide) (by decide) hx3.1 hx3.2 _ HB3.out).mono ?_; rintro e w' ⟨rfl, rfl⟩)
          | (go_at_call_of 31 (Value.int IntKind.i64 b2); refine (bring_at b2 50 (by decide) (by decide) hx4.1 hx4.2 _ HB4.out).mono ?_; rintro e w' ⟨rfl, rfl⟩)
          | (go_at_call 32; refine (lpos_any _ _ _).mono ?_; rintro e w3 ⟨rfl, hb2⟩; have hb3 := Below.trans (show Below w2.heap.size w2 _ by repeat (first | assumption | exact Below.refl _ _ | refine below_drew ?_ | refine Below.alloc ?_ (by first | omega | (simp <;> omega)) _)) (hb2.mono (by first | omega | (simp <;> omega))); have hz3 := hb2.size; obtain ⟨hcc, hff⟩ := bcell hb2; (try simp at hz3); (try simp at hcc); (try simp at hff); (try (have hz4 := Nat.lt_of_succ_le hz3)); have ya : w2.heap.size < w3.heap.size + 1 := (by omega); have yb : w2.heap.size < w3.heap.size + 1 + 1 := (by omega); have yc : w2.heap.size + 1 < w3.heap.size + 1 + 1 := (by omega); (try (have yd : w2.heap.size < w3.heap.size := (by omega))); (try (have ye : w2.heap.size + 1 < w3.heap.size := (by omega))); (try (have yf : w2.heap.size + 1 < w3.heap.size + 1 := (by omega))); clear hb2))
      all_goals (go_wp2_with fail; go_meet; exact ⟨_, _, rfl, rfl, (by first | omega | (simp <;> omega)), (by first | omega | (simp <;> omega)), (by first | omega | (simp <;> omega)), (by first | (go_simp; done) | exact (swap_cells _ _ _ (by omega) _ _ _ _ (u := .int .i64 0) (v := .int .i64 0) (u' := .int .i64 0) (v' := .int .i64 0) (by go_simp) (by go_simp) (by go_simp) (by go_simp)).1), (by first | (go_simp; done) | exact (swap_cells _ _ _ (by omega) _ _ _ _ (u := .int .i64 0) (v := .int .i64 0) (u' := .int .i64 0) (v' := .int .i64 0) (by go_simp) (by go_simp) (by go_simp) (by go_simp)).2.1), (by first | (go_simp; done) | exact (swap_cells _ _ _ (by omega) _ _ _ _ (u := .int .i64 0) (v := .int .i64 0) (u' := .int .i64 0) (v' := .int .i64 0) (by go_simp) (by go_simp) (by go_simp) (by go_simp)).2.2.1), (by first | (go_simp; done) | exact (swap_cells _ _ _ (by omega) _ _ _ _ (u := .int .i64 0) (v := .int .i64 0) (u' := .int .i64 0) (v' := .int .i64 0) (by go_simp) (by go_simp) (by go_simp) (by go_simp)).2.2.2), (by go_simp), (by go_simp), (by go_simp), (by go_simp), by repeat (first | assumption | exact Below.refl _ _ | refine below_drew ?_ | refine Below.alloc ?_ (by first | omega | (simp <;> omega)) _ | refine Below.setCell ?_ (by first | omega | (simp <;> omega)) _)⟩)
    case rest =>
      obtain ⟨X, Y, rfl, rfl, hne, hX2, hY2, x0, x1, y0, y1, f0, f1, f2, f3, hbc⟩ := hcut
      have hne' : Y ≠ X := Ne.symm hne
      have hXl : X < wc.heap.size := lt_of_cell x0
      have hYl : Y < wc.heap.size := lt_of_cell y0
      clear p0 p1 q0 q1 lp lq HS
      rcases (show m2 < m1 ∨ (m1 = m2 ∧ k2 < k1) ∨ m1 < m2 ∨ (m1 = m2 ∧ k1 ≤ k2) by omega) with hcs | ⟨hcs, hcs'⟩ | hcs | ⟨hcs, hcs'⟩
      · have t1 : (m1 : Int) > (m2 : Int) := by omega
        have hle := hdn (.inl hcs)
        have t9 : (N' : Int) ≤ (N : Int) := by omega
        have hb5 : Below w2.heap.size w2 ((((wc.setCell ⟨X, 0, none⟩ (.int .i64 (m2 : Nat))).setCell ⟨X, 1, none⟩ (.int .i64 (k2 : Nat))).setCell ⟨Y, 0, none⟩ (.int .i64 (m1 : Nat))).setCell ⟨Y, 1, none⟩ (.int .i64 (k1 : Nat))) := (((hbc.setCell (p := ⟨X, 0, none⟩) hX2 _).setCell (p := ⟨X, 1, none⟩) hX2 _).setCell (p := ⟨Y, 0, none⟩) hY2 _).setCell (p := ⟨Y, 1, none⟩) hY2 _
        obtain ⟨z0, z1, z2, z3⟩ := swap_cells wc X Y hne (.int .i64 (m2 : Nat)) (.int .i64 (k2 : Nat)) (.int .i64 (m1 : Nat)) (.int .i64 (k1 : Nat)) x0 x1 y0 y1
        go_wp2_with fail
        generalize (((wc.setCell ⟨X, 0, none⟩ (.int .i64 (m2 : Nat))).setCell ⟨X, 1, none⟩ (.int .i64 (k2 : Nat))).setCell ⟨Y, 0, none⟩ (.int .i64 (m1 : Nat))).setCell ⟨Y, 1, none⟩ (.int .i64 (k1 : Nat)) = W5 at *
        have HM5 := Lib.hid (HM2.out.ext hb5)
        have B5 := Lib.hid (ext_trans B2.out hb5)
        clear hup hdn hle hb5 hbc x0 x1 y0 y1 f0 f1 f2 f3
        refine (offset_ok _ _ _ _ _ _ HM5.out m2 k2 hk2.out HN'.out).mono ?_
        rintro r w6 ⟨rfl, hb⟩
        have HM6 := Lib.hid (HM5.out.ext hb)
        have B6 := Lib.hid (ext_trans B5.out hb)
        have u0 : w6.cell? ⟨Y, 0, none⟩ = some (.int .i64 (m1 : Nat)) := (hb.cell (p := ⟨Y, 0, none⟩) (lt_of_cell z2)).trans z2
        have u1 : w6.cell? ⟨Y, 1, none⟩ = some (.int .i64 (k1 : Nat)) := (hb.cell (p := ⟨Y, 1, none⟩) (lt_of_cell z3)).trans z3
        clear hb z0 z1 z2 z3 hXl hYl
        go_wp2_with fail
        refine (offset_ok _ _ _ _ _ _ HM6.out m1 k1 hk1.out HN.out).mono ?_
        rintro r w7 ⟨rfl, hb⟩
        have B7 := Lib.hid (ext_trans B6.out hb)
        clear hb u0 u1
        go_wp2_with fail
        go_ret
        exact ⟨rfl, B7.out⟩
      · subst hcs
        have t1 : ¬ (m1 : Int) > (m1 : Int) := by omega
        have t2 : ((m1 : Int) == (m1 : Int)) = true := by simp
        have t3 : (k1 : Int) > (k2 : Int) := by omega
        have hle := hdn (.inr ⟨rfl, by omega⟩)
        have t9 : (N' : Int) ≤ (N : Int) := by omega
        have hb5 : Below w2.heap.size w2 ((((wc.setCell ⟨X, 0, none⟩ (.int .i64 (m1 : Nat))).setCell ⟨X, 1, none⟩ (.int .i64 (k2 : Nat))).setCell ⟨Y, 0, none⟩ (.int .i64 (m1 : Nat))).setCell ⟨Y, 1, none⟩ (.int .i64 (k1 : Nat))) := (((hbc.setCell (p := ⟨X, 0, none⟩) hX2 _).setCell (p := ⟨X, 1, none⟩) hX2 _).setCell (p := ⟨Y, 0, none⟩) hY2 _).setCell (p := ⟨Y, 1, none⟩) hY2 _
        obtain ⟨z0, z1, z2, z3⟩ := swap_cells wc X Y hne (.int .i64 (m1 : Nat)) (.int .i64 (k2 : Nat)) (.int .i64 (m1 : Nat)) (.int .i64 (k1 : Nat)) x0 x1 y0 y1
        go_wp2_with fail
        generalize (((wc.setCell ⟨X, 0, none⟩ (.int .i64 (m1 : Nat))).setCell ⟨X, 1, none⟩ (.int .i64 (k2 : Nat))).setCell ⟨Y, 0, none⟩ (.int .i64 (m1 : Nat))).setCell ⟨Y, 1, none⟩ (.int .i64 (k1 : Nat)) = W5 at *
        have HM5 := Lib.hid (HM2.out.ext hb5)
        have B5 := Lib.hid (ext_trans B2.out hb5)
        clear hup hdn hle hb5 hbc x0 x1 y0 y1 f0 f1 f2 f3
        refine (offset_ok _ _ _ _ _ _ HM5.out m1 k2 hk2.out HN'.out).mono ?_
        rintro r w6 ⟨rfl, hb⟩
        have HM6 := Lib.hid (HM5.out.ext hb)
        have B6 := Lib.hid (ext_trans B5.out hb)
        have u0 : w6.cell? ⟨Y, 0, none⟩ = some (.int .i64 (m1 : Nat)) := (hb.cell (p := ⟨Y, 0, none⟩) (lt_of_cell z2)).trans z2
        have u1 : w6.cell? ⟨Y, 1, none⟩ = some (.int .i64 (k1 : Nat)) := (hb.cell (p := ⟨Y, 1, none⟩) (lt_of_cell z3)).trans z3
        clear hb z0 z1 z2 z3 hXl hYl
        go_wp2_with fail
        refine (offset_ok _ _ _ _ _ _ HM6.out m1 k1 hk1.out HN.out).mono ?_
        rintro r w7 ⟨rfl, hb⟩
        have B7 := Lib.hid (ext_trans B6.out hb)
        clear hb u0 u1
        go_wp2_with fail
        go_ret
        exact ⟨rfl, B7.out⟩
      · have t1 : ¬ (m1 : Int) > (m2 : Int) := by omega
        have t2 : ((m1 : Int) == (m2 : Int)) = false := by simp; omega
        have hle := hup (.inl hcs)
        have t9 : (N : Int) ≤ (N' : Int) := by omega
        have HM5 := Lib.hid (HM2.out.ext hbc)
        have B5 := Lib.hid (ext_trans B2.out hbc)
        clear hup hdn hle hbc
        go_wp2_with fail
        refine (offset_ok _ _ _ _ _ _ HM5.out m1 k1 hk1.out HN.out).mono ?_
        rintro r w6 ⟨rfl, hb⟩
        have HM6 := Lib.hid (HM5.out.ext hb)
        have B6 := Lib.hid (ext_trans B5.out hb)
        have u0 : w6.cell? ⟨Y, 0, none⟩ = some (.int .i64 (m2 : Nat)) := (hb.cell (p := ⟨Y, 0, none⟩) hYl).trans y0
        have u1 : w6.cell? ⟨Y, 1, none⟩ = some (.int .i64 (k2 : Nat)) := (hb.cell (p := ⟨Y, 1, none⟩) hYl).trans y1
        clear hb x0 x1 y0 y1 hXl hYl
        go_wp2_with fail
        refine (offset_ok _ _ _ _ _ _ HM6.out m2 k2 hk2.out HN'.out).mono ?_
        rintro r w7 ⟨rfl, hb⟩
        have B7 := Lib.hid (ext_trans B6.out hb)
        clear hb u0 u1
        go_wp2_with fail
        go_ret
        exact ⟨rfl, B7.out⟩
      · subst hcs
        have t1 : ¬ (m1 : Int) > (m1 : Int) := by omega
        have t2 : ((m1 : Int) == (m1 : Int)) = true := by simp
        have t3 : ¬ (k1 : Int) > (k2 : Int) := by omega
        have hle := hup (.inr ⟨rfl, hcs'⟩)
        have t9 : (N : Int) ≤ (N' : Int) := by omega
        have HM5 := Lib.hid (HM2.out.ext hbc)
        have B5 := Lib.hid (ext_trans B2.out hbc)
        clear hup hdn hle hbc
        go_wp2_with fail
        refine (offset_ok _ _ _ _ _ _ HM5.out m1 k1 hk1.out HN.out).mono ?_
        rintro r w6 ⟨rfl, hb⟩
        have HM6 := Lib.hid (HM5.out.ext hb)
        have B6 := Lib.hid (ext_trans B5.out hb)
        have u0 : w6.cell? ⟨Y, 0, none⟩ = some (.int .i64 (m1 : Nat)) := (hb.cell (p := ⟨Y, 0, none⟩) hYl).trans y0
        have u1 : w6.cell? ⟨Y, 1, none⟩ = some (.int .i64 (k2 : Nat)) := (hb.cell (p := ⟨Y, 1, none⟩) hYl).trans y1
        clear hb x0 x1 y0 y1 hXl hYl
        go_wp2_with fail
        refine (offset_ok _ _ _ _ _ _ HM6.out m1 k2 hk2.out HN'.out).mono ?_
        rintro r w7 ⟨rfl, hb⟩
        have B7 := Lib.hid (ext_trans B6.out hb)
        clear hb u0 u1
        go_wp2_with fail
        go_ret
        exact ⟨rfl, B7.out⟩
  · have K := Lib.hid hch
    clear hch
    go_enter Try.func8, Try.ntmps8
    go_wp2_with fail
    refine (works_true _).mono ?_
    rintro r w1 ⟨rfl, hb⟩
    have B1 := Lib.hid (ext_trans B0.out hb)
    have S1 := Lib.hid (S0.out.below hb)
    clear hb
    go_wp2_with fail
    refine (made_bad _ _ _ _ _ S1.out hB K.out he).mono ?_
    rintro r w2 ⟨rfl, rfl⟩
    go_wp2_with fail
    go_ret
    exact ⟨rfl, B1.out⟩
end Go.Proofs.Ytfpgnnjkojpmdaa
