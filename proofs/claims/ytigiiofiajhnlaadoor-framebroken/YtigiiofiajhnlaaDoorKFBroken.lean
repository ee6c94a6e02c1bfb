/-
  The walk of FrameBroken.
-/
import Derived.Test.YtigiiofiajhnlaaDoorFh
import Derived.Test.YtigiiofiajhnlaaDoorFg
import Derived.Test.YtigiiofiajhnlaaDoorFw
import Derived.Deep.RegionHeld3
import Derived.Deep.DeepCutAuto
import Derived.Lib.AppendStr
namespace Go.Proofs.YtigiiofiajhnlaaDoor
set_option linter.unusedVariables false
open Go.RowKit Go.ChangeShapes Go.WideShapes
open Wd We Dm Dc Dd Hm Hb He Hg Fm Fa

/-- bodies that were framed, one behind the other; each is cut at z bytes -/
def Fa.frms (z : Nat) (xs : List (List Int)) : List Int := (xs.map fun l => fr (l.take z)).flatten
theorem Fa.frms_snoc (z : Nat) (xs : List (List Int)) (l : List Int) : frms z (xs ++ [l]) = frms z xs ++ fr (l.take z) := by simp [frms]
theorem Fa.frms_len {z : Nat} (hz : z ≤ 1000) (xs : List (List Int)) : (frms z xs).length ≤ (z + 39) * xs.length := by
  induction xs with
  | nil => simp [frms]
  | cons l xs ih =>
    have h1 : (frms z (l :: xs)).length = (fr (l.take z)).length + (frms z xs).length := by simp [frms]
    have h2 : (l.take z).length ≤ z := by rw [List.length_take]; omega
    have h3 : (hd (l.take z).length).length ≤ 39 := by rw [hd_length]; have := decs_five (show (l.take z).length ≤ 65536 by omega); omega
    rw [h1, fr_len, List.length_cons, Nat.mul_add, Nat.mul_one]
    omega
theorem Fa.frms_isB {z : Nat} {xs : List (List Int)} (h : ∀ l ∈ xs, IsB l) : IsB (frms z xs) := fun x hx => by
  obtain ⟨y, hy, hxy⟩ := List.mem_flatten.1 hx
  obtain ⟨l, hl, rfl⟩ := List.mem_map.1 hy
  exact fr_isB ((h l hl).take z) x hxy
theorem Fa.frms_frs {z : Nat} (hz : z ≤ 1000) : ∀ (xs : List (List Int)) (r : List Int), frs (frms z xs ++ r) = (xs.map (·.take z) ++ (frs r).1, (frs r).2)
  | [], r => by simp [frms]
  | l :: xs, r => by
    have e : frms z (l :: xs) ++ r = fr (l.take z) ++ (frms z xs ++ r) := by simp [frms]
    have ih := Fa.frms_frs hz xs r
    rw [e, frs_some (fr_cut _ (by rw [List.length_take]; omega)), ih]
    simp
theorem Fa.x_prs : prs [88, 13, 10, 13, 10] = (0, 0, 60) := by decide +kernel
theorem Fa.x_frs (r : List Int) : frs ([88, 13, 10, 13, 10] ++ r) = ([], [88, 13, 10, 13, 10] ++ r) ∧ brk ([88, 13, 10, 13, 10] ++ r) = 60 := by
  have e : prs ([88, 13, 10, 13, 10] ++ r) = (0, 0, 60) := by rw [prs_app r (by rw [Fa.x_prs]; simp), Fa.x_prs]
  exact ⟨frs_none (cutF_bad e (by omega)), brk_bad e (by omega)⟩
theorem Fa.own_str {e : TypeId} {w : World} {B n : Nat} {v : Value} {l E : List Int} {s : ByteArray} (hn : l.length = n) (h : w.ownsRow B e 1 v (n + s.size) (l.map (Value.int .u8) ++ Lib.strCells s)) (h1 : Lib.strCells s = E.map (Value.int .u8)) (h2 : s.size = E.length) : Wd.Own .u8 e w B v (l ++ E) := by
  unfold Wd.Own
  rw [List.length_append, List.map_append, ← h1, ← h2, hn]
  exact h

set_option maxRecDepth 100000 in
set_option maxHeartbeats 4000000 in
theorem walk_FrameBroken (A0 : Option Addr) (n0 c0 : Nat) (ls0 : List (List Int)) (A1 : Option Addr) (n1 c1 : Nat) (l1 : List Int) (w : World) (s0 : LL w A0 n0 c0 ls0) (b0 : ∀ l ∈ ls0, IsB l) (z0 : ∀ l ∈ ls0, l.length ≤ 140737488351232) (s1 : Sl .u8 w A1 n1 c1 l1) (b1 : ∀ x ∈ l1, (Lit.int .u8 x).wf = true) (z1 : c1 * 1 ≤ 140737488351232) (tab : It.Tab w) (env : Hb.Env w) :
    Calls Tryd.prog 8 #[.slice A0 n0 c0, .slice A1 n1 c1] w fun e w' => e = .returned (.bool true) ∧ Below w.heap.size w w' := by
  obtain ⟨i0, hi, hz0, hz1, hz2⟩ := info_parts u8_info
  have hlen := s0.len
  have hmx : n0 ≤ 9223372036854775807 := by have := s0.le; have := s0.max; unfold maxLen at *; omega
  have hn1 : n1 ≤ 140737488351232 := by have := s1.le; omega
  have hl1 := s1.len
  have S0 := Lib.hid s0
  have B0 := Lib.hid b0
  have S1 := Lib.hid s1
  have HB1 := Lib.hid (isB_of b1)
  have E := Lib.hid env
  have T := Lib.hid tab
  clear s0 b0 z0 s1 b1 env tab
  go_enter Tryd.func8, Tryd.ntmps8
  go_wp2_with fail
  refine (new_any _).mono ?_
  rintro e w1 ⟨rfl, r1, b1⟩
  have R1 := Lib.hid r1
  have H1 := Lib.hid b1
  clear r1 b1
  obtain ⟨B, hBe⟩ : ∃ B, w.heap.size = B := ⟨_, rfl⟩
  rw [hBe] at R1 ⊢
  go_wp2
  go_loopw [6, 7, 8] (fun bv nv ix wr => ∃ (k : Nat), nv = .int .i64 k ∧ ix = .int .i64 k ∧ k ≤ n0 ∧ k ≤ 10 ∧ Hid (Wd.Own .u8 5 wr B bv (frms 200 (ls0.take k))) ∧ Hid (RdM wr B B (some []) none) ∧ Hid (Below w.heap.size w wr)) (fun _ _ ix _ => 10 - (intOf ix).toNat)
  case atStart => exact ⟨0, rfl, rfl, Nat.zero_le _, by omega, Lib.hid Wd.Own.nil, R1, H1⟩
  case round =>
    obtain ⟨k, rfl, rfl, hk, hk10, ho, hr, hb⟩ := hrel
    have hfl := frms_len (z := 200) (by omega) (ls0.take k)
    have htk : (ls0.take k).length = k := by rw [List.length_take]; omega
    rw [htk] at hfl
    have hfl2 : (frms 200 (ls0.take k)).length ≤ 2390 := by omega
    have hsB : B ≤ wr.heap.size := Nat.le_of_lt hr.out.lt
    by_cases hgo : k < n0 ∧ k < 10
    · obtain ⟨hkn, hk10'⟩ := hgo
      have i1 : (k : Int) < (n0 : Int) := by omega
      have i2 : (k : Int) < 10 := by omega
      obtain ⟨bb, off, X, m, cc, lk, rfl, hlk, hc, sx, hbb⟩ := (S0.out.below hb.out).look hkn
      have hmc := sx.le
      have hmm : m ≤ 9223372036854775807 := by have := sx.le; have := sx.max; unfold maxLen at *; omega
      obtain ⟨N, hN⟩ : ∃ N, N = min m 200 := ⟨_, rfl⟩
      have hmin : min (m : Int) 200 = (N : Int) := by omega
      have hN1 : N ≤ m := by omega
      have hN2 : N ≤ 200 := by omega
      have hNc : (N : Int) ≤ (cc : Int) := by omega
      have e0 : lk.take N = lk.take 200 := by
        have := sx.len
        by_cases g : m ≤ 200
        · rw [List.take_of_length_le (by omega), List.take_of_length_le (by omega)]
        · rw [show N = 200 by omega]
      clear hN
      have SX := Lib.hid sx
      have TB := Lib.hid (T.out.below hb.out)
      have HS : Hid (∀ w', Below wr.heap.size wr w' → w'.cell? ⟨bb, off + k, none⟩ = some (.slice X m cc) ∧ Below wr.heap.size wr w') := fun w' h => ⟨(h.cell (p := ⟨bb, off + k, none⟩) hbb).trans hc, h⟩
      have hfrs := Lib.hid (show frms 200 (ls0.take (k + 1)) = frms 200 (ls0.take k) ++ fr (lk.take 200) by rw [List.take_add_one, hlk]; exact Fa.frms_snoc _ _ _)
      clear sx hlk hbb
      go_wp2_with fail
      go_region_held3 (fun w' => w'.cell? ⟨bb, off + k, none⟩ = some (.slice X m cc) ∧ Below wr.heap.size wr w') (exact HS.out _ (by repeat (first | assumption | exact Below.refl _ _ | refine below_drew ?_))) ((go_at_call 24; refine (frame_ok _ _ _ _ _ ((SX.out.cut0 N hN1).below (below_drew (Below.refl _ _))) (by omega) (TB.out.below (below_drew (Below.refl _ _)))).mono ?_; rintro e w2 ⟨A2, c2, rfl, t2, hb2⟩; have hb3 : Below wr.heap.size wr w2 := Below.trans (below_drew (Below.refl _ _)) hb2; clear hb2))
      rw [e0] at t2
      have O2 := Lib.hid (ho.out.below hb3 (fun g hg => (ho.out.lt hg).2))
      have R2 := Lib.hid (hr.out.below hb3)
      have H2 := Lib.hid (hb.out.trans (hb3.mono hb.out.size))
      have T2 := Lib.hid t2
      have hs2 := hb3.size
      have hhl : (hd N).length ≤ 39 := by rw [hd_length]; have := decs_five (show N ≤ 65536 by omega); omega
      clear t2 hb3 HS
      go_wp2_with (at_builtin; refine wp_bytes rfl _ _ _ rfl B Tryd.underlying27 hi hz0 hz1 hz2 rfl (l := frms 200 (ls0.take k)) rfl O2.out rfl T2.out (by unfold maxLen; omega) (by omega) (by omega) ?_; intro v3 w3 o3 b3 g3 _)
      have R3 := Lib.hid (R2.out.app O2.out (fun _ _ e => by cases e) g3)
      have O3 := Lib.hid o3
      have H3 := Lib.hid (H2.out.trans (b3.mono (by omega)))
      clear o3 b3 g3
      go_wp2
      go_roundw
      case rel => exact ⟨k + 1, by go_num, by go_num, by omega, by omega, Lib.hid (by rw [hfrs.out]; exact O3.out), R3, H3⟩
      case measure => simp [intOf]; omega
    · have hcase : (¬ (k : Int) < (n0 : Int)) ∨ ((k : Int) < (n0 : Int) ∧ ¬ (k : Int) < 10) := by omega
      have hfb : IsB (frms 200 (ls0.take k)) := frms_isB (fun l hl => B0.out l (List.mem_of_mem_take hl))
      have hff := frms_frs (z := 200) (by omega) (ls0.take k)
      have hmap : ((ls0.take k).map (·.take 200)).length = k := by rw [List.length_map, htk]
      generalize (ls0.take k).map (·.take 200) = bs at *
      generalize frms 200 (ls0.take k) = F at *
      have hw : wrt (some []) (F ++ [88, 13, 10, 13, 10] ++ l1) = (bs, 60, none) := by
        obtain ⟨x1, x2⟩ := Fa.x_frs l1
        have e1 : frs ([] ++ (F ++ [88, 13, 10, 13, 10] ++ l1)) = (bs, [88, 13, 10, 13, 10] ++ l1) := by
          rw [List.nil_append, List.append_assoc, hff, x1]; simp
        rw [wrt_bad e1 (by rw [x2]; omega), x2]
      have HW := Lib.hid hw
      have IB := Lib.hid (show IsB (F ++ [88, 13, 10, 13, 10] ++ l1) from (hfb.append (isB_all (by decide))).append HB1.out)
      obtain ⟨m4, hm4⟩ : ∃ m4, (F ++ [88, 13, 10, 13, 10] ++ l1).length = m4 := ⟨_, rfl⟩
      have hm4' : m4 = F.length + 5 + n1 := by rw [← hm4, List.length_append, List.length_append, hl1]; rfl
      have HM4 := Lib.hid hm4
      have HM5 := Lib.hid hm4'
      have S1w := Lib.hid (S1.out.below hb.out)
      clear hw hfb hff hm4 hm4' hfl htk
      have q60 : ((60 : Int) == 60) = true := by decide
      have q70 : ((70 : Int) == 70) = true := by decide
      have q00 : ((0 : Int) == 0) = true := by decide
      have qk : ((k : Int) == (k : Int)) = true := by simp
      rcases hcase with i1 | ⟨i1, i2⟩
      all_goals
        go_wp2_with (first | (at_builtin; refine Lib.wpList_append_own_string _ rfl _ _ _ _ rfl B 5 i0 Tryd.underlying27 Tryd.underlying9 hi hz0 hz1 hz2 _ F.length _ rfl ho.out _ rfl (by show F.length + 5 ≤ _; unfold maxLen; omega) (by show F.length + 5 ≤ _; omega) hsB ?_; intro v2 w2 ho2 hg2 _; have o2 := Fa.own_str (l := F) (E := [88, 13, 10, 13, 10]) rfl ho2 rfl rfl; have b2 : Below B wr w2 := (Below.refl _ _).grown hg2 hsB (fun g hg => (ho.out.lt hg).1); have R2 := Lib.hid (hr.out.app ho.out (fun _ _ e => by cases e) hg2); have O2 := Lib.hid o2; have H2 := Lib.hid (hb.out.trans (b2.mono (show w.heap.size ≤ B by omega))); have S2 := Lib.hid (S1.out.below H2.out); have hs2 := b2.size; clear ho2 hg2 o2 b2) | (at_builtin; refine wp_bytes rfl _ _ _ rfl B Tryd.underlying27 hi hz0 hz1 hz2 rfl (l := F ++ [88, 13, 10, 13, 10]) rfl O2.out rfl S2.out (by rw [List.length_append]; show F.length + 5 + n1 ≤ _; unfold maxLen; omega) (by rw [List.length_append]; show (F.length + 5 + n1 + (F.length + 5 + n1) / 4 + 192) * 1 ≤ _; omega) (by omega) ?_; intro v4 w4 o4 b4 g4 _; have R4 := Lib.hid (R2.out.app O2.out (fun _ _ e => by cases e) g4); have H4 := Lib.hid (H2.out.trans (b4.mono (show w.heap.size ≤ B by omega))); have hs4 := b4.size; obtain ⟨A4, c4, hv4, t4, _⟩ := o4.sl; rw [HM4.out] at hv4 t4; subst hv4; have T4 := Lib.hid t4; clear o4 b4 g4 t4))
        go_wp2_with fail
        refine (write_any w w4 B B (some []) none A4 m4 c4 _ E.out H4.out (by omega) (by omega) R4.out T4.out IB.out (by have := HM5.out; omega)).mono ?_
        rintro e w5 ⟨vb, g5, rfl, o5, r5, _, st5⟩
        have H5 := Lib.hid (R4.out.keepW H4.out (by omega) st5)
        rw [HW.out] at o5 r5 ⊢
        obtain ⟨Av, cv, hvb, _, _⟩ := OL.ll o5
        rw [hmap] at hvb
        subst hvb
        have R5 := Lib.hid r5
        clear o5 r5 st5
        go_wp2_with fail
        refine (write_closed w5 B B _ _ [] R5.out).mono ?_
        rintro e w6 ⟨vb6, g6, rfl, o6, r6, _, st6⟩
        have H6 := Lib.hid (R5.out.keepW H5.out (by omega) st6)
        rw [wrt_none] at o6 r6 ⊢
        obtain ⟨Av6, cv6, hvb6, _, _⟩ := OL.ll o6
        simp only [List.length_nil] at hvb6
        subst hvb6
        have C6 := Lib.hid (closed_any w6 _ _ _ _ r6)
        have L6 := Lib.hid (left_any w6 _ _ _ _ r6)
        simp only [lft, Option.isNone, List.length_nil] at L6 C6
        clear o6 r6 st6
        go_wp2_with fail
        refine C6.out.mono ?_
        rintro e w' ⟨rfl, rfl⟩
        go_wp2_with fail
        refine L6.out.mono ?_
        rintro e w' ⟨rfl, rfl⟩
        go_wp2_with fail
        refine (awake7 _ (E.out.below H6.out)).mono ?_
        rintro e w7 ⟨rfl, hb7⟩
        go_wp2
        go_ret
        exact ⟨rfl, ext_trans H6.out hb7⟩
end Go.Proofs.YtigiiofiajhnlaaDoor
