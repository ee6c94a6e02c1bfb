/-
  The walks of EscapeQuotes, EscapeReads and EscapePairs, relative to what the program's Quote and Unquote answer.
-/
import Derived.Test.YtjkaccmhpilojaaEg
import Derived.Test.YtjkaccmhpilojaaWp
namespace Go.Proofs.Ytjkaccmhpilojaa
set_option linter.unusedVariables false
set_option linter.unusedSimpArgs false
open Go.RowKit
namespace Em
open Wd We Utf Es Wi Wf Wr

/-- a string's bytes -/
def lof8 (s : ByteArray) : List Int := s.data.toList.map fun b => (b.toNat : Int)
theorem lof8_byte (s : ByteArray) : IsB (lof8 s) := fun x hx => by
  obtain ⟨b, _, rfl⟩ := List.mem_map.1 hx
  have := b.toNat_lt
  omega
theorem bs_lof8 (s : ByteArray) : s = Dm.bs (lof8 s) := by
  have : (lof8 s).map (fun n => UInt8.ofNat n.toNat) = s.data.toList := by
    unfold lof8
    rw [List.map_map]
    conv => rhs; rw [← List.map_id s.data.toList]
    refine List.map_congr_left fun b _ => ?_
    simp
  unfold Dm.bs
  rw [this]
theorem lof8_length (s : ByteArray) : (lof8 s).length = s.size := by unfold lof8; rw [List.length_map, Array.length_toList]; rfl

set_option maxRecDepth 100000 in
set_option maxHeartbeats 1600000 in
theorem core_EscapeQuotes (HU : UnqOk) (HQ : QuoOk) (s : ByteArray) (hn : s.size ≤ 20000000000000) (w : World) :
    Calls Try.prog 3 #[.string s] w fun e w' => e = .returned (.bool true) ∧ Below w.heap.size w w' := by
  have hs := bs_lof8 s
  have hl := lof8_length s
  have hb := lof8_byte s
  generalize lof8 s = l at *
  subst hs
  rcases txt_or hb with ⟨cs, hc, rfl⟩ | ⟨x, y, z, hz, hk⟩
  · have C1 := Lib.hid (HQ.yes cs w hc (by omega))
    have C2 := Lib.hid (fun w' => rquote_any cs w' hc (by omega))
    generalize Dm.bs (encs cs) = S at *
    generalize Dm.bs (quo cs) = Q at *
    go_enter Try.func3, Try.ntmps3
    go_wp2_with fail
    refine C1.out.mono ?_
    rintro e w1 ⟨rfl, b1⟩
    go_wp2_with fail
    refine (C2.out w1).mono ?_
    rintro e w2 ⟨rfl, b2⟩
    have H2 := Lib.hid (ext_trans8 b1 b2)
    clear b1 b2
    go_wp2_with fail
    refine (awake8 HU HQ w2).mono ?_
    rintro e w3 ⟨rfl, b3⟩
    have H3 := Lib.hid (ext_trans8 H2.out b3)
    clear b3
    go_wp2
    go_ret
    exact ⟨rfl, H3.out⟩
  · have h0 : (chk l).2.2 ≠ 0 := by rw [hk]; exact hz
    have C1 := Lib.hid (HQ.no l w hb (by omega) h0)
    have C2 := Lib.hid (fun w' => rquote_no l w' hb (by omega) h0)
    generalize Dm.bs l = S at *
    clear hk h0
    go_enter Try.func3, Try.ntmps3
    go_wp2_with fail
    refine C1.out.mono ?_
    rintro e w1 ⟨rfl, b1⟩
    go_wp2_with fail
    refine (C2.out w1).mono ?_
    rintro e w2 ⟨rfl, b2⟩
    have H2 := Lib.hid (ext_trans8 b1 b2)
    clear b1 b2
    go_wp2_with fail
    refine (awake8 HU HQ w2).mono ?_
    rintro e w3 ⟨rfl, b3⟩
    have H3 := Lib.hid (ext_trans8 H2.out b3)
    clear b3
    go_wp2
    go_ret
    exact ⟨rfl, H3.out⟩

set_option maxRecDepth 100000 in
set_option maxHeartbeats 1600000 in
theorem core_EscapeReads (HU : UnqOk) (HQ : QuoOk) (A : Option Addr) (n c : Nat) (l : List Int) (a : Int) (w : World) (s : Sl .u8 w A n c l) (hb : IsB l) (hn : n ≤ 140737488351232) (h0 : -9223372036854775808 ≤ a) (h1 : a ≤ 9223372036854775807) :
    Calls Try.prog 4 #[.slice A n c, .int .i64 a] w fun e w' => e = .returned (.bool true) ∧ Below w.heap.size w w' := by
  have hlen := s.len
  have S := Lib.hid s
  have CP := Lib.hid (copy_any A n c l w s (by omega))
  obtain ⟨X, hX⟩ : ∃ X, Dm.bs (uq l a).1 = X := ⟨_, rfl⟩
  obtain ⟨y, hy⟩ : ∃ y, (uq l a).2.1 = y := ⟨_, rfl⟩
  obtain ⟨z, hz⟩ : ∃ z, (uq l a).2.2 = z := ⟨_, rfl⟩
  have HXYZ : ∀ w e w', UP l a w e w' → e = .returned (.tuple #[.string X, .int .i64 y, .int .i64 z]) ∧ Below w.heap.size w w' := fun w e w' h => by unfold UP at h; rw [hX, hy, hz] at h; exact h
  clear s
  go_enter Try.func4, Try.ntmps4
  go_wp2_with fail
  refine CP.out.mono ?_
  rintro e w1 ⟨v, rfl, o1, b1⟩
  obtain ⟨A1, c1, rfl, s1, _⟩ := o1.sl
  rw [hlen] at s1 ⊢
  have S1 := Lib.hid s1
  have S0 := Lib.hid (S.out.below b1)
  have H1 := Lib.hid b1
  clear o1 s1 b1
  go_wp2_with fail
  refine (HU _ _ _ _ a w1 S1.out hb (by omega) h0 h1).mono ?_
  intro e w2 hu
  obtain ⟨rfl, b2⟩ := HXYZ _ _ _ hu
  have S2 := Lib.hid (S1.out.below b2)
  have S3 := Lib.hid (S0.out.below b2)
  have H2 := Lib.hid (ext_trans8 H1.out b2)
  clear hu b2
  go_wp2_with fail
  refine (runquote_any _ _ _ _ a w2 S3.out hb (by omega)).mono ?_
  intro e w3 hu
  obtain ⟨rfl, b3⟩ := HXYZ _ _ _ hu
  have H3 := Lib.hid (ext_trans8 H2.out b3)
  have EQ := Lib.hid (eq_any _ _ _ _ c1 c l l w3 (S2.out.below b3).row (S3.out.below b3).row (by unfold maxLen; omega))
  clear hu b3
  go_wp2_with fail
  refine EQ.out.mono ?_
  rintro e w4 ⟨rfl, q, rfl⟩
  simp only [decide_true]
  have H4 := Lib.hid (Wd.below_drewN H3.out q)
  go_wp2_with fail
  refine (awake8 HU HQ _).mono ?_
  rintro e w5 ⟨rfl, b5⟩
  have H5 := Lib.hid (ext_trans8 H4.out b5)
  clear b5
  go_wp2
  go_ret
  exact ⟨by simp, H5.out⟩

theorem bs_append (a b : List Int) : Dm.bs a ++ Dm.bs b = Dm.bs (a ++ b) := by
  apply ByteArray.ext
  simp [Dm.bs, ByteArray.data_append]
theorem add_bs8 {l r : List Int} (h : l.length + r.length ≤ 9223372036854775807) {a b : ByteArray} (ha : a = Dm.bs l) (hb : b = Dm.bs r) (P : Program) (w : World) : (Op.stringOp .add a b).run P w = .ok (.string (Dm.bs (l ++ r))) w := by
  rw [ha, hb, ← bs_append]
  exact run_string_add_sum _ _ _ (by rw [Dm.bs_size, Dm.bs_size]; exact h)
theorem on_len (n : Int) : (on n).length ≤ 4 := by
  unfold on
  split
  · have := enc_length 65533; have := form_cases 65533; omega
  · have := enc_length n; have := form_cases n; omega
set_option maxRecDepth 100000 in
set_option maxHeartbeats 4000000 in
theorem core_EscapePairs (HU : UnqOk) (HQ : QuoOk) (a b g : Int) (w : World) (a0 : -9223372036854775808 ≤ a) (a1 : a ≤ 9223372036854775807) (b0 : -9223372036854775808 ≤ b) (b1 : b ≤ 9223372036854775807) (g0 : -9223372036854775808 ≤ g) (g1 : g ≤ 9223372036854775807) :
    Calls Try.prog 8 #[.int .i64 a, .int .i64 b, .int .i64 g] w fun e w' => e = .returned (.bool true) ∧ Below w.heap.size w w' := by
  have BA := Lib.hid (fun w' => bring_any a 65536 (by omega) (by omega) a0 a1 w')
  have BB := Lib.hid (fun w' => bring_any b 65536 (by omega) (by omega) b0 b1 w')
  have x0 := Int.emod_nonneg a (b := 65536) (by omega)
  have x1 := Int.emod_lt_of_pos a (b := 65536) (by omega)
  have y0 := Int.emod_nonneg b (b := 65536) (by omega)
  have y1 := Int.emod_lt_of_pos b (b := 65536) (by omega)
  generalize a % 65536 = x at *
  generalize b % 65536 = y at *
  clear a0 a1 b0 b1
  go_enter Try.func8, Try.ntmps8
  go_wp2_with fail
  refine (BA.out w).mono ?_
  rintro e w1 ⟨rfl, rfl⟩
  go_wp2_with fail
  refine (BB.out w).mono ?_
  rintro e w1 ⟨rfl, rfl⟩
  go_wp2_with fail
  refine (hexes_any x g x0 x1 g0 g1 w).mono ?_
  rintro e w1 ⟨p1, p2, p3, p4, rfl, d1, v1, h1⟩
  have D1 := Lib.hid d1
  have V1 := Lib.hid v1
  have H1 := Lib.hid h1
  clear d1 v1 h1
  go_wp2_with fail
  refine (hexes_any y (g / 16) y0 y1 (by omega) (by omega) w1).mono ?_
  rintro e w2 ⟨q1, q2, q3, q4, rfl, d2, v2, h2⟩
  have D2 := Lib.hid d2
  have V2 := Lib.hid v2
  have H2 := Lib.hid (ext_trans8 H1.out h2)
  clear d2 v2 h2
  have HS : Hid (({ data := #[34] } : ByteArray) ++ Dm.bs [92, 117, p1, p2, p3, p4] ++ Dm.bs [92, 117, q1, q2, q3, q4] ++ { data := #[34] } = Dm.bs [34, 92, 117, p1, p2, p3, p4, 92, 117, q1, q2, q3, q4, 34]) := Lib.hid (by
    rw [show ({ data := #[34] } : ByteArray) = Dm.bs [34] by kernel_rfl, bs_append, bs_append, bs_append]; rfl)
  have HU2 := Lib.hid (unq_two D1.out D2.out)
  rw [V1.out, V2.out] at HU2
  have hp1 := (vx_bd p1).2.2 D1.out.1; have hp2 := (vx_bd p2).2.2 D1.out.2.1; have hp3 := (vx_bd p3).2.2 D1.out.2.2.1; have hp4 := (vx_bd p4).2.2 D1.out.2.2.2
  have hq1 := (vx_bd q1).2.2 D2.out.1; have hq2 := (vx_bd q2).2.2 D2.out.2.1; have hq3 := (vx_bd q3).2.2 D2.out.2.2.1; have hq4 := (vx_bd q4).2.2 D2.out.2.2.2
  have HIB : Hid (IsB [34, 92, 117, p1, p2, p3, p4, 92, 117, q1, q2, q3, q4, 34]) := Lib.hid (fun z hz => by simp at hz; omega)
  clear hp1 hp2 hp3 hp4 hq1 hq2 hq3 hq4
  go_wp2_with fail
  refine (one_any x x0 x1 w2).mono ?_
  rintro e w3 ⟨rfl, b3⟩
  have H3 := Lib.hid (ext_trans8 H2.out b3)
  clear b3
  go_wp2_with fail
  have ks := add_bs8 (l := on x) (r := on y) (by have := on_len x; have := on_len y; omega) rfl rfl Try.prog
  refine (one_any y y0 y1 w3).mono ?_
  rintro e w4 ⟨rfl, b4⟩
  have H4 := Lib.hid (ext_trans8 H3.out b4)
  clear b4
  by_cases hp : 55296 ≤ x ∧ x ≤ 56319 ∧ 56320 ≤ y ∧ y ≤ 57343
  · obtain ⟨k1, k2, k3, k4⟩ := hp
    rw [if_pos ⟨k1, k2, k3, k4⟩] at HU2
    obtain ⟨z, hz⟩ : ∃ z, 65536 + (x - 55296) * 1024 + y - 56320 = z := ⟨_, rfl⟩
    have hf : form z ≠ 0 := by have := form_eq4 (c := z) (by omega) (by omega); omega
    have hl4 : (enc z).length ≤ 4 := by have := enc_length z; have := form_cases z; omega
    rw [hz] at HU2
    have ENC := Lib.hid (rencode_ok z hf w4)
    have SE : Sl .u8 (w4.alloc (.cells (Wr.bs (enc z)) 5)) (some ⟨w4.heap.size, 0, none⟩) (enc z).length (enc z).length (enc z) := Sl.new w4 (enc z) 5 .u8 (by unfold maxLen; omega)
    have kb := conv_bs SE
    have H5 := Lib.hid (ext_trans8 H4.out (Dd2.below_alloc w4 (.cells (Wr.bs (enc z)) 5)))
    have HT := Lib.hid (fun w' => tells_any HU _ _ _ _ HS.out rfl HIB.out (by simp) HU2.out w')
    clear SE hf hl4
    go_wp2_with fail
    refine ENC.out.mono ?_
    rintro e w5 ⟨rfl, rfl⟩
    go_wp2_with fail
    refine (HT.out _).mono ?_
    rintro e w6 ⟨rfl, b6⟩
    have H6 := Lib.hid (ext_trans8 H5.out b6)
    clear b6
    go_wp2_with fail
    refine (awake8 HU HQ w6).mono ?_
    rintro e w7 ⟨rfl, b7⟩
    have H7 := Lib.hid (ext_trans8 H6.out b7)
    clear b7
    go_wp2
    go_ret
    exact ⟨rfl, H7.out⟩
  · rw [if_neg hp] at HU2
    have HT := Lib.hid (fun w' => tells_any HU _ _ _ _ HS.out rfl HIB.out (by simp) HU2.out w')
    rcases (show x < 55296 ∨ (55296 ≤ x ∧ 56319 < x) ∨ (55296 ≤ x ∧ x ≤ 56319 ∧ y < 56320) ∨ (55296 ≤ x ∧ x ≤ 56319 ∧ 56320 ≤ y ∧ 57343 < y) by omega) with k1 | ⟨k1, k2⟩ | ⟨k1, k2, k3⟩ | ⟨k1, k2, k3, k4⟩
    all_goals
      clear hp
      go_wp2_with fail
      refine (HT.out _).mono ?_
      rintro e w6 ⟨rfl, b6⟩
      have H6 := Lib.hid (ext_trans8 H4.out b6)
      clear b6
      go_wp2_with fail
      refine (awake8 HU HQ w6).mono ?_
      rintro e w7 ⟨rfl, b7⟩
      have H7 := Lib.hid (ext_trans8 H6.out b7)
      clear b7
      go_wp2
      go_ret
      exact ⟨rfl, H7.out⟩
end Em
end Go.Proofs.Ytjkaccmhpilojaa
