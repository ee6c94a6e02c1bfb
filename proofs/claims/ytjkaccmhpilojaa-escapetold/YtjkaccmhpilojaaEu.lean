/-
  What the program's escaped, read and Unquote of layer 8 compute.
-/
import Derived.Test.YtjkaccmhpilojaaEt
import Derived.Test.YtjkaccmhpilojaaEf
namespace Go.Proofs.Ytjkaccmhpilojaa
set_option linter.unusedVariables false
set_option linter.unusedSimpArgs false
open Go.RowKit
namespace Em
open Wd We Utf Es Wi Wf Wr

/-- where a letter stands among those of escapes -/
def li (k : Int) : Int := Lib.indexByte [34, 92, 98, 102, 110, 114, 116, 47] k.toNat.toUInt8
theorem letters_any (k : Int) (w : World) : Calls Try.prog 39 #[.string ⟨#[34, 92, 98, 102, 110, 114, 116, 47]⟩, .int .u8 k] w fun e w' => e = .returned (.int .i64 (li k)) ∧ w = w' := by
  refine (Any.strings_IndexByte Sb.byte_lays _ k w).mono ?_
  rintro e w' ⟨rfl, rfl⟩
  exact ⟨rfl, rfl⟩
theorem li_no {k : Int} (h0 : 0 ≤ k) (h1 : k ≤ 255) : lg k < 0 → li k = -1 :=
  byte_all (P := fun k => lg k < 0 → li k = -1) (by decide +kernel) h0 h1
theorem lg_yes {k : Int} (h : 0 ≤ lg k) : k = 34 ∨ k = 92 ∨ k = 98 ∨ k = 102 ∨ k = 110 ∨ k = 114 ∨ k = 116 ∨ k = 47 := by
  unfold lg at h
  repeat' split at h
  all_goals omega

set_option maxRecDepth 100000 in
set_option maxHeartbeats 4000000 in
theorem escaped_any (A : Option Addr) (n c : Nat) (x : Int) (t : List Int) (w : World) (s : Sl .u8 w A n c (x :: t)) (hb : IsB (x :: t)) (hn : n ≤ 140737488351232) :
    Calls Try.prog 47 #[.slice A n c] w (EQ (x :: t) w) := by
  have hlen := s.len
  by_cases h2 : n < 2
  · have hE := Lib.hid (show esc (x :: t) = (0, 0, 3) by
      rcases t with _ | ⟨k, r⟩
      · rfl
      · simp only [List.length_cons] at hlen; omega)
    clear s hb hlen
    go_enter Try.func47, Try.ntmps47
    go_wp2
    go_ret3
    unfold EQ; rw [hE.out]; exact ⟨rfl, Below.refl _ _⟩
  obtain ⟨k, r, rfl⟩ : ∃ k r, t = k :: r := by
    rcases t with _ | ⟨k, r⟩
    · simp only [List.length_cons, List.length_nil] at hlen; omega
    · exact ⟨k, r, rfl⟩
  obtain ⟨b, off, rfl, hcell⟩ := s.row.2 (by simp)
  have c1 := hcell 1 k rfl
  have hkb : 0 ≤ k ∧ k ≤ 255 := hb k (by simp)
  by_cases hl : lg k < 0
  · by_cases hk : k = 117
    · subst hk
      have CON := Lib.hid (letters_any 117 w)
      have hli : li 117 = -1 := by decide +kernel
      rw [hli] at CON
      have W := Lib.hid (wide_any _ _ _ _ _ _ s hb hn)
      obtain ⟨e1, e2, e3, he⟩ : ∃ e1 e2 e3, esc (x :: 117 :: r) = (e1, e2, e3) := ⟨_, _, _, rfl⟩
      unfold EQ at W ⊢
      rw [he] at W ⊢
      dsimp only at W ⊢
      clear s hb hlen hcell he hli hl hkb
      go_enter Try.func47, Try.ntmps47
      go_wp2_with fail
      refine CON.out.mono ?_
      rintro e w' ⟨rfl, rfl⟩
      go_wp2_with fail
      refine W.out.mono ?_
      rintro e w' ⟨rfl, hbw⟩
      have HB := Lib.hid hbw
      clear hbw
      go_wp2_with fail
      go_ret3
      exact ⟨rfl, HB.out⟩
    · have hE := Lib.hid (show esc (x :: k :: r) = (0, 0, 80) by rw [esc_no x k r hk, if_pos hl])
      have CON := letters_any k w
      rw [li_no hkb.1 hkb.2 hl] at CON
      have HC := Lib.hid CON
      clear s hb hlen hcell hl hkb CON
      go_enter Try.func47, Try.ntmps47
      go_wp2_with fail
      refine HC.out.mono ?_
      rintro e w' ⟨rfl, rfl⟩
      go_wp2_with fail
      go_ret3
      unfold EQ; rw [hE.out]; exact ⟨rfl, Below.refl _ _⟩
  · clear hkb
    rcases lg_yes (k := k) (by omega) with rfl | rfl | rfl | rfl | rfl | rfl | rfl | rfl
    · have hE := Lib.hid (show esc (x :: 34 :: r) = (34, 2, 0) by rw [esc_no x 34 r (by decide)]; rfl)
      have CON := letters_any 34 w
      rw [show li 34 = 0 by decide +kernel] at CON
      have HC := Lib.hid CON
      clear s hb hlen hcell hl CON
      go_enter Try.func47, Try.ntmps47
      go_wp2_with fail
      refine HC.out.mono ?_
      rintro e w' ⟨rfl, rfl⟩
      go_wp2_with fail
      go_ret3
      unfold EQ; rw [hE.out]; exact ⟨by kernel_rfl, Below.refl _ _⟩
    · have hE := Lib.hid (show esc (x :: 92 :: r) = (92, 2, 0) by rw [esc_no x 92 r (by decide)]; rfl)
      have CON := letters_any 92 w
      rw [show li 92 = 1 by decide +kernel] at CON
      have HC := Lib.hid CON
      clear s hb hlen hcell hl CON
      go_enter Try.func47, Try.ntmps47
      go_wp2_with fail
      refine HC.out.mono ?_
      rintro e w' ⟨rfl, rfl⟩
      go_wp2_with fail
      go_ret3
      unfold EQ; rw [hE.out]; exact ⟨by kernel_rfl, Below.refl _ _⟩
    · have hE := Lib.hid (show esc (x :: 98 :: r) = (8, 2, 0) by rw [esc_no x 98 r (by decide)]; rfl)
      have CON := letters_any 98 w
      rw [show li 98 = 2 by decide +kernel] at CON
      have HC := Lib.hid CON
      clear s hb hlen hcell hl CON
      go_enter Try.func47, Try.ntmps47
      go_wp2_with fail
      refine HC.out.mono ?_
      rintro e w' ⟨rfl, rfl⟩
      go_wp2_with fail
      go_ret3
      unfold EQ; rw [hE.out]; exact ⟨by kernel_rfl, Below.refl _ _⟩
    · have hE := Lib.hid (show esc (x :: 102 :: r) = (12, 2, 0) by rw [esc_no x 102 r (by decide)]; rfl)
      have CON := letters_any 102 w
      rw [show li 102 = 3 by decide +kernel] at CON
      have HC := Lib.hid CON
      clear s hb hlen hcell hl CON
      go_enter Try.func47, Try.ntmps47
      go_wp2_with fail
      refine HC.out.mono ?_
      rintro e w' ⟨rfl, rfl⟩
      go_wp2_with fail
      go_ret3
      unfold EQ; rw [hE.out]; exact ⟨by kernel_rfl, Below.refl _ _⟩
    · have hE := Lib.hid (show esc (x :: 110 :: r) = (10, 2, 0) by rw [esc_no x 110 r (by decide)]; rfl)
      have CON := letters_any 110 w
      rw [show li 110 = 4 by decide +kernel] at CON
      have HC := Lib.hid CON
      clear s hb hlen hcell hl CON
      go_enter Try.func47, Try.ntmps47
      go_wp2_with fail
      refine HC.out.mono ?_
      rintro e w' ⟨rfl, rfl⟩
      go_wp2_with fail
      go_ret3
      unfold EQ; rw [hE.out]; exact ⟨by kernel_rfl, Below.refl _ _⟩
    · have hE := Lib.hid (show esc (x :: 114 :: r) = (13, 2, 0) by rw [esc_no x 114 r (by decide)]; rfl)
      have CON := letters_any 114 w
      rw [show li 114 = 5 by decide +kernel] at CON
      have HC := Lib.hid CON
      clear s hb hlen hcell hl CON
      go_enter Try.func47, Try.ntmps47
      go_wp2_with fail
      refine HC.out.mono ?_
      rintro e w' ⟨rfl, rfl⟩
      go_wp2_with fail
      go_ret3
      unfold EQ; rw [hE.out]; exact ⟨by kernel_rfl, Below.refl _ _⟩
    · have hE := Lib.hid (show esc (x :: 116 :: r) = (9, 2, 0) by rw [esc_no x 116 r (by decide)]; rfl)
      have CON := letters_any 116 w
      rw [show li 116 = 6 by decide +kernel] at CON
      have HC := Lib.hid CON
      clear s hb hlen hcell hl CON
      go_enter Try.func47, Try.ntmps47
      go_wp2_with fail
      refine HC.out.mono ?_
      rintro e w' ⟨rfl, rfl⟩
      go_wp2_with fail
      go_ret3
      unfold EQ; rw [hE.out]; exact ⟨by kernel_rfl, Below.refl _ _⟩
    · have hE := Lib.hid (show esc (x :: 47 :: r) = (47, 2, 0) by rw [esc_no x 47 r (by decide)]; rfl)
      have CON := letters_any 47 w
      rw [show li 47 = 7 by decide +kernel] at CON
      have HC := Lib.hid CON
      clear s hb hlen hcell hl CON
      go_enter Try.func47, Try.ntmps47
      go_wp2_with fail
      refine HC.out.mono ?_
      rintro e w' ⟨rfl, rfl⟩
      go_wp2_with fail
      go_ret3
      unfold EQ; rw [hE.out]; exact ⟨by kernel_rfl, Below.refl _ _⟩

/-- what the program's read answers -/
def RP (l : List Int) (w : World) (e : Ending) (w' : World) : Prop := Below w.heap.size w w' ∧
  ((∃ z, z ≠ 0 ∧ ub l = ([], 0, z) ∧ e = .returned (.tuple #[.slice none 0 0, .int .i64 0, .int .i64 z])) ∨
   (∃ p k A c, 1 ≤ k ∧ k ≤ l.length ∧ p.length ≤ k ∧ IsB p ∧ ub l = bnd p k (ub (l.drop k)) ∧ Sl .u8 w' A p.length c p ∧ e = .returned (.tuple #[.slice A p.length c, .int .i64 (k : Nat), .int .i64 0])))
theorem RP.bad {l : List Int} {w w' : World} {z : Int} (hb : Below w.heap.size w w') (hz : z ≠ 0) (h : ub l = ([], 0, z)) : RP l w (.returned (.tuple #[.slice none 0 0, .int .i64 0, .int .i64 z])) w' := ⟨hb, .inl ⟨z, hz, h, rfl⟩⟩
theorem RP.good {l p : List Int} {k : Nat} {A : Option Addr} {c : Nat} {w w' : World} (hb : Below w.heap.size w w') (h1 : 1 ≤ k) (h2 : k ≤ l.length) (h3 : p.length ≤ k) (h4 : IsB p) (h5 : ub l = bnd p k (ub (l.drop k))) (h6 : Sl .u8 w' A p.length c p) :
    RP l w (.returned (.tuple #[.slice A p.length c, .int .i64 (k : Nat), .int .i64 0])) w' := ⟨hb, .inr ⟨p, k, A, c, h1, h2, h3, h4, h5, h6, rfl⟩⟩

set_option maxRecDepth 100000 in
set_option maxHeartbeats 4000000 in
theorem read_any (A : Option Addr) (n c : Nat) (x : Int) (t : List Int) (w : World) (s : Sl .u8 w A n c (x :: t)) (hb : IsB (x :: t)) (hn : n ≤ 140737488351232) (h34 : x ≠ 34) :
    Calls Try.prog 34 #[.slice A n c] w (RP (x :: t) w) := by
  have hlen := s.len
  have hle := s.le
  have hmax : c ≤ 9223372036854775807 := by have := s.max; unfold maxLen at this; omega
  have hn1 : 1 ≤ n := by simp only [List.length_cons] at hlen; omega
  obtain ⟨b, off, rfl, hcell⟩ := s.row.2 (by simp)
  have c0 : w.cell? ⟨b, off, none⟩ = some (.int .u8 x) := hcell 0 x rfl
  have S := Lib.hid s
  have HB := Lib.hid hb
  rcases goes (x :: t) hb with ⟨hl, h'⟩ | ⟨r, hl, h'⟩ | ⟨y, r, hl, hy, h'⟩ | ⟨r, hl, he, h'⟩ | ⟨r, hl, he, h'⟩ | ⟨y, r, hl, g1, g2, g3, hd, h'⟩ | ⟨ch, r, hc, hl, h'⟩
  · cases hl
  · cases hl; exact absurd rfl h34
  · cases hl
    have R := Lib.hid (RP.bad (l := x :: t) (Below.refl w.heap.size w) (by decide) h')
    clear s hb hlen hcell h'
    go_enter Try.func34, Try.ntmps34
    go_wp2_with fail
    go_ret3
    exact R.out
  · cases hl
    have E := Lib.hid (escaped_any _ _ _ _ _ _ s hb hn)
    obtain ⟨hez, _⟩ := esc_bad he
    obtain ⟨z, hz⟩ : ∃ z, (esc (92 :: t)).2.2 = z := ⟨_, rfl⟩
    rw [hz] at he hez h'
    unfold EQ at E
    rw [hez] at E
    dsimp only at E
    have R := Lib.hid (fun (w' : World) (hw : Below w.heap.size w w') => RP.bad (l := 92 :: t) hw he h')
    clear s hb hlen hcell h' hez hz
    go_enter Try.func34, Try.ntmps34
    go_wp2_with fail
    refine E.out.mono ?_
    rintro e w' ⟨rfl, hbw⟩
    have R2 := Lib.hid (R.out w' hbw)
    clear hbw
    go_wp2_with fail
    go_ret3
    exact R2.out
  · cases hl
    have E := Lib.hid (escaped_any _ _ _ _ _ _ s hb hn)
    have hg := esc_good he
    obtain ⟨c1, m1, z, hz⟩ : ∃ c1 m1 z, esc (92 :: t) = (c1, m1, z) := ⟨_, _, _, rfl⟩
    unfold EQ at E
    rw [hz] at E he hg h'
    dsimp only at he hg h' E
    subst he
    obtain ⟨hf, h2m, hlt, hm⟩ := hg
    have R := Lib.hid (fun (w' : World) (hw : Below w.heap.size w w') => RP.good (l := 92 :: t) (w := w) (hw.trans ((below_alloc8 w' (.cells (Wr.bs (enc c1)) 5)).mono hw.size)) (show 1 ≤ m1 by omega) hm (show (enc c1).length ≤ m1 by omega) (enc_byte c1) h' (Sl.new w' (enc c1) 5 .u8 (by unfold maxLen; omega)))
    have ENC := Lib.hid (fun (w' : World) => encode_ok c1 hf w')
    clear s hb hlen hcell h' hz hf h2m hlt hm
    go_enter Try.func34, Try.ntmps34
    go_wp2_with fail
    refine E.out.mono ?_
    rintro e w' ⟨rfl, hbw⟩
    have R2 := Lib.hid (R.out w' hbw)
    clear hbw
    go_wp2_with fail
    refine (ENC.out w').mono ?_
    rintro e w'' ⟨rfl, rfl⟩
    go_wp2_with fail
    go_ret3
    exact R2.out
  · cases hl
    have hdb := dec_bad hb hd
    obtain ⟨z, hz⟩ : ∃ z, (dec (x :: t)).2.2 = z := ⟨_, rfl⟩
    rw [hz] at hd hdb
    have DEC := Lib.hid (Wi.decode_at _ _ _ 0 _ w s hb (show decAt (x :: t) 0 = (0, 0, z) by rw [Wi.decAt0 (by simp), hdb]))
    have R := Lib.hid (RP.bad (l := x :: t) (Below.refl w.heap.size w) (by decide) h')
    have k1 : ¬ x < 32 := by omega
    clear s hb hlen hcell h' hdb hz
    go_enter Try.func34, Try.ntmps34
    go_wp2_with fail
    refine DEC.out.mono ?_
    rintro e w' ⟨rfl, rfl⟩
    go_wp2_with fail
    go_ret3
    exact R.out
  · obtain ⟨hcf, hc1, hc2, hc3⟩ := hc
    obtain ⟨y, u, heq, hy⟩ := enc_head hcf
    have hxy : x = y := by rw [heq] at hl; exact (List.cons.inj hl).1
    have k1 : ¬ x < 32 := by omega
    have k2 : ¬ x = 92 := by omega
    obtain ⟨k, hk⟩ : ∃ k, (enc ch).length = k := ⟨_, rfl⟩
    have hk1 : 1 ≤ k := by rw [← hk]; exact List.length_pos_iff.2 (enc_ne hcf)
    have hfk : form ch = (k : Int) := by rw [← enc_length ch, hk]
    have hkn : k ≤ n := by rw [← hlen, hl, List.length_append]; omega
    have hdr : (x :: t).drop k = r := by rw [hl, ← hk, List.drop_left]
    have htk : (x :: t).take k = enc ch := by rw [hl, ← hk, List.take_left]
    have DEC := Lib.hid (Wi.decode_at _ _ _ 0 _ w s hb (show decAt (x :: t) 0 = (ch, (k : Int), 0) by rw [Wi.decAt0 (by simp), hl, dec_enc hcf, hfk]))
    have hs := s.cut0 k hkn
    rw [htk] at hs
    subst hk
    have R := Lib.hid (RP.good (l := x :: t) (Below.refl w.heap.size w) hk1 (by rw [hlen]; exact hkn) (Nat.le_refl _) (enc_byte ch) (by rw [h', hdr]) hs)
    generalize (enc ch).length = k at *
    have m0 : (0 : Int) ≤ (k : Int) := by omega
    have m1 : (k : Int) ≤ (c : Int) := by omega
    clear s hb hlen hcell h' hdr htk hfk hl heq hy hxy hs hc1 hc2 hc3 hcf hk1
    go_enter Try.func34, Try.ntmps34
    go_wp2_with fail
    refine DEC.out.mono ?_
    rintro e w' ⟨rfl, rfl⟩
    go_wp2_with fail
    go_ret3
    exact R.out
end Em
end Go.Proofs.Ytjkaccmhpilojaa
