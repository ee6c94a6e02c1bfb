/-
  What the document's answers Decode, Check, Count of layer 1 compute.
-/
import Derived.Test.YtjkaccmhpilojaaWb
namespace Go.Proofs.Ytjkaccmhpilojaa
set_option linter.unusedVariables false
set_option linter.unusedSimpArgs false
open Go.RowKit
namespace Wf
open Utf Wd Wr We Wi

theorem jn_enc {c : Int} (h : Utf.form c ≠ 0) (t : List Int) : jn (enc c ++ t) (enc c).length = c := by
  rcases form_cases c with f | f | f | f | f
  · exact absurd f.1 h
  · rw [enc1 f.1]; simp [jn, cv, md]; omega
  · rw [enc2 f.1]; simp [jn, cv, md]; omega
  · rw [enc3 f.1]; simp [jn, cv, md]; omega
  · rw [enc4 f.1]; simp [jn, cv, md]; omega

/-- what was looked for at m bytes is there -/
theorem hit {r : List Int} {m : Nat} {c : Int} (hf : Utf.form c ≠ 0) (h : enc c = r.take m) (hm : m ≤ r.length) : dec r = (c, (m : Int), 0) := by
  have hl : (enc c).length = m := by rw [h, List.length_take]; omega
  have e : r = enc c ++ r.drop m := by rw [h, List.take_append_drop]
  rw [e, dec_enc hf, ← enc_length, hl]
/-- where nothing was found at m bytes, the character has another length -/
theorem miss {r : List Int} {m : Nat} (hb : IsB r) (h : ¬ (Utf.form (jn r m) ≠ 0 ∧ enc (jn r m) = r.take m)) (h0 : (dec r).2.2 = 0) : (dec r).2.1 ≠ (m : Int) := by
  intro hm
  obtain ⟨c, t, hc, hl, e⟩ := dec_good hb h0
  rw [e] at hm
  simp only at hm
  have hlen := enc_length c
  have hm' : (enc c).length = m := by omega
  have hj : jn r m = c := by rw [hl, ← hm']; exact jn_enc hc t
  exact h ⟨by rw [hj]; exact hc, by rw [hj, hl, ← hm', List.take_left]⟩
theorem good_le {r : List Int} (hb : IsB r) (h0 : (dec r).2.2 = 0) : 1 ≤ (dec r).2.1 ∧ (dec r).2.1 ≤ 4 ∧ (dec r).2.1 ≤ r.length := by
  obtain ⟨c, t, hc, hl, e⟩ := dec_good hb h0
  have hlen := enc_length c
  have := form_cases c
  rw [e]
  have h5 := congrArg List.length hl
  rw [List.length_append] at h5
  simp only
  omega
theorem part_lt {r : List Int} (hb : IsB r) (h0 : (dec r).2.2 = 3) : r.length < 4 := by
  have := nd_part hb h0; omega
theorem bad_is {r : List Int} (hb : IsB r) (hne : r ≠ []) (h0 : (dec r).2.2 ≠ 0) : ((dec r).2.2 = 3 ∧ dec r = (0, 0, 3)) ∨ ((dec r).2.2 ≠ 3 ∧ dec r = (0, 0, 10)) := by
  rcases way r hb with ⟨h, _⟩ | ⟨c, _, _, _, e⟩ | ⟨_, _, _, _, _, _, e⟩ | e
  · exact absurd h hne
  · rw [e] at h0; exact absurd rfl h0
  · exact .inl ⟨by rw [e], e⟩
  · exact .inr ⟨by rw [e]; decide, e⟩

set_option maxRecDepth 100000 in
set_option maxHeartbeats 1600000 in
theorem rdecode_in (b off n c i : Nat) (l : List Int) (w : World) (s : Sl .u8 w (some ⟨b, off, none⟩) n c l) (hb : IsB l) (hin : i < n) {x y e : Int} (hd : dec (l.drop i) = (x, y, e)) :
    Calls Try.prog 30 #[.slice (some ⟨b, off, none⟩) n c, .int .i64 i] w fun r w' => r = .returned (.tuple #[.int .i64 x, .int .i64 y, .int .i64 e]) ∧ Below w.heap.size w w' := by
  have hle := s.le
  have hmax : c ≤ 9223372036854775807 := by have := s.max; unfold maxLen at this; omega
  have hcut := s.cutS i (n - i) (by omega)
  have hr : (l.drop i).take (n - i) = l.drop i := List.take_of_length_le (by rw [List.length_drop, s.len]; exact Nat.le_refl _)
  rw [hr] at hcut
  have hlen : (l.drop i).length = n - i := by rw [List.length_drop, s.len]
  have hbr := hb.drop i
  have hne : l.drop i ≠ [] := by intro e; rw [e] at hlen; simp at hlen; omega
  generalize l.drop i = r at *
  have S := Lib.hid hcut
  have HB := Lib.hid hbr
  have HD := Lib.hid hd
  have HL := Lib.hid hlen
  have HNE := Lib.hid hne
  clear s hb hr hcut hbr hd hlen hne
  have d1 : decide ((i : Int) < 0) = false := by simp
  have d2 : decide (n ≤ i) = false := by simp; omega
  have q3 : ¬ c = i := by omega
  obtain ⟨z, hz⟩ : ∃ z, z = n - i := ⟨_, rfl⟩
  have hz1 : 1 ≤ z := by omega
  have hz2 : z ≤ 9223372036854775807 := by omega
  have hzc : z ≤ c - i := by omega
  go_enter Try.func30, Try.ntmps30
  go_wp2_with fail
  rw [← hz] at S HL ⊢
  clear hz
  go_loopw [4, 5, 6, 8] (fun v4 v5 v6 nn wr => ∃ m : Nat, 1 ≤ m ∧ m ≤ 5 ∧ m ≤ z + 1 ∧ nn = .int .i64 m ∧ Below w.heap.size w wr ∧ ((dec r).2.2 = 0 → (m : Int) ≤ (dec r).2.1)) (fun _ _ _ nn _ => 5 - (intOf nn).toNat)
  case atStart => exact ⟨1, by omega, by omega, by omega, rfl, Below.refl _ _, fun h => (good_le HB.out h).1⟩
  case round =>
    obtain ⟨m, hm1, hm5, hmz, rfl, hbel, hno⟩ := hrel
    have HBE := Lib.hid hbel
    have HNO := Lib.hid hno
    clear hbel hno
    by_cases hm : m ≤ 4 ∧ m ≤ z
    · obtain ⟨hm4, hmz'⟩ := hm
      have d3 : decide ((m : Int) ≤ 4) = true := by simp; omega
      have d4 : decide (m ≤ z) = true := by simpa using hmz'
      have d6 : m ≤ c - i := by omega
      go_wp2_with fail
      refine (joined_any _ _ _ m r _ (S.out.below HBE.out).row HB.out hm1 hm4 hmz').mono ?_
      rintro e w2 ⟨rfl, rfl⟩
      have MI := Lib.hid (miss (m := m) HB.out)
      have HI := Lib.hid (fun (hf : Utf.form (jn r m) ≠ 0) (h : enc (jn r m) = r.take m) => hit hf h (by rw [HL.out]; exact hmz'))
      generalize jn r m = C at *
      by_cases hf : Utf.form C = 0
      · have HF := Lib.hid hf
        clear hf
        go_wp2_with fail
        refine (rencode_no C HF.out _).mono ?_
        rintro e w2 ⟨rfl, rfl⟩
        go_wp2
        go_roundw
        case rel => exact ⟨m + 1, by omega, by omega, by omega, by go_num, HBE.out, fun h => by
          have h1 := HNO.out h
          have h2 := MI.out (fun k => k.1 HF.out) h
          omega⟩
        case measure => simp [intOf]; omega
      · have HF := Lib.hid hf
        have ec4 : (enc C).length ≤ 4 := by have := enc_length C; have := form_cases C; omega
        clear hf
        go_wp2_with fail
        refine (rencode_ok C HF.out _).mono ?_
        rintro e w2 ⟨rfl, rfl⟩
        have SE := Lib.hid (Row.new wr (enc C) 5 .u8)
        go_wp2_with fail
        refine (eq_any _ _ _ _ _ _ (enc C) (r.take m) _ SE.out (((S.out.below HBE.out).alloc _).cut0 m hmz').row (by unfold maxLen; omega)).mono ?_
        rintro e w3 ⟨rfl, q, rfl⟩
        have HBE2 := Lib.hid (below_drewN (ext_trans HBE.out (below_alloc wr (.cells (bs (enc C)) 5))) q)
        cases hd : decide (enc C = r.take m)
        · have HDD := Lib.hid hd
          clear hd
          go_wp2
          go_roundw
          case rel => exact ⟨m + 1, by omega, by omega, by omega, by go_num, HBE2.out, fun h => by
            have h1 := HNO.out h
            have h2 := MI.out (fun k => (decide_eq_false_iff_not.1 HDD.out) k.2) h
            omega⟩
          case measure => simp [intOf]; omega
        · have hh := HI.out HF.out (decide_eq_true_iff.1 hd)
          rw [HD.out] at hh
          simp only [Prod.mk.injEq] at hh
          have HH := Lib.hid hh
          clear hd hh
          go_wp2
          go_ret3
          exact ⟨by rw [HH.out.1, HH.out.2.1, HH.out.2.2]; rfl, HBE2.out⟩
    · have hbad : (dec r).2.2 ≠ 0 := by
        intro h
        have h1 := HNO.out h
        have h2 := good_le HB.out h
        rw [HL.out] at h2
        omega
      have hcase := bad_is HB.out HNE.out hbad
      have hlt := part_lt HB.out
      rw [HL.out] at hlt
      have HCA := Lib.hid hcase
      have HLT := Lib.hid hlt
      have hex : decide ((m : Int) ≤ 4) = false ∨ (decide ((m : Int) ≤ 4) = true ∧ decide (m ≤ z) = false) := by
        by_cases g : (m : Int) ≤ 4
        · right; exact ⟨by simpa using g, by simp; omega⟩
        · left; simpa using g
      clear hbad hcase hlt hm
      by_cases hz4 : (z : Int) < 4
      · have d5 : decide ((z : Int) < 4) = true := by simpa using hz4
        rcases hex with q1 | ⟨q1, q2⟩
        all_goals
          go_wp2_with fail
          refine (begins_walk _ _ _ r _ (S.out.below HBE.out) HB.out hz1 (by omega)).mono ?_
          rintro e w2 ⟨rfl, hb2⟩
          rcases HCA.out with ⟨h3, h4⟩ | ⟨h3, h4⟩
          · rw [decide_eq_true h3]
            rw [HD.out] at h4
            simp only [Prod.mk.injEq] at h4
            have H4 := Lib.hid h4
            clear h3 h4
            go_wp2
            go_ret3
            exact ⟨by rw [H4.out.1, H4.out.2.1, H4.out.2.2]; rfl, ext_trans HBE.out hb2⟩
          · rw [decide_eq_false h3]
            rw [HD.out] at h4
            simp only [Prod.mk.injEq] at h4
            have H4 := Lib.hid h4
            clear h3 h4
            go_wp2
            go_ret3
            exact ⟨by rw [H4.out.1, H4.out.2.1, H4.out.2.2]; rfl, ext_trans HBE.out hb2⟩
      · have d5 : decide ((z : Int) < 4) = false := by simpa using hz4
        rcases HCA.out with ⟨h3, h4⟩ | ⟨h3, h4⟩
        · have := HLT.out h3; omega
        · rw [HD.out] at h4
          simp only [Prod.mk.injEq] at h4
          have H4 := Lib.hid h4
          clear h3 h4
          rcases hex with q1 | ⟨q1, q2⟩
          all_goals
            go_wp2
            go_ret3
            exact ⟨by rw [H4.out.1, H4.out.2.1, H4.out.2.2]; rfl, HBE.out⟩

set_option maxHeartbeats 800000 in
theorem rdecode_at (A : Option Addr) (n c : Nat) (i : Int) (l : List Int) (w : World) (s : Sl .u8 w A n c l) (hb : IsB l) {x y e : Int} (hd : decAt l i = (x, y, e)) :
    Calls Try.prog 30 #[.slice A n c, .int .i64 i] w fun r w' => r = .returned (.tuple #[.int .i64 x, .int .i64 y, .int .i64 e]) ∧ Below w.heap.size w w' := by
  by_cases hi : i < 0 ∨ (n : Int) ≤ i
  · rw [decAt_out (by rw [s.len]; exact hi)] at hd
    simp only [Prod.mk.injEq] at hd
    obtain ⟨rfl, rfl, rfl⟩ := hd
    rcases hi with h | h
    · have d1 : decide (i < 0) = true := by simpa using h
      go_enter Try.func30, Try.ntmps30
      go_wp2_with fail
      go_ret3
      exact ⟨rfl, Below.refl _ _⟩
    · have d1 : decide (i < 0) = false := by simp; omega
      have d2 : decide ((n : Int) ≤ i) = true := by simpa using h
      go_enter Try.func30, Try.ntmps30
      go_wp2_with fail
      go_ret3
      exact ⟨rfl, Below.refl _ _⟩
  · obtain ⟨j, rfl⟩ := Int.eq_ofNat_of_zero_le (a := i) (by omega)
    have hj : j < n := by omega
    obtain ⟨b, off, _, rfl, _, _, _⟩ := s.row.look hj
    rw [decAt_in (by rw [s.len]; exact hj)] at hd
    exact rdecode_in b off n c j l w s hb hj hd

set_option maxHeartbeats 800000 in
theorem rcheck_at (A : Option Addr) (n cp : Nat) (l : List Int) (w : World) (s : Sl .u8 w A n cp l) (hb : IsB l) {x y : Nat} {e : Int} (h : chk l = (x, y, e)) :
    Calls Try.prog 19 #[.slice A n cp] w fun r w' => r = .returned (.tuple #[.int .i64 x, .int .i64 e]) ∧ Below w.heap.size w w' := by
  have hmax : n ≤ 9223372036854775807 := by have := s.max; have := s.le; unfold maxLen at *; omega
  have hlen := s.len
  have S := Lib.hid s
  have HB := Lib.hid hb
  have HL := Lib.hid hlen
  have HH := Lib.hid h
  clear s hb hlen h
  go_enter Try.func19, Try.ntmps19
  go_wp2
  go_loopw [4] (fun at_ wr => ∃ i m : Nat, i ≤ n ∧ at_ = .int .i64 i ∧ Below w.heap.size w wr ∧ chk l = (i + (chk (l.drop i)).1, m + (chk (l.drop i)).2.1, (chk (l.drop i)).2.2)) (fun at_ _ => n - (intOf at_).toNat)
  case atStart => exact ⟨0, 0, Nat.zero_le _, rfl, Below.refl _ _, by simp⟩
  case round =>
    obtain ⟨i, m, h2, rfl, hbl, hc⟩ := hrel
    have HC := Lib.hid hc
    have HBL := Lib.hid hbl
    clear hc hbl
    by_cases hi : i < n
    · rcases chk_here HB.out (i := i) (by rw [HL.out]; exact hi) with ⟨c, hf, hd, hle, hk⟩ | ⟨e', he, hd, hk⟩
      · rw [HL.out] at hle
        have hp : 0 < (enc c).length := List.length_pos_iff.2 (enc_ne hf)
        have HD := Lib.hid hd
        have HK := Lib.hid hk
        clear hd hk hf
        generalize (enc c).length = z at *
        go_wp2_with fail
        refine (rdecode_at _ _ _ _ l _ (S.out.below HBL.out) HB.out HD.out).mono ?_
        rintro e w' ⟨rfl, hb2⟩
        go_wp2
        go_roundw
        case rel => exact ⟨i + z, m + 1, by omega, by go_num, ext_trans HBL.out hb2, by rw [HC.out, HK.out]; simp only [Prod.mk.injEq, and_true]; omega⟩
        case measure => simp [intOf]; omega
      · have he' : (e' != 0) = true := by simpa using he
        have HD := Lib.hid hd
        have HK := Lib.hid hk
        clear hd hk he
        go_wp2_with fail
        refine (rdecode_at _ _ _ _ l _ (S.out.below HBL.out) HB.out HD.out).mono ?_
        rintro r w' ⟨rfl, hb2⟩
        go_wp2
        go_ret2
        have h5 := HC.out
        rw [HK.out, HH.out] at h5
        simp only [Prod.mk.injEq, Nat.add_zero] at h5
        exact ⟨by rw [h5.1, h5.2.2]; rfl, ext_trans HBL.out hb2⟩
    · obtain rfl : i = n := by omega
      go_wp2
      go_ret2
      have hz : l.drop i = [] := List.drop_eq_nil_of_le (by rw [HL.out]; exact Nat.le_refl _)
      have h5 := HC.out
      rw [hz, chk_nil, HH.out] at h5
      simp only [Prod.mk.injEq, Nat.add_zero] at h5
      exact ⟨by rw [h5.1, h5.2.2]; rfl, HBL.out⟩

end Wf
end Go.Proofs.Ytjkaccmhpilojaa
