/-
  What the document's answers of layer 2 compute, with their answers named: Of16, Of, Offset.
-/
import Derived.Test.YtfpgnnjkojpmdaaUr
namespace Go.Proofs.Ytfpgnnjkojpmdaa
set_option linter.unusedVariables false
open Go.RowKit
namespace Uw
open Utf Wd Wr We Wi Wf

theorem bad_split {l : List Int} (hb : IsB l) {x y : Nat} {e : Int} (h : chk l = (x, y, e)) (he : e ≠ 0) : ∃ cs r, Chars cs ∧ l = encs cs ++ r ∧ r ≠ [] ∧ dec r = (0, 0, e) := by
  obtain ⟨cs, r, hc, hl, hr⟩ := split_txt l.length l hb (Nat.le_refl _)
  rcases hr with ⟨_, hk⟩ | ⟨hr, e', _, hd, hk⟩
  · rw [h] at hk; simp only [Prod.mk.injEq] at hk; exact absurd hk.2.2 he
  · rw [h] at hk; simp only [Prod.mk.injEq] at hk; rw [← hk.2.2] at hd; exact ⟨cs, r, hc, hl, hr, hd⟩

theorem rof16_txt (A : Option Addr) (n cp : Nat) (cs : List Int) (w : World) (hc : Chars cs) (s : Sl .u8 w A n cp (encs cs)) (hn : n ≤ 70368744177664) :
    Calls Try.prog 64 #[.slice A n cp] w fun e w' => ∃ v, e = .returned (.tuple #[v, .int .i64 0]) ∧ Own .u16 108 w' w.heap.size v (uns cs) ∧ Below w.heap.size w w' := by
  refine (rof16_any A n cp cs [] w hc (by rw [List.append_nil]; exact s) (fun x h => by cases h) 0 (fun h => absurd rfl h) hn).mono ?_
  rintro e w' ⟨hb, ⟨_, v, he, ho⟩ | ⟨h, _⟩⟩
  · exact ⟨v, he, ho, hb⟩
  · exact absurd rfl h
theorem rof16_bad (A : Option Addr) (n cp : Nat) (l : List Int) (w : World) (s : Sl .u8 w A n cp l) (hb : IsB l) {x y : Nat} {e : Int} (h : chk l = (x, y, e)) (he : e ≠ 0) (hn : n ≤ 70368744177664) :
    Calls Try.prog 64 #[.slice A n cp] w fun r w' => r = .returned (.tuple #[.slice none 0 0, .int .i64 e]) ∧ Below w.heap.size w w' := by
  obtain ⟨cs, r, hc, rfl, hr, hd⟩ := bad_split hb h he
  refine (rof16_any A n cp cs r w hc s (fun x hx => hb x (List.mem_append_right _ hx)) e (fun _ => ⟨he, hd⟩) hn).mono ?_
  rintro e w' ⟨hb, ⟨h, _⟩ | ⟨_, h⟩⟩
  · exact absurd h hr
  · exact ⟨h, hb⟩

set_option maxHeartbeats 800000 in
theorem rof_txt (A : Option Addr) (n cp : Nat) (cs : List Int) (w : World) (hc : Chars cs) (s : Sl .u8 w A n cp (encs cs)) (hn : n ≤ 70368744177664) :
    Calls Try.prog 49 #[.slice A n cp] w fun e w' => e = .returned (.tuple #[.int .i64 (uns cs).length, .int .i64 0]) ∧ Below w.heap.size w w' := by
  have S := Lib.hid s
  have HC := Lib.hid hc
  clear s hc
  go_enter Try.func49, Try.ntmps49
  go_wp2_with fail
  refine (rof16_txt _ _ _ _ _ HC.out S.out hn).mono ?_
  rintro e w1 ⟨v1, rfl, o1, hb1⟩
  obtain ⟨A1, c1, rfl, t1, _⟩ := o1.sl
  go_wp2
  go_ret2
  exact ⟨rfl, hb1⟩
set_option maxHeartbeats 800000 in
theorem rof_bad (A : Option Addr) (n cp : Nat) (l : List Int) (w : World) (s : Sl .u8 w A n cp l) (hb : IsB l) {x y : Nat} {e : Int} (h : chk l = (x, y, e)) (he : e ≠ 0) (hn : n ≤ 70368744177664) :
    Calls Try.prog 49 #[.slice A n cp] w fun r w' => r = .returned (.tuple #[.int .i64 0, .int .i64 e]) ∧ Below w.heap.size w w' := by
  have S := Lib.hid s
  have H := Lib.hid h
  have HE := Lib.hid he
  clear s h he
  go_enter Try.func49, Try.ntmps49
  go_wp2_with fail
  refine (rof16_bad _ _ _ _ _ S.out hb H.out HE.out hn).mono ?_
  rintro e w1 ⟨rfl, hb1⟩
  go_wp2
  go_ret2
  exact ⟨rfl, hb1⟩

set_option maxHeartbeats 1600000 in
theorem roffset_txt (A : Option Addr) (n cp : Nat) (cs : List Int) (w : World) (hc : Chars cs) (s : Sl .u8 w A n cp (encs cs)) (most : Nat) (hm : most ≤ 9223372036854775807) :
    Calls Try.prog 44 #[.slice A n cp, .int .i64 most] w fun e w' => e = .returned (.tuple #[.int .i64 (ends cs most).1, .int .i64 0]) ∧ Below w.heap.size w w' := by
  have hmax : n ≤ 9223372036854775807 := by have := s.max; have := s.le; unfold maxLen at *; omega
  have hlen := s.len
  have S := Lib.hid s
  have HC := Lib.hid hc
  have HL := Lib.hid hlen
  have K := Lib.hid (chk_encs hc)
  have HB0 := Lib.hid (encs_byte cs)
  have q : decide ((most : Int) < 0) = false := by simp
  clear s hc hlen
  go_enter Try.func44, Try.ntmps44
  go_wp2_with fail
  refine (rcheck_at _ _ _ _ _ S.out HB0.out K.out).mono ?_
  rintro r w1 ⟨rfl, hb1⟩
  go_wp2_with fail
  go_loopw [8, 9, 10] (fun pl seen at_ wr => ∃ pre post, cs = pre ++ post ∧ at_ = .int .i64 (encs pre).length ∧ seen = .int .i64 (uns pre).length ∧ pl = .int .i64 (ends pre most).1 ∧ Below w.heap.size w wr) (fun _ _ at_ _ => n - (intOf at_).toNat)
  case atStart => exact ⟨[], cs, rfl, rfl, rfl, rfl, hb1⟩
  case round =>
    obtain ⟨pre, post, hcs, rfl, rfl, rfl, hb⟩ := hrel
    have HB := Lib.hid hb
    have HCS := Lib.hid hcs
    have S' := Lib.hid (S.out.below HB.out)
    clear hb hcs
    cases post with
    | nil =>
      have hpc : pre = cs := by have := HCS.out; rw [List.append_nil] at this; exact this.symm
      have hx : (encs pre).length = n := by rw [hpc, ← HL.out]
      rw [hx]
      go_wp2
      go_ret2
      exact ⟨by rw [hpc]; rfl, HB.out⟩
    | cons c post =>
      have hf : Utf.form c ≠ 0 := HC.out c (by rw [HCS.out]; simp)
      have HF := Lib.hid hf
      have HD := Lib.hid (at_here0 hf HCS.out)
      have hle : (encs pre).length + (enc c).length ≤ n := by
        rw [← HL.out, HCS.out, encs_append, encs_cons, List.length_append, List.length_append]; omega
      have hp : 0 < (enc c).length := List.length_pos_iff.2 (enc_ne hf)
      have hue := us_enc hf
      have hun : (uns pre).length ≤ (encs pre).length := by
        have h1 := HC.out
        rw [HCS.out] at h1
        exact (uns_len h1.left).1
      have X1 := Lib.hid (encs_snoc pre c)
      have X2 := Lib.hid (uns_snoc pre c)
      have X3 := Lib.hid (ends_snoc pre c most)
      have hP := (ends_le pre most).1
      clear hf
      generalize hg1 : (encs pre).length = i at *
      generalize hg2 : (uns pre).length = m at *
      generalize hg3 : (enc c).length = z at *
      generalize hg4 : (ends pre most).1 = p at *
      have G1 := Lib.hid hg1
      have G2 := Lib.hid hg2
      have G3 := Lib.hid hg3
      clear hg1 hg2 hg3 hg4
      have i1 : (i : Int) < (n : Int) := by omega
      have q5 : m + (us c).length ≤ most ∨ ¬ (m + (us c).length ≤ most) := by omega
      rcases q5 with q5 | q5
      · have q6 : decide ((m : Int) + ((us c).length : Int) ≤ (most : Int)) = true := by simp; omega
        rw [if_pos q5] at X3
        go_wp2_with fail
        refine (rdecode_at _ _ _ _ _ _ S'.out HB0.out HD.out).mono ?_
        rintro e w2 ⟨rfl, hb2⟩
        go_wp2_with fail
        refine (runits_any _ HF.out _).mono ?_
        rintro e w3 ⟨rfl, rfl⟩
        have HB2 := Lib.hid (ext_trans (ext_trans HB.out hb2) (below_alloc w2 (.cells ((us c).map (Value.int .u16)).toArray 108)))
        clear hb2
        generalize hg4 : (us c).length = y at *
        have G4 := Lib.hid hg4
        clear hg4
        go_wp2
        go_roundw
        case rel => exact ⟨pre ++ [c], post, by rw [HCS.out]; simp, by rw [X1.out, List.length_append, G1.out, G3.out]; go_num, by rw [X2.out, List.length_append, G2.out, G4.out]; go_num, by rw [X3.out]; go_num, HB2.out⟩
        case measure => simp [intOf]; omega
      · have q6 : decide ((m : Int) + ((us c).length : Int) ≤ (most : Int)) = false := by simp; omega
        rw [if_neg q5] at X3
        go_wp2_with fail
        refine (rdecode_at _ _ _ _ _ _ S'.out HB0.out HD.out).mono ?_
        rintro e w2 ⟨rfl, hb2⟩
        go_wp2_with fail
        refine (runits_any _ HF.out _).mono ?_
        rintro e w3 ⟨rfl, rfl⟩
        have HB2 := Lib.hid (ext_trans (ext_trans HB.out hb2) (below_alloc w2 (.cells ((us c).map (Value.int .u16)).toArray 108)))
        clear hb2
        generalize hg4 : (us c).length = y at *
        have G4 := Lib.hid hg4
        clear hg4
        go_wp2
        go_roundw
        case rel => exact ⟨pre ++ [c], post, by rw [HCS.out]; simp, by rw [X1.out, List.length_append, G1.out, G3.out]; go_num, by rw [X2.out, List.length_append, G2.out, G4.out]; go_num, by rw [X3.out], HB2.out⟩
        case measure => simp [intOf]; omega

set_option maxHeartbeats 800000 in
theorem roffset_neg (A : Option Addr) (n cp : Nat) (cs : List Int) (w : World) (hc : Chars cs) (s : Sl .u8 w A n cp (encs cs)) (most : Int) (hm : most < 0) :
    Calls Try.prog 44 #[.slice A n cp, .int .i64 most] w fun e w' => e = .returned (.tuple #[.int .i64 0, .int .i64 9]) ∧ Below w.heap.size w w' := by
  have S := Lib.hid s
  have K := Lib.hid (chk_encs hc)
  have q : decide ((most : Int) < 0) = true := by simpa using hm
  clear s hc hm
  go_enter Try.func44, Try.ntmps44
  go_wp2_with fail
  refine (rcheck_at _ _ _ _ _ S.out (encs_byte cs) K.out).mono ?_
  rintro r w1 ⟨rfl, hb1⟩
  go_wp2
  go_ret2
  exact ⟨rfl, hb1⟩

set_option maxHeartbeats 800000 in
theorem roffset_bad (A : Option Addr) (n cp : Nat) (l : List Int) (w : World) (s : Sl .u8 w A n cp l) (hb : IsB l) (most : Int) {x y : Nat} {e : Int} (h : chk l = (x, y, e)) (he : e ≠ 0) :
    Calls Try.prog 44 #[.slice A n cp, .int .i64 most] w fun r w' => r = .returned (.tuple #[.int .i64 0, .int .i64 e]) ∧ Below w.heap.size w w' := by
  have he' : (e != 0) = true := by simpa using he
  have S := Lib.hid s
  have K := Lib.hid h
  clear s h he
  go_enter Try.func44, Try.ntmps44
  go_wp2_with fail
  refine (rcheck_at _ _ _ _ _ S.out hb K.out).mono ?_
  rintro r w1 ⟨rfl, hb1⟩
  go_wp2
  go_ret2
  exact ⟨rfl, hb1⟩
end Uw
end Go.Proofs.Ytfpgnnjkojpmdaa
