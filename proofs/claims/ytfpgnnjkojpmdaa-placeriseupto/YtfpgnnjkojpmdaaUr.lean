/-
  What the document's answers of layer 2 compute: units, Of16, Of, Offset.
-/
import Derived.Test.YtfpgnnjkojpmdaaUl
import Derived.Test.YtfpgnnjkojpmdaaWq
namespace Go.Proofs.Ytfpgnnjkojpmdaa
set_option linter.unusedVariables false
open Go.RowKit
namespace Uw
open Utf Wd Wr We Wi Wf

set_option maxHeartbeats 400000 in
theorem runits_any (c : Int) (h : Utf.form c ≠ 0) (w : World) : Calls Try.prog 58 #[.int .i64 c] w fun e w' =>
    e = .returned (.slice (some ⟨w.heap.size, 0, none⟩) (us c).length (us c).length) ∧ w.alloc (.cells ((us c).map (Value.int .u16)).toArray 108) = w' := by
  have hf := form_cases c
  by_cases g : c < 65536
  · rw [us1 g]
    have c0 : 0 ≤ c := by omega
    clear hf h
    go_enter Try.func58, Try.ntmps58
    go_wp2
    go_ret
    exact ⟨rfl, rfl⟩
  · rw [us2 g]
    have c0 : 65536 ≤ c := by omega
    have c1 : c ≤ 1114111 := by omega
    clear hf h g
    go_enter Try.func58, Try.ntmps58
    go_wp2
    go_ret
    exact ⟨rfl, rfl⟩

/-- where the document's Of16 ends: at the text's end, or at what is no character -/
def Of16To (w : World) (cs r : List Int) (er : Int) (e : Ending) (w' : World) : Prop :=
  Below w.heap.size w w' ∧ ((r = [] ∧ ∃ v, e = .returned (.tuple #[v, .int .i64 0]) ∧ Own .u16 108 w' w.heap.size v (uns cs)) ∨
    (r ≠ [] ∧ e = .returned (.tuple #[.slice none 0 0, .int .i64 er])))

set_option maxHeartbeats 1600000 in
theorem rof16_any (A : Option Addr) (n cp : Nat) (cs r : List Int) (w : World) (hc : Chars cs) (s : Sl .u8 w A n cp (encs cs ++ r)) (hr : IsB r) (er : Int) (her : r ≠ [] → er ≠ 0 ∧ dec r = (0, 0, er)) (hn : n ≤ 70368744177664) :
    Calls Try.prog 64 #[.slice A n cp] w (Of16To w cs r er) := by
  obtain ⟨i0, hi, hz0, hz1, hz2⟩ := info_parts u16_info
  have hlen := s.len
  rw [List.length_append] at hlen
  have S := Lib.hid s
  have HC := Lib.hid hc
  have HL := Lib.hid hlen
  have HR := Lib.hid her
  have HB0 := Lib.hid (IsB.append (encs_byte cs) hr)
  clear s hc hlen her hr
  go_enter Try.func64, Try.ntmps64
  go_wp2_with fail
  go_loopw [4, 5] (fun v at_ wr => ∃ pre post, cs = pre ++ post ∧ at_ = .int .i64 (encs pre).length ∧ Own .u16 108 wr w.heap.size v (uns pre) ∧ Below w.heap.size w wr) (fun _ at_ _ => n - (intOf at_).toNat)
  case atStart => exact ⟨[], cs, rfl, rfl, Own.nil, Below.refl _ _⟩
  case round =>
    obtain ⟨pre, post, hcs, rfl, ho, hb⟩ := hrel
    have hsz := hb.size
    have HO := Lib.hid ho
    have HB := Lib.hid hb
    have HCS := Lib.hid hcs
    have S' := Lib.hid (S.out.below HB.out)
    clear ho hb hcs
    cases post with
    | nil =>
      have hpc : pre = cs := by have := HCS.out; rw [List.append_nil] at this; exact this.symm
      by_cases hre : r = []
      · have hx : (encs pre).length = n := by rw [hpc, ← HL.out, hre]; simp
        rw [hx]
        go_wp2
        go_ret2
        exact ⟨HB.out, .inl ⟨hre, _, rfl, by rw [← hpc]; exact HO.out⟩⟩
      · obtain ⟨he, hd⟩ := HR.out hre
        have hx : (encs pre).length < n := by rw [hpc, ← HL.out]; have := List.length_pos_iff.2 hre; omega
        have HD := Lib.hid (show decAt (encs cs ++ r) ((encs pre).length : Int) = (0, 0, er) from by rw [decAt_in (by rw [List.length_append, HL.out]; exact hx), hpc, List.drop_left, hd])
        have q1 : (er != 0) = true := by simpa using he
        have HRE := Lib.hid hre
        clear hre he hd hpc
        generalize (encs pre).length = i at *
        have i1 : (i : Int) < (n : Int) := by omega
        go_wp2_with fail
        refine (rdecode_at _ _ _ _ _ _ S'.out HB0.out HD.out).mono ?_
        rintro e w2 ⟨rfl, hb2⟩
        go_wp2
        go_ret2
        exact ⟨ext_trans HB.out hb2, .inr ⟨HRE.out, rfl⟩⟩
    | cons c post =>
      have hf : Utf.form c ≠ 0 := HC.out c (by rw [HCS.out]; simp)
      have HF := Lib.hid hf
      have HD := Lib.hid (at_here (r := r) hf HCS.out)
      have hle : (encs pre).length + (enc c).length ≤ n := by
        rw [← HL.out, HCS.out, encs_append, encs_cons, List.length_append, List.length_append]; omega
      have hp : 0 < (enc c).length := List.length_pos_iff.2 (enc_ne hf)
      have hue := us_enc hf
      have hun : (uns pre).length ≤ (encs pre).length := by
        have h1 := HC.out
        rw [HCS.out] at h1
        exact (uns_len h1.left).1
      have X1 := Lib.hid (encs_snoc pre c)
      have X2 := Lib.hid (uns_snoc pre c)
      clear hf
      generalize hg1 : (encs pre).length = i at *
      generalize hg3 : (enc c).length = z at *
      have G1 := Lib.hid hg1
      have G3 := Lib.hid hg3
      clear hg1 hg3
      have i1 : (i : Int) < (n : Int) := by omega
      go_wp2_with fail
      refine (rdecode_at _ _ _ _ _ _ S'.out HB0.out HD.out).mono ?_
      rintro e w2 ⟨rfl, hb2⟩
      go_wp2_with fail
      refine (runits_any _ HF.out _).mono ?_
      rintro e w3 ⟨rfl, rfl⟩
      have HO2 := Lib.hid (World.ownsRow.alloc (HO.out.below hb2 (fun g hg => (HO.out.lt hg).2)) (.cells ((us c).map (Value.int .u16)).toArray 108))
      have TE := Lib.hid (Sl.new w2 (us c) 108 .u16 (by unfold maxLen; omega))
      have HB2 := Lib.hid (ext_trans HB.out hb2)
      have hsz2 : w.heap.size ≤ w2.heap.size := HB2.out.size
      clear hb2
      go_wp2_with (at_builtin; refine wp_app rfl _ _ _ rfl w.heap.size Try.underlying96 hi hz0 hz1 hz2 rfl rfl HO2.out rfl TE.out (by omega) (by unfold maxLen; omega) (by simp; omega) ?_; intro v3 w3 ho3 hb3 _)
      have HO3 := Lib.hid ho3
      have HB3 := Lib.hid ((HB2.out.alloc hsz2 _).trans hb3)
      clear ho3 hb3
      go_wp2
      go_roundw
      case rel => exact ⟨pre ++ [c], post, by rw [HCS.out]; simp, by rw [X1.out, List.length_append, G1.out, G3.out]; go_num, by rw [X2.out]; exact HO3.out, HB3.out⟩
      case measure => simp [intOf]; omega
end Uw
end Go.Proofs.Ytfpgnnjkojpmdaa
