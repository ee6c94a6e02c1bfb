/-
  What Of16, join, Text of package units compute.
-/
import Derived.Test.YtogljfblcbegbaaUw
namespace Go.Proofs.Ytogljfblcbegbaa
set_option linter.unusedVariables false
open Go.RowKit
namespace Uw
open Utf Wd Wr We Wi

theorem u16_info : (Try.prog.info? 31).map (fun i => (i.zero, i.size, i.bytes)) = some (some (.int .u16 0), 1, 2) := by kernel_rfl

/-- what stands at a place between characters, as Decode tells it -/
theorem at_here {cs pre post r : List Int} {c : Int} (hf : Utf.form c ≠ 0) (hcs : cs = pre ++ c :: post) : decAt (encs cs ++ r) ((encs pre).length : Int) = (c, ((enc c).length : Int), 0) := by
  have h1 := dec_here (pre := pre) (post := post) (r := r) hf
  rw [← hcs] at h1
  rw [decAt_in, h1]
  rw [hcs, encs_append, encs_cons, List.length_append, List.length_append, List.length_append]
  have := List.length_pos_iff.2 (enc_ne hf)
  omega
theorem at_here0 {cs pre post : List Int} {c : Int} (hf : Utf.form c ≠ 0) (hcs : cs = pre ++ c :: post) : decAt (encs cs) ((encs pre).length : Int) = (c, ((enc c).length : Int), 0) := by
  have := at_here (r := []) hf hcs
  rwa [List.append_nil] at this

set_option maxHeartbeats 1600000 in
theorem of16_txt (A : Option Addr) (n cp : Nat) (cs : List Int) (w : World) (hc : Chars cs) (s : Sl .u8 w A n cp (encs cs)) (hroom : (uns cs).length ≤ 140737488355328) :
    Calls Try.prog 17 #[.slice A n cp] w fun e w' => ∃ v, e = .returned (.tuple #[v, .int .i64 0]) ∧ Own .u16 31 w' w.heap.size v (uns cs) ∧ Below w.heap.size w w' := by
  have hmax : n ≤ 9223372036854775807 := by have := s.max; have := s.le; unfold maxLen at *; omega
  obtain ⟨i0, hi, hz0, hz1, hz2⟩ := info_parts u16_info
  have hlen := s.len
  have S := Lib.hid s
  have HC := Lib.hid hc
  have HL := Lib.hid hlen
  clear s hc hlen
  go_enter Try.func17, Try.ntmps17
  go_wp2_with fail
  refine (of_txt _ _ _ cs _ HC.out S.out).mono ?_
  rintro r w' ⟨rfl, rfl⟩
  generalize hN : (uns cs).length = N at *
  have HN := Lib.hid hN
  clear hN
  go_wp2_with (at_make; refine wpList_make_own _ rfl _ _ 27 rfl w.heap.size 31 i0 (.int .u16 0) 1 Try.underlying27 hi hz0 hz1 _ _ _ N rfl rfl rfl (by rw [hz2]; omega) (by unfold maxLen; omega) (Nat.le_refl _) ?_; intro w1 ho1 hg1)
  have hb1 : Below w.heap.size w w1 := (Below.refl _ _).grown hg1 (Nat.le_refl _) (fun g h => by cases h)
  go_loopw [6, 7] (fun v at_ wr => ∃ pre post, cs = pre ++ post ∧ at_ = .int .i64 (encs pre).length ∧ v = .slice (some ⟨w.heap.size, 0, none⟩) (uns pre).length N ∧ Own .u16 31 wr w.heap.size v (uns pre) ∧ Below w.heap.size w wr) (fun _ at_ _ => n - (intOf at_).toNat)
  case atStart => exact ⟨[], cs, rfl, rfl, rfl, ho1, hb1⟩
  case round =>
    obtain ⟨pre, post, hcs, rfl, rfl, ho, hb⟩ := hrel
    have hsz := hb.size
    have HO := Lib.hid ho
    have HB := Lib.hid hb
    clear ho hb
    cases post with
    | nil =>
      rw [List.append_nil] at hcs
      subst hcs
      have hi : (encs cs).length = n := HL.out
      rw [hi]
      clear hi
      go_wp2
      go_ret2
      exact ⟨_, rfl, HO.out, HB.out⟩
    | cons c post =>
      have hf : Utf.form c ≠ 0 := HC.out c (by rw [hcs]; simp)
      have HD := Lib.hid (at_here0 hf hcs)
      have hle : (encs pre).length + (enc c).length ≤ n := by
        rw [← HL.out, hcs, encs_append, encs_cons, List.length_append, List.length_append]; omega
      have hun : (uns pre).length + (us c).length ≤ N := by
        rw [← HN.out, hcs, uns_append, uns_cons, List.length_append, List.length_append]; omega
      have hp : 0 < (enc c).length := List.length_pos_iff.2 (enc_ne hf)
      have hfc := form_cases c
      have HCS := Lib.hid hcs
      have X1 := Lib.hid (encs_snoc pre c)
      have X2 := Lib.hid (uns_snoc pre c)
      have S' := Lib.hid (S.out.below HB.out)
      clear hcs
      generalize hg1 : (encs pre).length = i at *
      generalize hg2 : (uns pre).length = m at *
      generalize hg3 : (enc c).length = z at *
      have G1 := Lib.hid hg1
      have G2 := Lib.hid hg2
      have G3 := Lib.hid hg3
      clear hg1 hg2 hg3
      have i1 : (i : Int) < (n : Int) := by omega
      by_cases hlt : c < 65536
      · rw [us1 hlt] at hun
        simp only [List.length_cons, List.length_nil] at hun
        have c0 : 0 ≤ c := by omega
        have HU := Lib.hid (us1 hlt)
        clear hfc hf
        go_wp2_with fail
        refine (decode_at _ _ _ _ _ _ S'.out (encs_byte cs) HD.out).mono ?_
        rintro e w' ⟨rfl, rfl⟩
        go_wp2_with fail
        refine (width_any _ _).mono ?_
        rintro e w' ⟨rfl, rfl⟩
        rw [HU.out]
        have HO2 := Lib.hid (World.ownsRow.alloc HO.out (.cells #[.int .u16 c] 31))
        have T := Lib.hid (Sl.new wr [c] 31 .u16 (by simp [maxLen]))
        go_wp2_with (at_builtin; refine wp_fits rfl _ _ _ rfl w.heap.size Try.underlying27 hi hz1 rfl G2.out.symm HO2.out rfl T.out (by first | omega | (simp; omega)) (by first | omega | (simp; omega)) ?_; intro w3 ho3 hb3 _)
        have HO3 := Lib.hid ho3
        have HB3 := Lib.hid ((HB.out.alloc hsz _).trans hb3)
        clear ho3 hb3
        go_wp2
        go_roundw
        case rel => exact ⟨pre ++ [c], post, by rw [HCS.out]; simp, by rw [X1.out, List.length_append, G1.out, G3.out]; go_num, by rw [X2.out, HU.out, List.length_append, G2.out]; rfl, by rw [X2.out, HU.out]; exact HO3.out, HB3.out⟩
        case measure => simp [intOf]; omega
      · rw [us2 hlt] at hun
        simp only [List.length_cons, List.length_nil] at hun
        have c0 : 65536 ≤ c := by omega
        have c1 : c ≤ 1114111 := by omega
        have HU := Lib.hid (us2 hlt)
        clear hfc hf hlt
        go_wp2_with fail
        refine (decode_at _ _ _ _ _ _ S'.out (encs_byte cs) HD.out).mono ?_
        rintro e w' ⟨rfl, rfl⟩
        go_wp2_with fail
        refine (width_any _ _).mono ?_
        rintro e w' ⟨rfl, rfl⟩
        rw [HU.out]
        go_wp2_with fail
        refine (upper_any _ c0 c1 _).mono ?_
        rintro e w' ⟨rfl, rfl⟩
        go_wp2_with fail
        refine (lower_any _ c0 c1 _).mono ?_
        rintro e w' ⟨rfl, rfl⟩
        have HO2 := Lib.hid (World.ownsRow.alloc HO.out (.cells #[.int .u16 (55296 + (c - 65536) / 1024), .int .u16 (56320 + (c - 65536) % 1024)] 31))
        have T := Lib.hid (Sl.new wr [55296 + (c - 65536) / 1024, 56320 + (c - 65536) % 1024] 31 .u16 (by simp [maxLen]))
        generalize 55296 + (c - 65536) / 1024 = a1 at *
        generalize 56320 + (c - 65536) % 1024 = a2 at *
        go_wp2_with (at_builtin; refine wp_fits rfl _ _ _ rfl w.heap.size Try.underlying27 hi hz1 rfl G2.out.symm HO2.out rfl T.out (by first | omega | (simp; omega)) (by first | omega | (simp; omega)) ?_; intro w3 ho3 hb3 _)
        have HO3 := Lib.hid ho3
        have HB3 := Lib.hid ((HB.out.alloc hsz _).trans hb3)
        clear ho3 hb3
        go_wp2
        go_roundw
        case rel => exact ⟨pre ++ [c], post, by rw [HCS.out]; simp, by rw [X1.out, List.length_append, G1.out, G3.out]; go_num, by rw [X2.out, HU.out, List.length_append, G2.out]; rfl, by rw [X2.out, HU.out]; exact HO3.out, HB3.out⟩
        case measure => simp [intOf]; omega
end Uw
end Go.Proofs.Ytogljfblcbegbaa
