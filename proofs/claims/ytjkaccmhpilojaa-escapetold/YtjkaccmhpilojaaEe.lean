/-
  What the statements' text, one and hexes of layer 8 compute.
-/
import Derived.Test.YtjkaccmhpilojaaEd
namespace Go.Proofs.Ytjkaccmhpilojaa
set_option linter.unusedVariables false
set_option linter.unusedSimpArgs false
open Go.RowKit
namespace Em
open Wd We Utf Es Wi Wf Wr

/-- a number brought to be a character -/
def tch (x : Int) : Int := if form (x % 1114112) = 0 then 120 else x % 1114112
def tcs (l : List Int) : List Int := (l.take 60).map tch
theorem tch_form (x : Int) : form (tch x) ≠ 0 := by
  unfold tch
  split
  · decide
  · assumption
theorem tcs_chars (l : List Int) : Chars (tcs l) := fun c hc => by
  obtain ⟨x, _, rfl⟩ := List.mem_map.1 hc
  exact tch_form x
theorem encs_len4 {cs : List Int} : (encs cs).length ≤ 4 * cs.length := by
  induction cs with
  | nil => simp
  | cons c cs ih =>
    rw [encs_cons, List.length_append, List.length_cons]
    have := enc_length c
    have := form_cases c
    omega
theorem tcs_len (l : List Int) : (encs (tcs l)).length ≤ 240 := by
  have := encs_len4 (cs := tcs l)
  have h : (tcs l).length ≤ 60 := by unfold tcs; rw [List.length_map, List.length_take]; omega
  omega

set_option maxRecDepth 100000 in
set_option maxHeartbeats 1600000 in
theorem one_any (n : Int) (h0 : 0 ≤ n) (h1 : n < 65536) (w : World) :
    Calls Try.prog 22 #[.int .i64 n] w fun e w' => e = .returned (.string (Dm.bs (on n))) ∧ Below w.heap.size w w' := by
  by_cases hf : form n = 0
  · have CON := Lib.hid (rencode_no n hf w)
    have ho : on n = enc 65533 := if_pos hf
    rw [ho]
    have he : enc 65533 = [239, 191, 189] := by decide
    rw [he]
    clear hf ho
    go_enter Try.func22, Try.ntmps22
    go_wp2_with fail
    refine CON.out.mono ?_
    rintro e w' ⟨rfl, rfl⟩
    go_wp2
    go_ret
    exact ⟨rfl, Below.refl _ _⟩
  · have CON := Lib.hid (rencode_ok n hf w)
    have ho : on n = enc n := if_neg hf
    rw [ho]
    have hl : (enc n).length ≤ 4 := by have := enc_length n; have := form_cases n; omega
    have SE : Sl .u8 (w.alloc (.cells (Wr.bs (enc n)) 5)) (some ⟨w.heap.size, 0, none⟩) (enc n).length (enc n).length (enc n) := Sl.new w (enc n) 5 .u8 (by unfold maxLen; omega)
    have kb := conv_bs SE
    clear hf ho SE
    go_enter Try.func22, Try.ntmps22
    go_wp2_with fail
    refine CON.out.mono ?_
    rintro e w' ⟨rfl, rfl⟩
    go_wp2
    go_ret
    exact ⟨rfl, Dd2.below_alloc _ _⟩

set_option maxRecDepth 100000 in
set_option maxHeartbeats 4000000 in
theorem text_any (A : Option Addr) (n c : Nat) (l : List Int) (w : World) (s : Sl .i64 w A n c l) (hz : ∀ x ∈ l, -9223372036854775808 ≤ x ∧ x ≤ 9223372036854775807) :
    Calls Try.prog 17 #[.slice A n c] w fun e w' => e = .returned (.string (Dm.bs (encs (tcs l)))) ∧ Below w.heap.size w w' := by
  obtain ⟨i0, hi, hz0, hz1, hz2⟩ := info_parts u8_info
  have hlen := s.len
  have hmx : n ≤ 9223372036854775807 := by have := s.le; have := s.max; unfold maxLen at *; omega
  have S := Lib.hid s
  have HZ := Lib.hid hz
  clear s hz
  go_enter Try.func17, Try.ntmps17
  go_wp2
  go_loopw [3, 4] (fun ov iv wr => ∃ k : Nat, iv = .int .i64 k ∧ k ≤ n ∧ k ≤ 60 ∧ Hid (Wd.Own .u8 5 wr w.heap.size ov (encs ((l.take k).map tch))) ∧ Hid (Below w.heap.size w wr)) (fun _ iv _ => n - (intOf iv).toNat)
  case atStart => exact ⟨0, rfl, Nat.zero_le _, by omega, Lib.hid Wd.Own.nil, Lib.hid (Below.refl _ _)⟩
  case round =>
    obtain ⟨k, rfl, hk, hk60, hoo, hbw⟩ := hrel
    have hsz := hbw.out.size
    have hlen4 := encs_len4 (cs := (l.take k).map tch)
    rw [List.length_map, List.length_take] at hlen4
    by_cases hgo : k < n ∧ k < 60
    · obtain ⟨hkn, hk6⟩ := hgo
      have i1 : (k : Int) < (n : Int) := by omega
      have i2 : (k : Int) < 60 := by omega
      obtain ⟨b, off, x, rfl, hx, hc, _⟩ := S.out.row.look hkn
      have hc' := (hbw.out.cell (p := ⟨b, off + k, none⟩) (lt_of_cell hc)).trans hc
      have hxz := HZ.out x (List.mem_of_getElem? hx)
      have BR := Lib.hid (bring_any x 1114112 (by omega) (by omega) hxz.1 hxz.2 wr)
      have hr0 := Int.emod_nonneg x (b := 1114112) (by omega)
      have hr1 := Int.emod_lt_of_pos x (b := 1114112) (by omega)
      obtain ⟨r, hr⟩ : ∃ r, x % 1114112 = r := ⟨_, rfl⟩
      rw [hr] at BR hr0 hr1
      have HNX : Hid (encs ((l.take (k + 1)).map tch) = encs ((l.take k).map tch) ++ enc (tch x)) := Lib.hid (by rw [List.take_add_one, hx]; simp [encs])
      have HT : Hid (tch x = if form r = 0 then 120 else r) := Lib.hid (by unfold tch; rw [hr])
      have X9 : (encs ((l.take k).map tch)).length ≤ 240 := by omega
      clear hx hc hlen4 hr hxz
      by_cases hf : form r = 0
      · have ENC := Lib.hid (rencode_no r hf wr)
        have SN := Lib.hid (show Sl .u8 (wr.alloc (.cells #[.int .u8 120] 5)) (some ⟨wr.heap.size, 0, none⟩) 1 1 [120] from Sl.new wr [120] 5 .u8 (by unfold maxLen; simp))
        have OE := Lib.hid (Wd.Own.below hoo.out (Dd2.below_alloc wr (.cells #[.int .u8 120] 5)) (fun g hg' => (hoo.out.lt hg').2))
        have BE := Lib.hid (hbw.out.trans ((Dd2.below_alloc wr (.cells #[.int .u8 120] 5)).mono hsz))
        have HT2 : Hid (enc (tch x) = [120]) := Lib.hid (by rw [HT.out, if_pos hf]; decide)
        clear hf
        go_wp2_with fail
        refine BR.out.mono ?_
        rintro e w' ⟨rfl, rfl⟩
        go_wp2_with fail
        refine ENC.out.mono ?_
        rintro e w' ⟨rfl, rfl⟩
        go_wp2_with (at_builtin; refine wp_app rfl _ _ _ rfl w.heap.size Try.underlying27 hi hz0 hz1 hz2 rfl rfl OE.out rfl SN.out (by omega) (by unfold maxLen; omega) (by first | omega | (simp; omega)) ?_; intro v3 w3 ho3 hb3 _; have HO3 := Lib.hid ho3; have HB3 := Lib.hid (BE.out.trans hb3); clear ho3 hb3)
        exact ⟨⟨k + 1, by go_num, by omega, by omega, Lib.hid (by rw [HNX.out, HT2.out]; exact HO3.out), HB3⟩, by simp [intOf]; omega⟩
      · have ENC := Lib.hid (rencode_ok r hf wr)
        have hl4 : (enc r).length ≤ 4 := by have := enc_length r; have := form_cases r; omega
        have SN := Lib.hid (show Sl .u8 (wr.alloc (.cells (Wr.bs (enc r)) 5)) (some ⟨wr.heap.size, 0, none⟩) (enc r).length (enc r).length (enc r) from Sl.new wr (enc r) 5 .u8 (by unfold maxLen; omega))
        have OE := Lib.hid (Wd.Own.below hoo.out (Dd2.below_alloc wr (.cells (Wr.bs (enc r)) 5)) (fun g hg' => (hoo.out.lt hg').2))
        have BE := Lib.hid (hbw.out.trans ((Dd2.below_alloc wr (.cells (Wr.bs (enc r)) 5)).mono hsz))
        have HT2 : Hid (enc (tch x) = enc r) := Lib.hid (by rw [HT.out, if_neg hf])
        clear hf
        go_wp2_with fail
        refine BR.out.mono ?_
        rintro e w' ⟨rfl, rfl⟩
        go_wp2_with fail
        refine ENC.out.mono ?_
        rintro e w' ⟨rfl, rfl⟩
        go_wp2_with (at_builtin; refine wp_app rfl _ _ _ rfl w.heap.size Try.underlying27 hi hz0 hz1 hz2 rfl rfl OE.out rfl SN.out (by omega) (by unfold maxLen; omega) (by first | omega | (simp; omega)) ?_; intro v3 w3 ho3 hb3 _; have HO3 := Lib.hid ho3; have HB3 := Lib.hid (BE.out.trans hb3); clear ho3 hb3)
        exact ⟨⟨k + 1, by go_num, by omega, by omega, Lib.hid (by rw [HNX.out, HT2.out]; exact HO3.out), HB3⟩, by simp [intOf]; omega⟩
    · have hfin : (l.take k).map tch = tcs l := by
        unfold tcs
        by_cases h : k = 60
        · rw [h]
        · rw [List.take_of_length_le (by omega), List.take_of_length_le (by omega)]
      rw [hfin] at hoo hlen4
      generalize hE : encs (tcs l) = O9 at *
      obtain ⟨Ao, co, rfl, so, _⟩ := hoo.out.sl
      have kb := conv_bs so
      have hb9 := Lib.hid hbw.out
      clear so hoo hfin
      rcases (show ¬ (k : Int) < (n : Int) ∨ ((k : Int) < (n : Int) ∧ ¬ (k : Int) < 60) by omega) with x1 | ⟨x1, x2⟩
      all_goals
        go_wp2
        go_ret
        exact ⟨rfl, hb9.out⟩
end Em
end Go.Proofs.Ytjkaccmhpilojaa
