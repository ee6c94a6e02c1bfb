/-
  What Text of package digits and the document's Text of layer 5 compute; bytes as a string.
-/
import Derived.Test.YtigiiofiajhnlaaGreatDoorDb
import Derived.Test.YtigiiofiajhnlaaGreatDoorDn
import Derived.Test.YtigiiofiajhnlaaGreatDoorIt
import Derived.Laws.BytesString
namespace Go.Proofs.YtigiiofiajhnlaaGreatDoor
set_option linter.unusedVariables false
open Go.RowKit
namespace Dc
open Wd We Dm Da Db It

theorem conv_bs {w : World} {A : Option Addr} {m c : Nat} {l : List Int} (h : Sl .u8 w A m c l) :
    (convert 27 9 (.slice A m c)).run Tryz.prog w = .ok (.string (bs l)) w := by
  rw [run_convert_bytes_string w 27 9 5 A m c Tryz.underlying27 Tryz.underlying5 Tryz.underlying9, ← bs_push]
  cases A with
  | none =>
    have hc := h.nil rfl
    have hm : m = 0 := by have := h.le; omega
    obtain rfl : l = [] := List.eq_nil_of_length_eq_zero (by rw [h.len]; exact hm)
    simp [Conv.bytesToString, Sem.run_pure]
  | some ad =>
    refine run_bytesToString w ad m c l ?_
    have := run_loadCells_list (P := Tryz.prog) w ad (l.map (Value.int .u8)) h.cells
    rw [List.length_map, h.len] at this
    exact this

set_option maxHeartbeats 400000 in
theorem text_ok (n : Nat) (h : n ≤ 9223372036854775807) (w : World) (t : Tab w) :
    Calls Tryz.prog 31 #[.int .i64 n] w fun e w' => e = .returned (.tuple #[.string (bs (decs n)), .int .i64 0]) ∧ Below w.heap.size w w' := by
  have i0 : ¬ (n : Int) < 0 := by omega
  have T := Lib.hid t
  clear t
  go_enter Tryz.func31, Tryz.ntmps31
  go_wp2_with fail
  refine (itoa_any n (by omega) (by omega) _ T.out).mono ?_
  rintro e w1 ⟨rfl, hb⟩
  rw [itoa_bs]
  go_wp2; go_ret2; exact ⟨rfl, hb⟩

set_option maxHeartbeats 400000 in
theorem text_neg (n : Int) (h : n < 0) (w : World) :
    Calls Tryz.prog 31 #[.int .i64 n] w fun e w' => e = .returned (.tuple #[.string (bs []), .int .i64 9]) ∧ w = w' := by
  go_enter Tryz.func31, Tryz.ntmps31
  go_wp2; go_ret2; exact ⟨rfl, rfl⟩
set_option maxHeartbeats 400000 in
theorem rtext_neg (n : Int) (h : n < 0) (w : World) :
    Calls Tryz.prog 41 #[.int .i64 n] w fun e w' => e = .returned (.tuple #[.string (bs []), .int .i64 9]) ∧ w = w' := by
  go_enter Tryz.func41, Tryz.ntmps41
  go_wp2; go_ret2; exact ⟨rfl, rfl⟩

set_option maxRecDepth 100000 in
set_option maxHeartbeats 1600000 in
theorem rtext_ok (n : Nat) (h : n ≤ 9223372036854775807) (w : World) :
    Calls Tryz.prog 41 #[.int .i64 n] w fun e w' => e = .returned (.tuple #[.string (bs (decs n)), .int .i64 0]) ∧ Below w.heap.size w w' := by
  obtain ⟨i0, hi, hz0, hz1, hz2⟩ := info_parts u8_info
  have i0 : ¬ (n : Int) < 0 := by omega
  have h19 : (decs n).length ≤ 19 := decs_length_le (by omega)
  go_enter Tryz.func41, Tryz.ntmps41
  go_wp2
  go_loopw [0, 4] (fun nv bv wr => ∃ (u : Nat) (b : List Int), u ≤ n ∧ nv = .int .i64 u ∧ Own .u8 5 wr w.heap.size bv b ∧ decs n = decs u ++ b.reverse ∧ Below w.heap.size w wr) (fun nv _ _ => (intOf nv).toNat)
  case atStart => exact ⟨n, [], Nat.le_refl _, rfl, Own.nil, by simp, Below.refl _ _⟩
  case round =>
    obtain ⟨u, b, hu, rfl, ho, hd, hb⟩ := hrel
    have HO := Lib.hid ho
    have HD := Lib.hid hd
    have HB := Lib.hid hb
    have hsz := hb.size
    have hbl : b.length ≤ 19 := by
      have := congrArg List.length hd
      rw [List.length_append, List.length_reverse] at this
      omega
    clear ho hd hb
    by_cases hu9 : 9 < u
    · have i1 : (9 : Int) < (u : Int) := by omega
      have HO2 := Lib.hid (World.ownsRow.alloc HO.out (.cells #[.int .u8 (48 + (u : Int) % 10)] 5))
      have TE : Sl .u8 (wr.alloc (.cells #[.int .u8 (48 + (u : Int) % 10)] 5)) (some ⟨wr.heap.size, 0, none⟩) 1 1 [48 + (u : Int) % 10] := Sl.new wr [48 + (u : Int) % 10] 5 .u8 (by unfold maxLen; simp)
      have TE := Lib.hid TE
      go_wp2_with (at_builtin; refine wp_app rfl _ _ _ rfl w.heap.size Tryz.underlying27 hi hz0 hz1 hz2 rfl rfl HO2.out rfl TE.out (by omega) (by unfold maxLen; omega) (by simp; omega) ?_; intro v3 w3 ho3 hb3 _)
      have HO3 := Lib.hid ho3
      have HB3 := Lib.hid ((HB.out.alloc hsz _).trans hb3)
      clear ho3 hb3
      go_wp2
      go_roundw
      case rel =>
        refine ⟨u / 10, b ++ [48 + (u : Int) % 10], by omega, by go_num, HO3.out, ?_, HB3.out⟩
        rw [HD.out, decs_more (by omega), List.reverse_append, List.append_assoc]
        rfl
      case measure => simp [intOf]; omega
    · have i1 : ¬ (9 : Int) < (u : Int) := by omega
      have HO2 := Lib.hid (World.ownsRow.alloc HO.out (.cells #[.int .u8 (48 + (u : Int))] 5))
      have TE : Sl .u8 (wr.alloc (.cells #[.int .u8 (48 + (u : Int))] 5)) (some ⟨wr.heap.size, 0, none⟩) 1 1 [48 + (u : Int)] := Sl.new wr [48 + (u : Int)] 5 .u8 (by unfold maxLen; simp)
      have TE := Lib.hid TE
      go_wp2_with (at_builtin; refine wp_app rfl _ _ _ rfl w.heap.size Tryz.underlying27 hi hz0 hz1 hz2 rfl rfl HO2.out rfl TE.out (by omega) (by unfold maxLen; omega) (by simp; omega) ?_; intro v3 w3 ho3 hb3 _)
      have HB3 := Lib.hid ((HB.out.alloc hsz _).trans hb3)
      have hrev : (b ++ [48 + (u : Int)]).reverse = decs n := by
        rw [HD.out, decs_one (by omega), List.reverse_append]; rfl
      generalize hq : b ++ [48 + (u : Int)] = q at *
      obtain ⟨A, c, rfl, t, -⟩ := ho3.sl
      have HS := Lib.hid t
      have HR := Lib.hid hrev
      have hql : q.length ≤ 20 := by rw [← hq, List.length_append]; simp; omega
      clear ho3 hb3 t hrev hq
      generalize hN : q.length = N at *
      have hN2 : N ≤ 9223372036854775807 := by omega
      have HN := Lib.hid hN
      clear hN
      have hlen : (Builtin.len_ #[27] 3 #[Value.slice A N c]).run Tryz.prog w3 = .ok (goInt N) w3 := run_len_slice _ _ _ _ _ _ (by kernel_rfl)
      go_wp2
      rw [hlen]
      go_wp2
      go_loopw [5, 6] (fun ov ix W => ∃ j k : Nat, j + k = N ∧ ix = .int .i64 ((j : Int) - 1) ∧ Own .u8 5 W w3.heap.size ov (q.reverse.take k) ∧ Below w3.heap.size w3 W) (fun _ ix _ => (intOf ix + 1).toNat)
      case atStart => exact ⟨N, 0, by omega, rfl, Own.nil, Below.refl _ _⟩
      case round =>
        obtain ⟨j, k, hjk, rfl, ho, hb⟩ := hrel
        have HO4 := Lib.hid ho
        have HB4 := Lib.hid hb
        have hsz4 := hb.size
        clear ho hb
        by_cases hj : j = 0
        · subst hj
          have i2 : ¬ (0 : Int) ≤ ((0 : Nat) : Int) - 1 := by omega
          obtain ⟨A2, c2, rfl, t2, -⟩ := HO4.out.sl
          have hk : q.reverse.take k = decs n := by rw [List.take_of_length_le (by rw [List.length_reverse, HN.out]; omega), HR.out]
          rw [hk] at t2
          have kc := conv_bs t2
          go_wp2
          go_ret2
          exact ⟨rfl, HB3.out.trans (HB4.out.mono HB3.out.size)⟩
        · obtain ⟨j, rfl⟩ : ∃ j', j = j' + 1 := ⟨j - 1, by omega⟩
          rw [show (((j + 1 : Nat) : Int) - 1) = (j : Int) by omega]
          have i2 : (0 : Int) ≤ (j : Int) := by omega
          have i3 : (j : Int) < (N : Int) := by omega
          obtain ⟨b1, o1, x, rfl, hx, hcx, hlt⟩ := (HS.out.below HB4.out).row.look (j := j) (by omega)
          have HX := Lib.hid hx
          clear hx
          have hxr : q.reverse[k]? = some x := by
            rw [List.getElem?_reverse (by rw [HN.out]; omega), HN.out, show N - 1 - k = j by omega]; exact HX.out
          have HXR := Lib.hid hxr
          clear hxr
          have HO5 := Lib.hid (World.ownsRow.alloc HO4.out (.cells #[.int .u8 x] 5))
          have TE5 : Sl .u8 (wr.alloc (.cells #[.int .u8 x] 5)) (some ⟨wr.heap.size, 0, none⟩) 1 1 [x] := Sl.new wr [x] 5 .u8 (by unfold maxLen; simp)
          have TE5 := Lib.hid TE5
          have hl5 : (q.reverse.take k).length ≤ 20 := by rw [List.length_take, List.length_reverse, HN.out]; omega
          go_wp2_with (at_builtin; refine wp_app rfl _ _ _ rfl w3.heap.size Tryz.underlying27 hi hz0 hz1 hz2 rfl rfl HO5.out rfl TE5.out (by omega) (by unfold maxLen; omega) (by simp; omega) ?_; intro v6 w6 ho6 hb6 _)
          have HO6 := Lib.hid ho6
          have HB6 := Lib.hid ((HB4.out.alloc hsz4 _).trans hb6)
          clear ho6 hb6
          go_wp2
          go_roundw
          case rel =>
            refine ⟨j, k + 1, by omega, by go_num, ?_, HB6.out⟩
            rw [List.take_add_one, HXR.out]
            exact HO6.out
          case measure => first | (simp [intOf]; done) | (simp [intOf]; omega)
end Dc
end Go.Proofs.YtigiiofiajhnlaaGreatDoor
