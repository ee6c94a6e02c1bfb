/-
  What the document's pair, End, inName, blank, low of layer 6 compute.
-/
import Derived.Test.YtigiiofiajhnlaaGreatDoorHg
namespace Go.Proofs.YtigiiofiajhnlaaGreatDoor
set_option linter.unusedVariables false
open Go.RowKit
namespace Hf
open Wd We Dm Da Db Dc Dd Hm Hb Hc Hd He Hg

theorem two_at {l : List Int} {i : Nat} : [13, 10] <+: l.drop i ↔ l[i]? = some 13 ∧ l[i + 1]? = some 10 := by
  have e0 : (l.drop i)[0]? = l[i]? := by rw [List.getElem?_drop]; rfl
  have e1 : (l.drop i)[1]? = l[i + 1]? := by rw [List.getElem?_drop]
  rw [← e0, ← e1]
  generalize l.drop i = m
  rcases m with _ | ⟨x, _ | ⟨y, r⟩⟩
  · simp
  · simp [List.cons_prefix_cons]
  · rw [two_pre]; simp
theorem four_at {l : List Int} {i : Nat} : [13, 10, 13, 10] <+: l.drop i ↔ [13, 10] <+: l.drop i ∧ [13, 10] <+: l.drop (i + 2) := by
  rw [← List.drop_drop]
  generalize l.drop i = m
  rcases m with _ | ⟨x, _ | ⟨y, r⟩⟩
  · simp
  · simp [List.cons_prefix_cons]
  · rw [two_pre, List.cons_prefix_cons, List.cons_prefix_cons]
    show _ ↔ _ ∧ [13, 10] <+: r
    constructor
    · rintro ⟨a, b, c⟩; exact ⟨⟨a.symm, b.symm⟩, c⟩
    · rintro ⟨⟨a, b⟩, c⟩; exact ⟨a.symm, b.symm, c⟩
theorem pr_true {l : List Int} {i : Nat} (h : [13, 10] <+: l.drop i) : [13, 10].isPrefixOf (l.drop i) = true := List.isPrefixOf_iff_prefix.2 h
theorem pr_false {l : List Int} {i : Nat} (h : ¬ [13, 10] <+: l.drop i) : [13, 10].isPrefixOf (l.drop i) = false := by
  cases e : [13, 10].isPrefixOf (l.drop i) with
  | false => rfl
  | true => exact absurd (List.isPrefixOf_iff_prefix.1 e) h

set_option maxHeartbeats 800000 in
theorem pair_any (A : Option Addr) (n c : Nat) (l : List Int) (i : Nat) (w : World) (s : Sl .u8 w A n c l) (hi : i ≤ 9223372036854775800) :
    Calls Tryz.prog 48 #[.slice A n c, .int .i64 i] w fun e w' => e = .returned (.bool ([13, 10].isPrefixOf (l.drop i))) ∧ w = w' := by
  have hmax : n ≤ 9223372036854775807 := by have := s.max; have := s.le; unfold maxLen at *; omega
  have hlen := s.len
  have S := Lib.hid s
  have HL := Lib.hid hlen
  clear s hlen
  by_cases h1 : i + 1 < n
  · obtain ⟨b1, o1, x, rfl, hx, hcx, _⟩ := S.out.row.look (j := i) (by omega)
    obtain ⟨b2, o2, y, hA, hy, hcy, _⟩ := S.out.row.look (j := i + 1) (by omega)
    injection hA with hA; injection hA with hA1 hA2; subst hA1; subst hA2
    have i1 : (i : Int) + 1 < (n : Int) := by omega
    have i2 : (i : Int) < (n : Int) := by omega
    have hcy' := hcy
    by_cases q1 : x = 13
    · by_cases q2 : y = 10
      · have h := pr_true (two_at.2 ⟨by rw [hx, q1], by rw [hy, q2]⟩)
        have H := Lib.hid h
        have d1 : (x == 13) = true := by simpa using q1
        have d2 : (y == 10) = true := by simpa using q2
        rw [H.out]
        clear hx hy q1 q2 h
        go_enter Tryz.func48, Tryz.ntmps48
        go_wp2; go_ret; exact ⟨rfl, rfl⟩
      · have h := pr_false (l := l) (i := i) (fun g => q2 (by have := (two_at.1 g).2; rw [hy] at this; injection this))
        have H := Lib.hid h
        have d1 : (x == 13) = true := by simpa using q1
        have d2 : (y == 10) = false := by simpa using q2
        rw [H.out]
        clear hx hy q1 q2 h
        go_enter Tryz.func48, Tryz.ntmps48
        go_wp2; go_ret; exact ⟨rfl, rfl⟩
    · have h := pr_false (l := l) (i := i) (fun g => q1 (by have := (two_at.1 g).1; rw [hx] at this; injection this))
      have H := Lib.hid h
      have d1 : (x == 13) = false := by simpa using q1
      rw [H.out]
      clear hx hy q1 h
      go_enter Tryz.func48, Tryz.ntmps48
      go_wp2; go_ret; exact ⟨rfl, rfl⟩
  · have h := pr_false (l := l) (i := i) (fun g => by have := lt_of_some (two_at.1 g).2; rw [HL.out] at this; omega)
    have H := Lib.hid h
    have i1 : ¬ (i : Int) + 1 < (n : Int) := by omega
    rw [H.out]
    clear h h1
    go_enter Tryz.func48, Tryz.ntmps48
    go_wp2; go_ret; exact ⟨rfl, rfl⟩

/-- End's answer -/
def ev : Option Nat → Int
  | none => -1
  | some s => s

set_option maxHeartbeats 1600000 in
theorem end_any (A : Option Addr) (n c : Nat) (l : List Int) (w : World) (s : Sl .u8 w A n c l) (hn : n ≤ 512) :
    Calls Tryz.prog 47 #[.slice A n c] w fun e w' => e = .returned (.int .i64 (ev (hEnd l))) ∧ w = w' := by
  have hlen := s.len
  have S := Lib.hid s
  have HL := Lib.hid hlen
  have HP := Lib.hid (fun i hi => pair_any A n c l i w s hi)
  clear s hlen
  have p0 := HP.out 0 (by omega)
  rw [List.drop_zero] at p0
  have P0 := Lib.hid p0
  clear p0
  go_enter Tryz.func47, Tryz.ntmps47
  go_wp2_with fail
  refine P0.out.mono ?_
  rintro e w' ⟨rfl, rfl⟩
  by_cases h0 : [13, 10] <+: l
  · have HE := Lib.hid (hEnd_two h0)
    rw [List.isPrefixOf_iff_prefix.2 h0]
    clear h0
    go_wp2; go_ret; exact ⟨by rw [HE.out]; rfl, rfl⟩
  · have h0' : [13, 10].isPrefixOf l = false := by
      have := pr_false (l := l) (i := 0) (by rw [List.drop_zero]; exact h0)
      rwa [List.drop_zero] at this
    have HE := Lib.hid (hEnd_far h0)
    rw [h0']
    clear h0 h0'
    go_wp2
    go_loop [3] (fun ix => ∃ k : Nat, k ≤ n ∧ ix = .int .i64 k ∧ ∀ j, j < k → ¬ [13, 10, 13, 10] <+: l.drop j) (fun ix => n - (intOf ix).toNat)
    case atStart => exact ⟨0, Nat.zero_le _, rfl, fun j hj => by omega⟩
    case round =>
      obtain ⟨k, hk, rfl, hno⟩ := hrel
      have HNO := Lib.hid hno
      clear hno
      by_cases hkn : k < n
      · have i1 : (k : Int) < (n : Int) := by omega
        have P1 := Lib.hid (HP.out k (by omega))
        have p2 := HP.out (k + 2) (by omega)
        rw [show ((k + 2 : Nat) : Int) = (k : Int) + 2 from rfl] at p2
        have P2 := Lib.hid p2
        clear p2
        by_cases g1 : [13, 10] <+: l.drop k
        · by_cases g2 : [13, 10] <+: l.drop (k + 2)
          · have hf : fnd [13, 10, 13, 10] l = some k := fnd_eq (by rw [HL.out]; omega) (four_at.2 ⟨g1, g2⟩) HNO.out
            have HF := Lib.hid hf
            have G1 := Lib.hid (pr_true g1)
            have G2 := Lib.hid (pr_true g2)
            clear hf g1 g2
            go_wp2_with fail
            refine P1.out.mono ?_
            rintro e w' ⟨rfl, rfl⟩
            rw [G1.out]
            go_wp2_with fail
            refine P2.out.mono ?_
            rintro e w' ⟨rfl, rfl⟩
            rw [G2.out]
            go_wp2
            go_ret
            exact ⟨by rw [HE.out, HF.out]; rfl, rfl⟩
          · have G1 := Lib.hid (pr_true g1)
            have G2 := Lib.hid (pr_false g2)
            have HN2 := Lib.hid (show ∀ j, j < k + 1 → ¬ [13, 10, 13, 10] <+: l.drop j from fun j hj => by
              rcases Nat.lt_or_ge j k with g | g
              · exact HNO.out j g
              · obtain rfl : j = k := by omega
                exact fun c => g2 (four_at.1 c).2)
            clear g1 g2
            go_wp2_with fail
            refine P1.out.mono ?_
            rintro e w' ⟨rfl, rfl⟩
            rw [G1.out]
            go_wp2_with fail
            refine P2.out.mono ?_
            rintro e w' ⟨rfl, rfl⟩
            rw [G2.out]
            go_wp2
            go_round
            case rel => exact ⟨k + 1, by omega, by go_num, HN2.out⟩
            case measure => simp [intOf]; omega
        · have G1 := Lib.hid (pr_false g1)
          have HN2 := Lib.hid (show ∀ j, j < k + 1 → ¬ [13, 10, 13, 10] <+: l.drop j from fun j hj => by
            rcases Nat.lt_or_ge j k with g | g
            · exact HNO.out j g
            · obtain rfl : j = k := by omega
              exact fun c => g1 (four_at.1 c).1)
          clear g1
          go_wp2_with fail
          refine P1.out.mono ?_
          rintro e w' ⟨rfl, rfl⟩
          rw [G1.out]
          go_wp2
          go_round
          case rel => exact ⟨k + 1, by omega, by go_num, HN2.out⟩
          case measure => simp [intOf]; omega
      · obtain rfl : k = n := by omega
        have hf : fnd [13, 10, 13, 10] l = none := fnd_no fun j hj => by
          rw [HL.out] at hj
          rcases Nat.lt_or_ge j k with g | g
          · exact HNO.out j g
          · intro c
            have := c.length_le
            rw [List.length_drop, HL.out] at this
            simp at this; omega
        have HF := Lib.hid hf
        clear hf
        go_wp2
        go_ret
        exact ⟨by rw [HE.out, HF.out]; rfl, rfl⟩

set_option maxHeartbeats 1600000 in
theorem inName_any (x : Int) (w : World) (hx : 0 ≤ x ∧ x ≤ 255) : Calls Tryz.prog 62 #[.int .u8 x] w fun e w' => e = .returned (.bool (inN x)) ∧ w = w' := by
  have hc : (x < 45) ∨ (x = 45) ∨ (45 < x ∧ x < 48) ∨ (48 ≤ x ∧ x ≤ 57) ∨ (57 < x ∧ x < 65) ∨ (65 ≤ x ∧ x ≤ 90) ∨ (90 < x ∧ x < 97) ∨ (97 ≤ x ∧ x ≤ 122) ∨ (122 < x) := by omega
  obtain ⟨hx0, hx1⟩ := hx
  rcases hc with h | h | h | h | h | h | h | h | h
  · have H := Lib.hid (show inN x = false by unfold inN; exact decide_eq_false (by omega))
    rw [H.out]
    have t1 : ¬ 97 ≤ x := by omega
    have t2 : x ≤ 122 := by omega
    have t3 : ¬ 65 ≤ x := by omega
    have t4 : x ≤ 90 := by omega
    have t5 : ¬ 48 ≤ x := by omega
    have t6 : x ≤ 57 := by omega
    have d : (x == 45) = false := by simp; omega
    clear h
    go_enter Tryz.func62, Tryz.ntmps62
    go_wp2; go_ret; exact ⟨rfl, rfl⟩
  · have H := Lib.hid (show inN x = true by unfold inN; exact decide_eq_true (by omega))
    rw [H.out]
    subst h
    go_enter Tryz.func62, Tryz.ntmps62
    go_wp2; go_ret; exact ⟨rfl, rfl⟩
  · have H := Lib.hid (show inN x = false by unfold inN; exact decide_eq_false (by omega))
    rw [H.out]
    have t1 : ¬ 97 ≤ x := by omega
    have t2 : x ≤ 122 := by omega
    have t3 : ¬ 65 ≤ x := by omega
    have t4 : x ≤ 90 := by omega
    have t5 : ¬ 48 ≤ x := by omega
    have t6 : x ≤ 57 := by omega
    have d : (x == 45) = false := by simp; omega
    clear h
    go_enter Tryz.func62, Tryz.ntmps62
    go_wp2; go_ret; exact ⟨rfl, rfl⟩
  · have H := Lib.hid (show inN x = true by unfold inN; exact decide_eq_true (by omega))
    rw [H.out]
    have t1 : ¬ 97 ≤ x := by omega
    have t2 : x ≤ 122 := by omega
    have t3 : ¬ 65 ≤ x := by omega
    have t4 : x ≤ 90 := by omega
    have t5 : 48 ≤ x := by omega
    have t6 : x ≤ 57 := by omega
    have d : (x == 45) = false := by simp; omega
    clear h
    go_enter Tryz.func62, Tryz.ntmps62
    go_wp2; go_ret; exact ⟨rfl, rfl⟩
  · have H := Lib.hid (show inN x = false by unfold inN; exact decide_eq_false (by omega))
    rw [H.out]
    have t1 : ¬ 97 ≤ x := by omega
    have t2 : x ≤ 122 := by omega
    have t3 : ¬ 65 ≤ x := by omega
    have t4 : x ≤ 90 := by omega
    have t5 : 48 ≤ x := by omega
    have t6 : ¬ x ≤ 57 := by omega
    have d : (x == 45) = false := by simp; omega
    clear h
    go_enter Tryz.func62, Tryz.ntmps62
    go_wp2; go_ret; exact ⟨rfl, rfl⟩
  · have H := Lib.hid (show inN x = true by unfold inN; exact decide_eq_true (by omega))
    rw [H.out]
    have t1 : ¬ 97 ≤ x := by omega
    have t2 : x ≤ 122 := by omega
    have t3 : 65 ≤ x := by omega
    have t4 : x ≤ 90 := by omega
    have t5 : 48 ≤ x := by omega
    have t6 : ¬ x ≤ 57 := by omega
    have d : (x == 45) = false := by simp; omega
    clear h
    go_enter Tryz.func62, Tryz.ntmps62
    go_wp2; go_ret; exact ⟨rfl, rfl⟩
  · have H := Lib.hid (show inN x = false by unfold inN; exact decide_eq_false (by omega))
    rw [H.out]
    have t1 : ¬ 97 ≤ x := by omega
    have t2 : x ≤ 122 := by omega
    have t3 : 65 ≤ x := by omega
    have t4 : ¬ x ≤ 90 := by omega
    have t5 : 48 ≤ x := by omega
    have t6 : ¬ x ≤ 57 := by omega
    have d : (x == 45) = false := by simp; omega
    clear h
    go_enter Tryz.func62, Tryz.ntmps62
    go_wp2; go_ret; exact ⟨rfl, rfl⟩
  · have H := Lib.hid (show inN x = true by unfold inN; exact decide_eq_true (by omega))
    rw [H.out]
    have t1 : 97 ≤ x := by omega
    have t2 : x ≤ 122 := by omega
    have t3 : 65 ≤ x := by omega
    have t4 : ¬ x ≤ 90 := by omega
    have t5 : 48 ≤ x := by omega
    have t6 : ¬ x ≤ 57 := by omega
    have d : (x == 45) = false := by simp; omega
    clear h
    go_enter Tryz.func62, Tryz.ntmps62
    go_wp2; go_ret; exact ⟨rfl, rfl⟩
  · have H := Lib.hid (show inN x = false by unfold inN; exact decide_eq_false (by omega))
    rw [H.out]
    have t1 : 97 ≤ x := by omega
    have t2 : ¬ x ≤ 122 := by omega
    have t3 : 65 ≤ x := by omega
    have t4 : ¬ x ≤ 90 := by omega
    have t5 : 48 ≤ x := by omega
    have t6 : ¬ x ≤ 57 := by omega
    have d : (x == 45) = false := by simp; omega
    clear h
    go_enter Tryz.func62, Tryz.ntmps62
    go_wp2; go_ret; exact ⟨rfl, rfl⟩

set_option maxHeartbeats 400000 in
theorem blank_any (x : Int) (w : World) : Calls Tryz.prog 63 #[.int .u8 x] w fun e w' => e = .returned (.bool (isBl x)) ∧ w = w' := by
  by_cases h1 : x = 32
  · subst h1
    rw [show isBl 32 = true by decide]
    go_enter Tryz.func63, Tryz.ntmps63
    go_wp2; go_ret; exact ⟨rfl, rfl⟩
  · have d1 : (x == 32) = false := by simpa using h1
    by_cases h2 : x = 9
    · subst h2
      rw [show isBl 9 = true by decide]
      clear h1 d1
      go_enter Tryz.func63, Tryz.ntmps63
      go_wp2; go_ret; exact ⟨rfl, rfl⟩
    · have d2 : (x == 9) = false := by simpa using h2
      have H := Lib.hid (show isBl x = false by unfold isBl; exact decide_eq_false (by omega))
      rw [H.out]
      clear h1 h2
      go_enter Tryz.func63, Tryz.ntmps63
      go_wp2; go_ret; exact ⟨rfl, rfl⟩

theorem low_isB {l : List Int} (h : IsB l) : IsB (l.map Hm.low) := fun x hx => by
  obtain ⟨y, hy, rfl⟩ := List.mem_map.1 hx
  have := h y hy
  unfold Hm.low; split <;> omega

set_option maxRecDepth 100000 in
set_option maxHeartbeats 1600000 in
theorem low_any (A : Option Addr) (n c : Nat) (l : List Int) (w : World) (s : Sl .u8 w A n c l) (hb : IsB l) (hn : n ≤ 512) :
    Calls Tryz.prog 64 #[.slice A n c] w fun e w' => e = .returned (.string (bs (l.map Hm.low))) ∧ Below w.heap.size w w' := by
  obtain ⟨i0, hi, hz0, hz1, hz2⟩ := info_parts u8_info
  have hlen := s.len
  have S := Lib.hid s
  have HL := Lib.hid hlen
  have HB := Lib.hid hb
  clear s hlen hb
  go_enter Tryz.func64, Tryz.ntmps64
  go_wp2
  go_loopw [3, 4] (fun ov ix W => ∃ k : Nat, k ≤ n ∧ ix = .int .i64 k ∧ Own .u8 5 W w.heap.size ov ((l.map Hm.low).take k) ∧ Below w.heap.size w W) (fun _ ix _ => n - (intOf ix).toNat)
  case atStart => exact ⟨0, Nat.zero_le _, rfl, Own.nil, Below.refl _ _⟩
  case round =>
    obtain ⟨k, hk, rfl, ho, hb⟩ := hrel
    have HO := Lib.hid ho
    have HBW := Lib.hid hb
    have hsz := hb.size
    have hl5 : ((l.map Hm.low).take k).length ≤ 512 := by rw [List.length_take, List.length_map, HL.out]; omega
    have HL5 := Lib.hid hl5
    clear ho hb hl5
    by_cases hkn : k < n
    · have i1 : (k : Int) < (n : Int) := by omega
      obtain ⟨b1, o1, x, rfl, hx, hcx, hlt⟩ := (S.out.below HBW.out).row.look (j := k) (by omega)
      have hxb := HB.out.at_ hx
      obtain ⟨hx0, hx1⟩ := hxb
      by_cases hu : 65 ≤ x ∧ x ≤ 90
      · obtain ⟨hu1, hu2⟩ := hu
        have hN : (l.map Hm.low)[k]? = some (x + 32) := by rw [List.getElem?_map, hx]; unfold Hm.low; simp; omega
        have HN := Lib.hid hN
        clear hx hN
        have HO5 := Lib.hid (World.ownsRow.alloc HO.out (.cells #[.int .u8 (x + 32)] 5))
        have TE5 : Sl .u8 (wr.alloc (.cells #[.int .u8 (x + 32)] 5)) (some ⟨wr.heap.size, 0, none⟩) 1 1 [x + 32] := Sl.new wr [x + 32] 5 .u8 (by unfold maxLen; simp)
        have TE5 := Lib.hid TE5
        go_wp2_with (at_builtin; refine wp_app rfl _ _ _ rfl w.heap.size Tryz.underlying27 hi hz0 hz1 hz2 rfl rfl HO5.out rfl TE5.out (by have := HL5.out; omega) (by have := HL5.out; unfold maxLen; omega) (by simp; omega) ?_; intro v6 w6 ho6 hb6 _)
        have HO6 := Lib.hid ho6
        have HB6 := Lib.hid ((HBW.out.alloc hsz _).trans hb6)
        clear ho6 hb6
        go_wp2
        go_roundw
        case rel =>
          refine ⟨k + 1, by omega, by go_num, ?_, HB6.out⟩
          rw [List.take_add_one, HN.out]
          exact HO6.out
        case measure => simp [intOf]; omega
      · have hN : (l.map Hm.low)[k]? = some x := by rw [List.getElem?_map, hx]; unfold Hm.low; rw [Option.map_some, if_neg hu]
        have HN := Lib.hid hN
        clear hx hN
        have HO5 := Lib.hid (World.ownsRow.alloc HO.out (.cells #[.int .u8 x] 5))
        have TE5 : Sl .u8 (wr.alloc (.cells #[.int .u8 x] 5)) (some ⟨wr.heap.size, 0, none⟩) 1 1 [x] := Sl.new wr [x] 5 .u8 (by unfold maxLen; simp)
        have TE5 := Lib.hid TE5
        by_cases hu1 : 65 ≤ x
        · have hu2 : ¬ x ≤ 90 := by omega
          clear hu
          go_wp2_with (at_builtin; refine wp_app rfl _ _ _ rfl w.heap.size Tryz.underlying27 hi hz0 hz1 hz2 rfl rfl HO5.out rfl TE5.out (by have := HL5.out; omega) (by have := HL5.out; unfold maxLen; omega) (by simp; omega) ?_; intro v6 w6 ho6 hb6 _)
          have HO6 := Lib.hid ho6
          have HB6 := Lib.hid ((HBW.out.alloc hsz _).trans hb6)
          clear ho6 hb6
          go_wp2
          go_roundw
          case rel =>
            refine ⟨k + 1, by omega, by go_num, ?_, HB6.out⟩
            rw [List.take_add_one, HN.out]
            exact HO6.out
          case measure => simp [intOf]; omega
        · clear hu
          go_wp2_with (at_builtin; refine wp_app rfl _ _ _ rfl w.heap.size Tryz.underlying27 hi hz0 hz1 hz2 rfl rfl HO5.out rfl TE5.out (by have := HL5.out; omega) (by have := HL5.out; unfold maxLen; omega) (by simp; omega) ?_; intro v6 w6 ho6 hb6 _)
          have HO6 := Lib.hid ho6
          have HB6 := Lib.hid ((HBW.out.alloc hsz _).trans hb6)
          clear ho6 hb6
          go_wp2
          go_roundw
          case rel =>
            refine ⟨k + 1, by omega, by go_num, ?_, HB6.out⟩
            rw [List.take_add_one, HN.out]
            exact HO6.out
          case measure => simp [intOf]; omega
    · obtain rfl : k = n := by omega
      obtain ⟨A2, c2, rfl, t2, -⟩ := HO.out.sl
      have hmk : (l.map Hm.low).take k = l.map Hm.low := List.take_of_length_le (by rw [List.length_map, HL.out]; exact Nat.le_refl _)
      have hml : (l.map Hm.low).length = k := by rw [List.length_map, HL.out]
      rw [hmk, hml] at t2 ⊢
      clear hmk hml
      have kc := conv_bs t2
      go_wp2
      go_ret
      exact ⟨rfl, HBW.out⟩
end Hf
end Go.Proofs.YtigiiofiajhnlaaGreatDoor
