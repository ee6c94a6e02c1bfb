/-
  What the statements' letters and mixed of layer 6 compute.
-/
import Derived.Test.YtcjpdkhbcbpafaaDoorHj
import Derived.Test.YtcjpdkhbcbpafaaDoorHg
namespace Go.Proofs.YtcjpdkhbcbpafaaDoor
set_option linter.unusedVariables false
open Go.RowKit
namespace Hk
open Wd We Dm Da Dc Dd Hm Hg Hj

/-- a letter, or that letter as a great one -/
def MxR (x y : Int) : Prop := y = x ∨ (97 ≤ x ∧ x ≤ 122 ∧ y = x - 32)
def Mx (l q : List Int) : Prop := q.length = l.length ∧ ∀ (j : Nat) (x y : Int), l[j]? = some x → q[j]? = some y → MxR x y
def MxPost (s : ByteArray) (w : World) (e : Ending) (w' : World) : Prop := ∃ q, e = .returned (.string (bs q)) ∧ Mx (lof s) q ∧ IsB q ∧ Below w.heap.size w w'
/-- letters of bytes -/
def lts (l : List Int) : List Int := (l.take 20).map fun x => 97 + x % 26
theorem lof_at (s : ByteArray) {k : Nat} (h : k < s.size) : (lof s)[k]? = some ((s[k]).toNat : Int) := by
  unfold lof
  rw [List.getElem?_map, List.getElem?_eq_getElem (by simpa using h)]
  rfl
theorem Mx.nil : Mx [] [] := ⟨rfl, fun j x y h => by simp at h⟩
theorem Mx.snoc {l q : List Int} {k : Nat} {x y : Int} (h : Mx (l.take k) q) (hk : l[k]? = some x) (hy : MxR x y) : Mx (l.take (k + 1)) (q ++ [y]) := by
  have hkl : k < l.length := lt_of_some hk
  have hq : q.length = k := by rw [h.1, List.length_take]; omega
  have e : l.take (k + 1) = l.take k ++ [x] := by
    rw [List.take_add_one, hk]; rfl
  refine ⟨by rw [e, List.length_append, List.length_append, h.1, List.length_singleton, List.length_singleton], fun j a b ha hb => ?_⟩
  rw [e] at ha
  rcases Nat.lt_trichotomy j k with g | g | g
  · rw [List.getElem?_append_left (by rw [List.length_take]; omega)] at ha
    rw [List.getElem?_append_left (by omega)] at hb
    exact h.2 j a b ha hb
  · subst g
    rw [List.getElem?_append_right (by rw [List.length_take]; omega), List.length_take, Nat.min_eq_left (by omega), Nat.sub_self] at ha
    rw [List.getElem?_append_right (by omega), hq, Nat.sub_self] at hb
    simp at ha hb; subst ha hb; exact hy
  · rw [List.getElem?_eq_none (by simp; omega)] at ha; cases ha

set_option maxRecDepth 100000 in
set_option maxHeartbeats 1600000 in
theorem mixed_any (s : ByteArray) (hs : s.size ≤ 1000) (b : Int) (w : World) :
    Calls Tryd.prog 19 #[.string s, .int .i64 b] w (MxPost s w) := by
  obtain ⟨i0, hi, hz0, hz1, hz2⟩ := info_parts u8_info
  go_enter Tryd.func19, Tryd.ntmps19
  go_wp2
  go_loopw [5, 6] (fun ov ix wr => ∃ (k : Nat) (q : List Int), k ≤ s.size ∧ ix = .int .i64 k ∧ Own .u8 5 wr w.heap.size ov q ∧ Mx ((lof s).take k) q ∧ IsB q ∧ Below w.heap.size w wr) (fun _ ix _ => s.size - (intOf ix).toNat)
  case atStart => exact ⟨0, [], by omega, rfl, Own.nil, by simpa using Mx.nil, fun x hx => by simp at hx, Below.refl _ _⟩
  case round =>
    obtain ⟨k, q, hk, rfl, ho, hm, hq, hb⟩ := hrel
    have HO := Lib.hid ho
    have HM := Lib.hid hm
    have HQ := Lib.hid hq
    have HB := Lib.hid hb
    have hsz := hb.size
    have hql : q.length ≤ 1000 := by rw [hm.1, List.length_take]; omega
    clear ho hm hq hb
    by_cases hks : k < s.size
    · have i1 : (k : Int) < (s.size : Int) := by omega
      have HX := Lib.hid (lof_at s hks)
      have hx0 := lof_byte s _ (List.mem_of_getElem? (lof_at s hks))
      by_cases h1 : 97 ≤ (s[k].toNat : Int) ∧ (s[k].toNat : Int) ≤ 122
      · obtain ⟨h1, h2⟩ := h1
        by_cases h3 : (bits .and .i64 (b / 2 ^ (k % 40)) 1 == 1) = true
        · have HO2 := Lib.hid (World.ownsRow.alloc HO.out (.cells #[.int .u8 ((s[k].toNat : Int) - 32)] 5))
          have TE : Sl .u8 (wr.alloc (.cells #[.int .u8 ((s[k].toNat : Int) - 32)] 5)) (some ⟨wr.heap.size, 0, none⟩) 1 1 [(s[k].toNat : Int) - 32] := Sl.new wr [(s[k].toNat : Int) - 32] 5 .u8 (by unfold maxLen; simp)
          have TE := Lib.hid TE
          have HM2 := Lib.hid (HM.out.snoc HX.out (y := (s[k].toNat : Int) - 32) (.inr ⟨by omega, by omega, rfl⟩))
          have HQ2 : IsB (q ++ [(s[k].toNat : Int) - 32]) := HQ.out.append (fun x hx => by rw [List.mem_singleton.1 hx]; omega)
          have HQ2 := Lib.hid HQ2
          go_wp2_with (at_builtin; refine wp_app rfl _ _ _ rfl w.heap.size Tryd.underlying22 hi hz0 hz1 hz2 rfl rfl HO2.out rfl TE.out (by omega) (by unfold maxLen; omega) (by simp; omega) ?_; intro v3 w3 ho3 hb3 _)
          have HO3 := Lib.hid ho3
          have HB3 := Lib.hid ((HB.out.alloc hsz _).trans hb3)
          clear ho3 hb3
          go_wp2
          go_roundw
          case rel => exact ⟨k + 1, _, by omega, by go_num, HO3.out, HM2.out, HQ2.out, HB3.out⟩
          case measure => simp [intOf]; omega
        · replace h3 : (bits .and .i64 (b / 2 ^ (k % 40)) 1 == 1) = false := by simpa using h3
          have HO2 := Lib.hid (World.ownsRow.alloc HO.out (.cells #[.int .u8 ((s[k].toNat : Int))] 5))
          have TE : Sl .u8 (wr.alloc (.cells #[.int .u8 ((s[k].toNat : Int))] 5)) (some ⟨wr.heap.size, 0, none⟩) 1 1 [(s[k].toNat : Int)] := Sl.new wr [(s[k].toNat : Int)] 5 .u8 (by unfold maxLen; simp)
          have TE := Lib.hid TE
          have HM2 := Lib.hid (HM.out.snoc HX.out (y := (s[k].toNat : Int)) (.inl rfl))
          have HQ2 : IsB (q ++ [(s[k].toNat : Int)]) := HQ.out.append (fun x hx => by rw [List.mem_singleton.1 hx]; omega)
          have HQ2 := Lib.hid HQ2
          go_wp2_with (at_builtin; refine wp_app rfl _ _ _ rfl w.heap.size Tryd.underlying22 hi hz0 hz1 hz2 rfl rfl HO2.out rfl TE.out (by omega) (by unfold maxLen; omega) (by simp; omega) ?_; intro v3 w3 ho3 hb3 _)
          have HO3 := Lib.hid ho3
          have HB3 := Lib.hid ((HB.out.alloc hsz _).trans hb3)
          clear ho3 hb3
          go_wp2
          go_roundw
          case rel => exact ⟨k + 1, _, by omega, by go_num, HO3.out, HM2.out, HQ2.out, HB3.out⟩
          case measure => simp [intOf]; omega
      · by_cases h97 : 97 ≤ (s[k].toNat : Int)
        · have h122 : ¬ (s[k].toNat : Int) ≤ 122 := fun g => h1 ⟨h97, g⟩
          clear h1
          have HO2 := Lib.hid (World.ownsRow.alloc HO.out (.cells #[.int .u8 ((s[k].toNat : Int))] 5))
          have TE : Sl .u8 (wr.alloc (.cells #[.int .u8 ((s[k].toNat : Int))] 5)) (some ⟨wr.heap.size, 0, none⟩) 1 1 [(s[k].toNat : Int)] := Sl.new wr [(s[k].toNat : Int)] 5 .u8 (by unfold maxLen; simp)
          have TE := Lib.hid TE
          have HM2 := Lib.hid (HM.out.snoc HX.out (y := (s[k].toNat : Int)) (.inl rfl))
          have HQ2 : IsB (q ++ [(s[k].toNat : Int)]) := HQ.out.append (fun x hx => by rw [List.mem_singleton.1 hx]; omega)
          have HQ2 := Lib.hid HQ2
          go_wp2_with (at_builtin; refine wp_app rfl _ _ _ rfl w.heap.size Tryd.underlying22 hi hz0 hz1 hz2 rfl rfl HO2.out rfl TE.out (by omega) (by unfold maxLen; omega) (by simp; omega) ?_; intro v3 w3 ho3 hb3 _)
          have HO3 := Lib.hid ho3
          have HB3 := Lib.hid ((HB.out.alloc hsz _).trans hb3)
          clear ho3 hb3
          go_wp2
          go_roundw
          case rel => exact ⟨k + 1, _, by omega, by go_num, HO3.out, HM2.out, HQ2.out, HB3.out⟩
          case measure => simp [intOf]; omega
        · clear h1
          have HO2 := Lib.hid (World.ownsRow.alloc HO.out (.cells #[.int .u8 ((s[k].toNat : Int))] 5))
          have TE : Sl .u8 (wr.alloc (.cells #[.int .u8 ((s[k].toNat : Int))] 5)) (some ⟨wr.heap.size, 0, none⟩) 1 1 [(s[k].toNat : Int)] := Sl.new wr [(s[k].toNat : Int)] 5 .u8 (by unfold maxLen; simp)
          have TE := Lib.hid TE
          have HM2 := Lib.hid (HM.out.snoc HX.out (y := (s[k].toNat : Int)) (.inl rfl))
          have HQ2 : IsB (q ++ [(s[k].toNat : Int)]) := HQ.out.append (fun x hx => by rw [List.mem_singleton.1 hx]; omega)
          have HQ2 := Lib.hid HQ2
          go_wp2_with (at_builtin; refine wp_app rfl _ _ _ rfl w.heap.size Tryd.underlying22 hi hz0 hz1 hz2 rfl rfl HO2.out rfl TE.out (by omega) (by unfold maxLen; omega) (by simp; omega) ?_; intro v3 w3 ho3 hb3 _)
          have HO3 := Lib.hid ho3
          have HB3 := Lib.hid ((HB.out.alloc hsz _).trans hb3)
          clear ho3 hb3
          go_wp2
          go_roundw
          case rel => exact ⟨k + 1, _, by omega, by go_num, HO3.out, HM2.out, HQ2.out, HB3.out⟩
          case measure => simp [intOf]; omega
    · have i1 : ¬ (k : Int) < (s.size : Int) := by omega
      obtain ⟨A2, c2, rfl, t2, -⟩ := HO.out.sl
      have kc := conv_bs t2
      have hm : Mx (lof s) q := by
        have := HM.out
        rwa [List.take_of_length_le (by rw [lof_length]; omega)] at this
      have HM3 := Lib.hid hm
      clear hm t2
      go_wp2
      go_ret
      exact ⟨q, rfl, HM3.out, HQ.out, HB.out⟩

set_option maxRecDepth 100000 in
set_option maxHeartbeats 1600000 in
theorem letters_any (A : Option Addr) (n c : Nat) (l : List Int) (w : World) (sl : Sl .u8 w A n c l) (hl : IsB l) :
    Calls Tryd.prog 20 #[.slice A n c] w fun e w' => e = .returned (.string (bs (lts l))) ∧ Below w.heap.size w w' := by
  obtain ⟨i0, hi, hz0, hz1, hz2⟩ := info_parts u8_info
  have hn := sl.max
  have hle := sl.le
  unfold maxLen at hn
  have HS := Lib.hid sl
  clear sl
  go_enter Tryd.func20, Tryd.ntmps20
  go_wp2
  go_loopw [3, 4] (fun ov ix wr => ∃ k : Nat, k ≤ n ∧ k ≤ 20 ∧ ix = .int .i64 k ∧ Own .u8 5 wr w.heap.size ov ((l.take k).map fun x => 97 + x % 26) ∧ Below w.heap.size w wr) (fun _ ix _ => 20 - (intOf ix).toNat)
  case atStart => exact ⟨0, by omega, by omega, rfl, Own.nil, Below.refl _ _⟩
  case round =>
    obtain ⟨k, hk, hk20, rfl, ho, hb⟩ := hrel
    have hql : ((l.take k).map fun x => 97 + x % 26).length = k := by rw [List.length_map, List.length_take, HS.out.len]; omega
    have HQL := Lib.hid hql
    have HO := Lib.hid ho
    have HB := Lib.hid hb
    have hsz := hb.size
    clear ho hb hql
    have hlen : (Builtin.len_ #[22] 3 #[Value.slice A n c]).run Tryd.prog wr = .ok (goInt n) wr := run_len_slice _ _ _ _ _ _ (by kernel_rfl)
    by_cases hkn : k < n ∧ k < 20
    · obtain ⟨hkn, hk2⟩ := hkn
      have i1 : (k : Int) < (n : Int) := by omega
      have i2 : (k : Int) < 20 := by omega
      obtain ⟨b1, o1, x, rfl, hx, hcx, hlt⟩ := (HS.out.below HB.out).row.look (j := k) (by omega)
      have hx0 := hl.at_ hx
      have HX : (l.take (k + 1)).map (fun x => 97 + x % 26) = ((l.take k).map fun x => 97 + x % 26) ++ [97 + x % 26] := by
        rw [List.take_add_one, hx, List.map_append]; rfl
      have HX := Lib.hid HX
      clear hx
      generalize ((l.take k).map fun x => 97 + x % 26) = q at *
      have hq20 : q.length ≤ 20 := by rw [HQL.out]; omega
      have HO2 := Lib.hid (World.ownsRow.alloc HO.out (.cells #[.int .u8 (97 + x % 26)] 5))
      have TE : Sl .u8 (wr.alloc (.cells #[.int .u8 (97 + x % 26)] 5)) (some ⟨wr.heap.size, 0, none⟩) 1 1 [97 + x % 26] := Sl.new wr [97 + x % 26] 5 .u8 (by unfold maxLen; simp)
      have TE := Lib.hid TE
      go_wp2_with (at_builtin; refine wp_app rfl _ _ _ rfl w.heap.size Tryd.underlying22 hi hz0 hz1 hz2 rfl rfl HO2.out rfl TE.out (by omega) (by unfold maxLen; omega) (by simp; omega) ?_; intro v3 w3 ho3 hb3 _)
      rw [← HX.out] at ho3
      have HO3 := Lib.hid ho3
      have HB3 := Lib.hid ((HB.out.alloc hsz _).trans hb3)
      clear ho3 hb3
      go_wp2
      go_roundw
      case rel => exact ⟨k + 1, by omega, by omega, by go_num, HO3.out, HB3.out⟩
      case measure => simp [intOf]; omega
    · obtain ⟨A2, c2, rfl, t2, -⟩ := HO.out.sl
      have kc := conv_bs t2
      have hq : ((l.take k).map fun x => 97 + x % 26) = lts l := by
        unfold lts
        by_cases h20 : k = 20
        · rw [h20]
        · rw [List.take_of_length_le (by rw [HS.out.len]; omega), List.take_of_length_le (by rw [HS.out.len]; omega)]
      generalize ((l.take k).map fun x => 97 + x % 26) = q at *
      generalize q.length = N at *
      rw [hq] at kc
      clear t2 hq HQL HO
      by_cases hkn2 : k < n
      · have i1 : (k : Int) < (n : Int) := by omega
        have i2 : ¬ (k : Int) < 20 := by omega
        clear hkn
        go_wp2
        go_ret
        exact ⟨rfl, HB.out⟩
      · have i1 : ¬ (k : Int) < (n : Int) := by omega
        clear hkn
        go_wp2
        go_ret
        exact ⟨rfl, HB.out⟩
end Hk
end Go.Proofs.YtcjpdkhbcbpafaaDoor
