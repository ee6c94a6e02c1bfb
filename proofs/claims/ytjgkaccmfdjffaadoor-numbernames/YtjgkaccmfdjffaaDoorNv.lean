/-
  The library's strings.TrimLeft, TrimRight, ToLower, HasPrefix, Repeat and Cut at this program, in the words of lists.
-/
import Derived.Test.YtjgkaccmfdjffaaDoorNt
namespace Go.Proofs.YtjgkaccmfdjffaaDoor
set_option linter.unusedVariables false
set_option linter.unusedSimpArgs false
open Go.RowKit
namespace Nu
open Wd We Es
open Dm (Ds vl decs)

/-- bytes as a string holds them -/
def u8s (l : List Int) : List UInt8 := l.map fun n => UInt8.ofNat n.toNat
theorem bs_u8s (l : List Int) : (⟨(u8s l).toArray⟩ : ByteArray) = Dm.bs l := rfl
theorem u8s_list (l : List Int) : (Dm.bs l).data.toList = u8s l := by unfold Dm.bs u8s; simp
theorem drop_u8s {p : UInt8 → Bool} {q : Int → Bool} (hp : ∀ x : Int, 0 ≤ x → x ≤ 255 → p (UInt8.ofNat x.toNat) = q x) : ∀ {l : List Int}, IsB l → (u8s l).dropWhile p = u8s (l.dropWhile q)
  | [], _ => rfl
  | a :: l, h => by
    have ha := h a (by simp)
    have ih := drop_u8s hp (l := l) (fun x hx => h x (by simp [hx]))
    show List.dropWhile p (UInt8.ofNat a.toNat :: u8s l) = _
    rw [List.dropWhile_cons, List.dropWhile_cons, hp a ha.1 ha.2]
    cases q a
    · rfl
    · exact ih
theorem u8s_rev (l : List Int) : (u8s l).reverse = u8s l.reverse := by unfold u8s; rw [List.map_reverse]
theorem byte_u8 {p : UInt8 → Bool} {q : Int → Bool} (h : ∀ n : Fin 256, p (UInt8.ofNat n) = q (n : Nat)) : ∀ x : Int, 0 ≤ x → x ≤ 255 → p (UInt8.ofNat x.toNat) = q x := fun x h0 h1 =>
  byte_all9 (P := fun x => p (UInt8.ofNat x.toNat) = q x) (fun n => h n) h0 h1
/-- a sign -/
def sgn (x : Int) : Bool := decide (x = 43 ∨ x = 45)
theorem isB_drop {l : List Int} (p : Int → Bool) (h : IsB l) : IsB (l.dropWhile p) := fun x hx => h x ((List.dropWhile_sublist p).mem hx)
theorem asc48 : ∀ (j : Nat) (b : UInt8), (⟨#[48]⟩ : ByteArray).data.toList[j]? = some b → b.toNat < 128 := ascii_of_all (by decide)
theorem asc43 : ∀ (j : Nat) (b : UInt8), (⟨#[43, 45]⟩ : ByteArray).data.toList[j]? = some b → b.toNat < 128 := ascii_of_all (by decide)
theorem h116 : (Tryd.prog.info? (Sb.tl_ren.t 116)).map (fun i => (i.zero, i.size)) = some (some (.agg (Array.replicate 256 (.bool false))), 256) := by kernel_rfl
theorem h116r : (Tryd.prog.info? (Sb.tr_ren.t 116)).map (fun i => (i.zero, i.size)) = some (some (.agg (Array.replicate 256 (.bool false))), 256) := by kernel_rfl
theorem trimL_nought (l : List Int) (hb : IsB l) (w : World) : Calls Tryd.prog 58 #[.string (Dm.bs l), .string ⟨#[48]⟩] w fun e w' => e = .returned (.string (Dm.bs (nz l))) ∧ Below w.heap.size w w' := by
  refine (Any.strings_TrimLeft_laid Sb.tl_lays h116 (Dm.bs l) ⟨#[48]⟩ w (by decide) asc48).mono ?_
  rintro e w' ⟨rfl, hw⟩
  refine ⟨?_, hw⟩
  unfold Lib.trimLeftS
  rw [u8s_list, drop_u8s (q := n48) (byte_u8 (by decide +kernel)) hb]
  rfl
theorem trimL_sign (l : List Int) (hb : IsB l) (w : World) : Calls Tryd.prog 58 #[.string (Dm.bs l), .string ⟨#[43, 45]⟩] w fun e w' => e = .returned (.string (Dm.bs (l.dropWhile sgn))) ∧ Below w.heap.size w w' := by
  refine (Any.strings_TrimLeft_laid Sb.tl_lays h116 (Dm.bs l) ⟨#[43, 45]⟩ w (by decide) asc43).mono ?_
  rintro e w' ⟨rfl, hw⟩
  refine ⟨?_, hw⟩
  unfold Lib.trimLeftS
  rw [u8s_list, drop_u8s (q := sgn) (byte_u8 (by decide +kernel)) hb]
  rfl
theorem trimR_nought (l : List Int) (hb : IsB l) (hn : l.length ≤ 9223372036854775807) (w : World) : Calls Tryd.prog 59 #[.string (Dm.bs l), .string ⟨#[48]⟩] w fun e w' => e = .returned (.string (Dm.bs (ez l))) ∧ Below w.heap.size w w' := by
  refine (Any.strings_TrimRight_laid Sb.tr_lays h116r (Dm.bs l) ⟨#[48]⟩ w (by rw [Dm.bs_size]; exact hn) (by decide) asc48).mono ?_
  rintro e w' ⟨rfl, hw⟩
  refine ⟨?_, hw⟩
  unfold Lib.trimRightS
  rw [u8s_list, u8s_rev, drop_u8s (q := n48) (byte_u8 (by decide +kernel)) (fun x hx => hb x (List.mem_reverse.1 hx)), u8s_rev]
  rfl
/-- small letters -/
def lo9 (x : Int) : Int := if 65 ≤ x ∧ x ≤ 90 then x + 32 else x
theorem lower_u8s : ∀ {l : List Int}, IsB l → (u8s l).map Lib.lowerB = u8s (l.map lo9)
  | [], _ => rfl
  | a :: l, h => by
    have ha := h a (by simp)
    have ih := lower_u8s (l := l) (fun x hx => h x (by simp [hx]))
    show Lib.lowerB (UInt8.ofNat a.toNat) :: (u8s l).map Lib.lowerB = UInt8.ofNat (lo9 a).toNat :: u8s (l.map lo9)
    rw [ih, byte_all9 (P := fun x => Lib.lowerB (UInt8.ofNat x.toNat) = UInt8.ofNat (lo9 x).toNat) (by decide +kernel) ha.1 ha.2]
theorem low_any (l : List Int) (hb : ∀ x ∈ l, 0 ≤ x ∧ x < 128) (hn : l.length ≤ 140737488355328) (w : World) : Calls Tryd.prog 42 #[.string (Dm.bs l)] w fun e w' => e = .returned (.string (Dm.bs (l.map lo9))) ∧ Below w.heap.size w w' := by
  refine (Any.strings_ToLower_ascii Sb.low_lays Sb.low_extra (Dm.bs l) w (by rw [Dm.bs_size]; exact hn) ?_).mono ?_
  · intro j b hj
    rw [u8s_list] at hj
    unfold u8s at hj
    rw [List.getElem?_map] at hj
    obtain ⟨x, hx, rfl⟩ := Option.map_eq_some_iff.1 hj
    have := hb x (List.mem_of_getElem? hx)
    rw [UInt8.toNat_ofNat']; omega
  · rintro e w' ⟨rfl, hw⟩
    refine ⟨?_, hw⟩
    unfold Lib.toLowerA
    rw [u8s_list, lower_u8s (fun x hx => by have := hb x hx; omega)]
    rfl
theorem pre_minus (l : List Int) (hb : IsB l) (w : World) : Calls Tryd.prog 47 #[.string (Dm.bs l), .string ⟨#[45]⟩] w fun e w' => e = .returned (.bool (hd1 45 45 l)) ∧ w' = w := by
  refine (Any.strings_HasPrefix Sb.hp_lays (Dm.bs l) ⟨#[45]⟩ w).mono ?_
  rintro e w' ⟨rfl, rfl⟩
  refine ⟨?_, rfl⟩
  rw [u8s_list]
  cases l with
  | nil => rfl
  | cons a l =>
    have ha := hb a (by simp)
    have : Lib.hasPrefix (u8s (a :: l)) [45] = hd1 45 45 (a :: l) := by
      show Lib.hasPrefix (UInt8.ofNat a.toNat :: u8s l) [45] = decide (a = 45 ∨ a = 45)
      have h := byte_all9 (P := fun x => (UInt8.ofNat x.toNat == 45) = decide (x = 45 ∨ x = 45)) (by decide +kernel) ha.1 ha.2
      rw [← h]
      show ([45].isPrefixOf (UInt8.ofNat a.toNat :: u8s l)) = _
      rw [List.isPrefixOf_cons_cons, List.isPrefixOf_nil_left, Bool.and_true]
      by_cases g : UInt8.ofNat a.toNat = 45
      · rw [g]
      · rw [beq_eq_false_iff_ne.2 g, beq_eq_false_iff_ne.2 (fun q => g q.symm)]
    rw [this]
theorem rep_any (k : Nat) (hk : k ≤ 16) (w : World) : Calls Tryd.prog 38 #[.string ⟨#[48]⟩, .int .i64 k] w fun e w' => e = .returned (.string (Dm.bs (List.replicate k 48))) ∧ Below w.heap.size w w' := by
  refine (Any.strings_Repeat Sb.rep_lays Sb.rep_extra ⟨#[48]⟩ k w (by omega) (by show 1 * k ≤ _; omega)).mono ?_
  rintro e w' ⟨rfl, hw⟩
  refine ⟨?_, hw⟩
  have : Lib.repeatL [48] k = u8s (List.replicate k 48) := by
    have h : ∀ k, Lib.repeatL [48] k = List.replicate k (48 : UInt8) := by
      intro k
      induction k with
      | zero => rfl
      | succ k ih => show [48] ++ Lib.repeatL [48] k = _; rw [ih]; rfl
    rw [h]; unfold u8s; rw [List.map_replicate]; rfl
  show Ending.returned (.string ⟨(Lib.repeatL [48] k).toArray⟩) = _
  rw [this]; rfl

/-! ### strings.Cut at a small letter e -/
theorem ib_none {l : List Int} (hb : IsB l) (h : ∀ x ∈ l, x ≠ 101) : Lib.indexByte (u8s l) 101 = -1 := by
  induction l with
  | nil => rfl
  | cons a l ih =>
    have ha := hb a (by simp)
    have ih := ih (fun x hx => hb x (by simp [hx])) (fun x hx => h x (by simp [hx]))
    have hne := byte_all9 (P := fun x => x ≠ 101 → (UInt8.ofNat x.toNat == 101) = false) (by decide +kernel) ha.1 ha.2 (h a (by simp))
    show Lib.indexByte (UInt8.ofNat a.toNat :: u8s l) 101 = -1
    simp only [Lib.indexByte, hne, ih]
    rfl
theorem ib_some {a b : List Int} (hb : IsB a) (h : ∀ x ∈ a, x ≠ 101) : Lib.indexByte (u8s (a ++ 101 :: b)) 101 = (a.length : Int) := by
  induction a with
  | nil => rfl
  | cons x a ih =>
    have ha := hb x (by simp)
    have ih := ih (fun x hx => hb x (by simp [hx])) (fun x hx => h x (by simp [hx]))
    have hne := byte_all9 (P := fun x => x ≠ 101 → (UInt8.ofNat x.toNat == 101) = false) (by decide +kernel) ha.1 ha.2 (h x (by simp))
    show Lib.indexByte (UInt8.ofNat x.toNat :: u8s (a ++ 101 :: b)) 101 = _
    have hm : ¬ (a.length : Int) = -1 := by omega
    simp only [Lib.indexByte, hne, ih]
    simp [hm]
/-- where the letter is -/
def wh (l : List Int) : Int := Lib.indexByte (u8s l) 101
set_option maxRecDepth 100000 in
set_option maxHeartbeats 4000000 in
theorem index_any (l : List Int) (hb : IsB l) (hne : l ≠ [101]) (hn : l.length ≤ 140737488355328) (w : World) :
    Calls Tryd.prog 66 #[.string (Dm.bs l), .string ⟨#[101]⟩] w fun e w' => e = .returned (.int .i64 (wh l)) ∧ w' = w := by
  have CON := Lib.hid (fun w' => Any.stringslite_IndexByte Sb.sib_lays (Dm.bs l) 101 w')
  have hne3 : (([101] : List UInt8) == (Dm.bs l).toList) = false := by
    have h2 := Dm.bs_eq (l := [101]) (r := l) (isB_all (by decide)) hb
    rw [decide_eq_false (fun g => hne g.symm), Dm.bs_list] at h2
    exact h2
  have hw : wh l = Lib.indexByte (Dm.bs l).data.toList 101 := by unfold wh; rw [u8s_list]
  rw [hw]
  obtain ⟨S, hS⟩ : ∃ S, Dm.bs l = S := ⟨_, rfl⟩
  rw [hS] at hne3 CON ⊢
  clear hw hS hb hne hn
  go_enter Tryd.func66, Tryd.ntmps66
  go_wp2_with fail
  refine (CON.out w).mono ?_
  rintro e w1 ⟨rfl, rfl⟩
  go_wp2
  go_ret
  exact ⟨rfl, rfl⟩
theorem cut_size {l : List Int} (h : IsB l) (i j : Nat) (hi : i ≤ j) (hj : j ≤ l.length) : (Dm.bs l).extract i j = Dm.bs ((l.take j).drop i) := by
  apply ByteArray.ext
  rw [ByteArray.data_extract]
  unfold Dm.bs
  simp [List.extract_toArray, List.map_drop, List.map_take, List.drop_take]
set_option maxRecDepth 100000 in
set_option maxHeartbeats 4000000 in
theorem cut_yes (a b : List Int) (hb : IsB (a ++ 101 :: b)) (ha : ∀ x ∈ a, x ≠ 101) (hne : a ≠ []) (hn : (a ++ 101 :: b).length ≤ 140737488355328) (w : World) :
    Calls Tryd.prog 41 #[.string (Dm.bs (a ++ 101 :: b)), .string ⟨#[101]⟩] w fun e w' => e = .returned (.tuple #[.string (Dm.bs a), .string (Dm.bs b), .bool true]) ∧ Below w.heap.size w w' := by
  have CON := Lib.hid (fun w' => index_any (a ++ 101 :: b) hb (fun g => by
    rcases a with _ | ⟨x, a⟩
    · exact hne rfl
    · have := congrArg List.length g
      rw [List.length_append] at this
      simp only [List.length_cons, List.length_nil] at this; omega) hn w')
  have hwh : wh (a ++ 101 :: b) = (a.length : Int) := ib_some (fun x hx => hb x (List.mem_append_left _ hx)) ha
  rw [hwh] at CON
  have hsz : (Dm.bs (a ++ 101 :: b)).size = (a ++ 101 :: b).length := Dm.bs_size _
  have hl : (a ++ 101 :: b).length = a.length + 1 + b.length := by rw [List.length_append, List.length_cons]; omega
  have E1 : (Dm.bs (a ++ 101 :: b)).extract 0 a.length = Dm.bs a := by rw [cut_size hb 0 _ (by omega) (by omega)]; simp
  have E2 : (Dm.bs (a ++ 101 :: b)).extract (a.length + 1) (a ++ 101 :: b).length = Dm.bs b := by
    rw [cut_size hb _ _ (by omega) (Nat.le_refl _), List.take_length, List.drop_append, List.drop_of_length_le (Nat.le_succ _), Nat.add_sub_cancel_left]; rfl
  obtain ⟨N, hN⟩ : ∃ N, (a ++ 101 :: b).length = N := ⟨_, rfl⟩
  obtain ⟨k, hk⟩ : ∃ k, a.length = k := ⟨_, rfl⟩
  obtain ⟨S, hS⟩ : ∃ S, Dm.bs (a ++ 101 :: b) = S := ⟨_, rfl⟩
  obtain ⟨A, hA⟩ : ∃ A, Dm.bs a = A := ⟨_, rfl⟩
  obtain ⟨B, hB⟩ : ∃ B, Dm.bs b = B := ⟨_, rfl⟩
  rw [hN, hk] at hl
  rw [hN] at E2 hsz hn
  rw [hk] at E1 E2 CON
  rw [hS] at E1 E2 CON hsz ⊢
  rw [hA] at E1 ⊢
  rw [hB] at E2 ⊢
  have k0 : (0 : Int) ≤ (k : Int) := by omega
  have k1 : (k : Int) ≤ (S.size : Int) := by omega
  have k2 : (k : Int) + 1 ≤ (S.size : Int) := by omega
  have k3 : k ≤ S.size := by omega
  have k4 : k + 1 ≤ S.size := by omega
  have k5 : (S.size : Int) ≤ 140737488355328 := by omega
  rw [← hsz] at E2
  clear hN hk hS hA hB hwh hl hb ha hne hn hsz
  have SC : Calls Tryd.prog 53 #[.string S, .string ⟨#[101]⟩] w fun e w' => e = .returned (.tuple #[.string A, .string B, .bool true]) ∧ ∃ q, w' = w.drewN q := by
    go_enter Tryd.func53, Tryd.ntmps53
    go_wp2_with fail
    refine (CON.out w).mono ?_
    rintro e w1 ⟨rfl, rfl⟩
    go_wp2
    go_quiet (fail)
    go_wp2
    go_ret3
    exact ⟨rfl, _, rfl⟩
  have HSC := Lib.hid SC
  clear SC CON E1 E2
  go_enter Tryd.func41, Tryd.ntmps41
  go_wp2_with fail
  refine HSC.out.mono ?_
  rintro e w1 ⟨rfl, q, rfl⟩
  go_wp2
  go_ret3
  exact ⟨rfl, Wd.below_drewN (Below.refl _ _) q⟩
set_option maxRecDepth 100000 in
set_option maxHeartbeats 4000000 in
theorem cut_none (l : List Int) (hb : IsB l) (ha : ∀ x ∈ l, x ≠ 101) (hn : l.length ≤ 140737488355328) (w : World) :
    Calls Tryd.prog 41 #[.string (Dm.bs l), .string ⟨#[101]⟩] w fun e w' => e = .returned (.tuple #[.string (Dm.bs l), .string ⟨#[]⟩, .bool false]) ∧ Below w.heap.size w w' := by
  have CON := Lib.hid (fun w' => index_any l hb (fun g => by rw [g] at ha; exact ha 101 (by simp) rfl) hn w')
  have hwh : wh l = -1 := ib_none hb ha
  rw [hwh] at CON
  obtain ⟨S, hS⟩ : ∃ S, Dm.bs l = S := ⟨_, rfl⟩
  rw [hS] at CON ⊢
  clear hS hb ha hn hwh
  have SC : Calls Tryd.prog 53 #[.string S, .string ⟨#[101]⟩] w fun e w' => e = .returned (.tuple #[.string S, .string ⟨#[]⟩, .bool false]) ∧ ∃ q, w' = w.drewN q := by
    go_enter Tryd.func53, Tryd.ntmps53
    go_wp2_with fail
    refine (CON.out w).mono ?_
    rintro e w1 ⟨rfl, rfl⟩
    go_wp2
    go_ret3
    exact ⟨rfl, 0, rfl⟩
  have HSC := Lib.hid SC
  clear SC CON
  go_enter Tryd.func41, Tryd.ntmps41
  go_wp2_with fail
  refine HSC.out.mono ?_
  rintro e w1 ⟨rfl, q, rfl⟩
  go_wp2
  go_ret3
  exact ⟨rfl, Wd.below_drewN (Below.refl _ _) q⟩
end Nu
end Go.Proofs.YtjgkaccmfdjffaaDoor
