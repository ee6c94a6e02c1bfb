/-
  What is asked of the program's Check, Same and Int (layer 9); the statements' part, ends, fails, whole, none and awake, where they are so.
-/
import Derived.Test.YtjgkaccmfdjffaaDoorNp
import Derived.Test.YtjgkaccmfdjffaaDoorFo
namespace Go.Proofs.YtjgkaccmfdjffaaDoor
set_option linter.unusedVariables false
set_option linter.unusedSimpArgs false
open Go.RowKit
namespace Nu
open Wd We Es
open Dm (Ds vl decs)

/-- the program's Check, Same and Int answer what the document's do -/
structure NumOk : Prop where
  check : ∀ (A : Option Addr) (n c : Nat) (l : List Int) (a : Int) (w : World), Sl .u8 w A n c l → IsB l → n ≤ 140737488355000 → -9223372036854775808 ≤ a → a ≤ 9223372036854775807 →
    Calls Tryd.prog 13 #[.slice A n c, .int .i64 a] w fun e w' => e = .returned (.tuple #[.int .i64 (uc l a).1, .int .i64 (uc l a).2]) ∧ Below w.heap.size w w'
  same : ∀ (a b : List Int) (w : World), IsB a → IsB b → a.length ≤ 140737488351232 → b.length ≤ 140737488351232 →
    Calls Tryd.prog 17 #[.string (Dm.bs a), .string (Dm.bs b)] w fun e w' => e = .returned (.bool (sam a b)) ∧ Below w.heap.size w w'
  int : ∀ (l : List Int) (w : World), IsB l → l.length ≤ 140737488351232 →
    Calls Tryd.prog 19 #[.string (Dm.bs l)] w fun e w' => e = .returned (.tuple #[.int .i64 (itg l).1, .bool (itg l).2]) ∧ Below w.heap.size w w'

/-- the i-th bytes of a list, or none -/
def nth (ls : List (List Int)) (i : Nat) : List Int := (ls[i]?).getD []
set_option maxRecDepth 100000 in
set_option maxHeartbeats 1600000 in
theorem part_any (A : Option Addr) (n c : Nat) (ls : List (List Int)) (i : Nat) (hi : i < 10) (w : World) (s : LL w A n c ls) (hb : ∀ l ∈ ls, IsB l) :
    Calls Tryd.prog 27 #[.slice A n c, .int .i64 (i : Int)] w fun e w' => e = .returned (.string (Dm.bs (dgt (nth ls i)))) ∧ Below w.heap.size w w' := by
  have hlen := s.len
  by_cases h : i < n
  · have h' : (i : Int) < (n : Int) := by omega
    obtain ⟨b, off, X, m, k, l, hA, hl, hc, sl, _⟩ := s.look h
    subst hA
    have hn : nth ls i = l := by unfold nth; rw [hl]; rfl
    have DG := Lib.hid (digits_any X m k l w sl (hb l (List.mem_of_getElem? hl)))
    rw [hn]
    obtain ⟨Z, hZ⟩ : ∃ Z, Dm.bs (dgt l) = Z := ⟨_, rfl⟩
    rw [hZ] at DG ⊢
    clear hn hl sl hb s hZ
    go_enter Tryd.func27, Tryd.ntmps27
    go_wp2_with fail
    refine DG.out.mono ?_
    rintro e w1 ⟨rfl, hb1⟩
    go_wp2
    go_ret
    exact ⟨rfl, hb1⟩
  · have h' : ¬ (i : Int) < (n : Int) := by omega
    have hn : nth ls i = [] := by unfold nth; rw [List.getElem?_eq_none (by omega)]; rfl
    rw [hn]
    clear hn hb s
    go_enter Tryd.func27, Tryd.ntmps27
    go_wp2
    go_ret
    exact ⟨rfl, Below.refl _ _⟩
set_option maxRecDepth 100000 in
set_option maxHeartbeats 800000 in
theorem ends_any (H : NumOk) (s : ByteArray) (l : List Int) (x : Int) (hs : s = Dm.bs l) (hb : IsB l) (hn : l.length ≤ 140737488351232) (h : uc l 0 = (x, 0)) (w : World) :
    Calls Tryd.prog 28 #[.string s, .int .i64 x] w fun e w' => e = .returned (.bool true) ∧ Below w.heap.size w w' := by
  subst hs
  obtain ⟨c, w1, kc, t, hbl⟩ := conv_back w rfl hb (by unfold maxLen; omega)
  have CON := H.check _ _ _ _ 0 w1 t hb (by omega) (by omega) (by omega)
  rw [h] at CON
  have HC := Lib.hid CON
  have HB := Lib.hid hbl
  obtain ⟨L, hL⟩ : ∃ L, l.length = L := ⟨_, rfl⟩
  rw [hL] at HC kc
  obtain ⟨S, hS⟩ : ∃ S, Dm.bs l = S := ⟨_, rfl⟩
  rw [hS] at kc ⊢
  dsimp only at HC
  clear CON t hbl h hb hL hS hn
  go_enter Tryd.func28, Tryd.ntmps28
  go_wp2_with fail
  refine HC.out.mono ?_
  rintro e w2 ⟨rfl, hb2⟩
  have HB2 := Lib.hid (ext9 HB.out hb2)
  clear hb2
  go_wp2
  go_ret
  exact ⟨by first | rfl | simp, HB2.out⟩
set_option maxRecDepth 100000 in
set_option maxHeartbeats 800000 in
theorem fails_any (H : NumOk) (s : ByteArray) (l : List Int) (x : Int) (hs : s = Dm.bs l) (hb : IsB l) (hn : l.length ≤ 140737488351232) (h : uc l 0 = (0, x)) (w : World) :
    Calls Tryd.prog 34 #[.string s, .int .i64 x] w fun e w' => e = .returned (.bool true) ∧ Below w.heap.size w w' := by
  subst hs
  obtain ⟨c, w1, kc, t, hbl⟩ := conv_back w rfl hb (by unfold maxLen; omega)
  have CON := H.check _ _ _ _ 0 w1 t hb (by omega) (by omega) (by omega)
  rw [h] at CON
  have HC := Lib.hid CON
  have HB := Lib.hid hbl
  obtain ⟨L, hL⟩ : ∃ L, l.length = L := ⟨_, rfl⟩
  rw [hL] at HC kc
  obtain ⟨S, hS⟩ : ∃ S, Dm.bs l = S := ⟨_, rfl⟩
  rw [hS] at kc ⊢
  dsimp only at HC
  clear CON t hbl h hb hL hS hn
  go_enter Tryd.func34, Tryd.ntmps34
  go_wp2_with fail
  refine HC.out.mono ?_
  rintro e w2 ⟨rfl, hb2⟩
  have HB2 := Lib.hid (ext9 HB.out hb2)
  clear hb2
  go_wp2
  go_ret
  exact ⟨by first | rfl | simp, HB2.out⟩
set_option maxRecDepth 100000 in
set_option maxHeartbeats 800000 in
theorem whole_any (H : NumOk) (s : ByteArray) (l : List Int) (x : Int) (hs : s = Dm.bs l) (hb : IsB l) (hn : l.length ≤ 140737488351232) (h : itg l = (x, true)) (w : World) :
    Calls Tryd.prog 25 #[.string s, .int .i64 x] w fun e w' => e = .returned (.bool true) ∧ Below w.heap.size w w' := by
  subst hs
  have CON := H.int l w hb hn
  rw [h] at CON
  have HC := Lib.hid CON
  obtain ⟨S, hS⟩ : ∃ S, Dm.bs l = S := ⟨_, rfl⟩
  rw [hS] at HC ⊢
  dsimp only at HC
  clear CON h hb hS hn
  go_enter Tryd.func25, Tryd.ntmps25
  go_wp2_with fail
  refine HC.out.mono ?_
  rintro e w2 ⟨rfl, hb2⟩
  go_wp2
  go_ret
  exact ⟨by first | rfl | simp, hb2⟩
set_option maxRecDepth 100000 in
set_option maxHeartbeats 800000 in
theorem none_any (H : NumOk) (s : ByteArray) (l : List Int) (hs : s = Dm.bs l) (hb : IsB l) (hn : l.length ≤ 140737488351232) (h : itg l = (0, false)) (w : World) :
    Calls Tryd.prog 26 #[.string s] w fun e w' => e = .returned (.bool true) ∧ Below w.heap.size w w' := by
  subst hs
  have CON := H.int l w hb hn
  rw [h] at CON
  have HC := Lib.hid CON
  obtain ⟨S, hS⟩ : ∃ S, Dm.bs l = S := ⟨_, rfl⟩
  rw [hS] at HC ⊢
  dsimp only at HC
  clear CON h hb hS hn
  go_enter Tryd.func26, Tryd.ntmps26
  go_wp2_with fail
  refine HC.out.mono ?_
  rintro e w2 ⟨rfl, hb2⟩
  go_wp2
  go_ret
  exact ⟨by first | rfl | simp, hb2⟩
theorem a9s0 : (⟨#[45, 49, 50, 46, 53, 48, 101, 43, 51, 44]⟩ : ByteArray) = Dm.bs [45, 49, 50, 46, 53, 48, 101, 43, 51, 44] := by kernel_rfl
theorem a9b0 : IsB [45, 49, 50, 46, 53, 48, 101, 43, 51, 44] := isB_all (by decide)
theorem a9v0 : uc [45, 49, 50, 46, 53, 48, 101, 43, 51, 44] 0 = (9, 0) := by decide +kernel
theorem a9s1 : (⟨#[48, 49, 50, 51]⟩ : ByteArray) = Dm.bs [48, 49, 50, 51] := by kernel_rfl
theorem a9b1 : IsB [48, 49, 50, 51] := isB_all (by decide)
theorem a9v1 : uc [48, 49, 50, 51] 0 = (1, 0) := by decide +kernel
theorem a9s2 : (⟨#[45]⟩ : ByteArray) = Dm.bs [45] := by kernel_rfl
theorem a9b2 : IsB [45] := isB_all (by decide)
theorem a9v2 : uc [45] 0 = (0, 3) := by decide +kernel
theorem a9s3 : (⟨#[49, 46]⟩ : ByteArray) = Dm.bs [49, 46] := by kernel_rfl
theorem a9b3 : IsB [49, 46] := isB_all (by decide)
theorem a9v3 : uc [49, 46] 0 = (0, 3) := by decide +kernel
theorem a9s4 : (⟨#[49, 101, 43]⟩ : ByteArray) = Dm.bs [49, 101, 43] := by kernel_rfl
theorem a9b4 : IsB [49, 101, 43] := isB_all (by decide)
theorem a9v4 : uc [49, 101, 43] 0 = (0, 3) := by decide +kernel
theorem a9s5 : (⟨#[]⟩ : ByteArray) = Dm.bs [] := by kernel_rfl
theorem a9b5 : IsB [] := isB_all (by decide)
theorem a9v5 : uc [] 0 = (0, 3) := by decide +kernel
theorem a9s6 : (⟨#[45, 97]⟩ : ByteArray) = Dm.bs [45, 97] := by kernel_rfl
theorem a9b6 : IsB [45, 97] := isB_all (by decide)
theorem a9v6 : uc [45, 97] 0 = (0, 90) := by decide +kernel
theorem a9s7 : (⟨#[49, 46, 101, 53]⟩ : ByteArray) = Dm.bs [49, 46, 101, 53] := by kernel_rfl
theorem a9b7 : IsB [49, 46, 101, 53] := isB_all (by decide)
theorem a9v7 : uc [49, 46, 101, 53] 0 = (0, 90) := by decide +kernel
theorem a9s8 : (⟨#[43, 49]⟩ : ByteArray) = Dm.bs [43, 49] := by kernel_rfl
theorem a9b8 : IsB [43, 49] := isB_all (by decide)
theorem a9v8 : uc [43, 49] 0 = (0, 90) := by decide +kernel
theorem a9s9 : (⟨#[49, 46, 53, 48]⟩ : ByteArray) = Dm.bs [49, 46, 53, 48] := by kernel_rfl
theorem a9b9 : IsB [49, 46, 53, 48] := isB_all (by decide)
theorem a9t9 : (⟨#[49, 53, 101, 45, 49]⟩ : ByteArray) = Dm.bs [49, 53, 101, 45, 49] := by kernel_rfl
theorem a9c9 : IsB [49, 53, 101, 45, 49] := isB_all (by decide)
theorem a9v9 : sam [49, 46, 53, 48] [49, 53, 101, 45, 49] = true := by decide +kernel
theorem a9s10 : (⟨#[45, 48]⟩ : ByteArray) = Dm.bs [45, 48] := by kernel_rfl
theorem a9b10 : IsB [45, 48] := isB_all (by decide)
theorem a9t10 : (⟨#[48, 101, 57]⟩ : ByteArray) = Dm.bs [48, 101, 57] := by kernel_rfl
theorem a9c10 : IsB [48, 101, 57] := isB_all (by decide)
theorem a9v10 : sam [45, 48] [48, 101, 57] = true := by decide +kernel
theorem a9s11 : (⟨#[49]⟩ : ByteArray) = Dm.bs [49] := by kernel_rfl
theorem a9b11 : IsB [49] := isB_all (by decide)
theorem a9t11 : (⟨#[49, 48]⟩ : ByteArray) = Dm.bs [49, 48] := by kernel_rfl
theorem a9c11 : IsB [49, 48] := isB_all (by decide)
theorem a9v11 : sam [49] [49, 48] = false := by decide +kernel
theorem a9s12 : (⟨#[49, 46, 50, 48, 101, 50]⟩ : ByteArray) = Dm.bs [49, 46, 50, 48, 101, 50] := by kernel_rfl
theorem a9b12 : IsB [49, 46, 50, 48, 101, 50] := isB_all (by decide)
theorem a9v12 : itg [49, 46, 50, 48, 101, 50] = (120, true) := by decide +kernel
theorem a9s13 : (⟨#[45, 48]⟩ : ByteArray) = Dm.bs [45, 48] := by kernel_rfl
theorem a9b13 : IsB [45, 48] := isB_all (by decide)
theorem a9v13 : itg [45, 48] = (0, true) := by decide +kernel
theorem a9s14 : (⟨#[48, 46, 53]⟩ : ByteArray) = Dm.bs [48, 46, 53] := by kernel_rfl
theorem a9b14 : IsB [48, 46, 53] := isB_all (by decide)
theorem a9v14 : itg [48, 46, 53] = (0, false) := by decide +kernel
theorem a9s15 : (⟨#[57, 48, 48, 55, 49, 57, 57, 50, 53, 52, 55, 52, 48, 57, 57, 50]⟩ : ByteArray) = Dm.bs [57, 48, 48, 55, 49, 57, 57, 50, 53, 52, 55, 52, 48, 57, 57, 50] := by kernel_rfl
theorem a9b15 : IsB [57, 48, 48, 55, 49, 57, 57, 50, 53, 52, 55, 52, 48, 57, 57, 50] := isB_all (by decide)
theorem a9v15 : itg [57, 48, 48, 55, 49, 57, 57, 50, 53, 52, 55, 52, 48, 57, 57, 50] = (0, false) := by decide +kernel
theorem same_at (H : NumOk) (s t : ByteArray) (a b : List Int) (r : Bool) (hs : s = Dm.bs a) (ht : t = Dm.bs b) (ha : IsB a) (hb : IsB b) (hn : a.length ≤ 140737488351232) (hm : b.length ≤ 140737488351232) (h : sam a b = r) (w : World) :
    Calls Tryd.prog 17 #[.string s, .string t] w fun e w' => e = .returned (.bool r) ∧ Below w.heap.size w w' := by
  subst hs; subst ht; subst h
  exact H.same a b w ha hb hn hm
set_option maxRecDepth 100000 in
set_option maxHeartbeats 4000000 in
theorem awake9 (H : NumOk) (w : World) : Calls Tryd.prog 16 #[] w fun e w' => e = .returned (.bool true) ∧ Below w.heap.size w w' := by
  have H0 := Lib.hid (Below.refl w.heap.size w)
  go_enter Tryd.func16, Tryd.ntmps16
  go_wp2_with fail
  refine (ends_any H _ _ _ a9s0 a9b0 (by decide) a9v0 w).mono ?_
  rintro e x0 ⟨rfl, hb0⟩
  have H1 := Lib.hid (ext9 H0.out hb0)
  clear hb0
  go_wp2_with fail
  refine (ends_any H _ _ _ a9s1 a9b1 (by decide) a9v1 x0).mono ?_
  rintro e x1 ⟨rfl, hb1⟩
  have H2 := Lib.hid (ext9 H1.out hb1)
  clear hb1
  go_wp2_with fail
  refine (fails_any H _ _ _ a9s2 a9b2 (by decide) a9v2 x1).mono ?_
  rintro e x2 ⟨rfl, hb2⟩
  have H3 := Lib.hid (ext9 H2.out hb2)
  clear hb2
  go_wp2_with fail
  refine (fails_any H _ _ _ a9s3 a9b3 (by decide) a9v3 x2).mono ?_
  rintro e x3 ⟨rfl, hb3⟩
  have H4 := Lib.hid (ext9 H3.out hb3)
  clear hb3
  go_wp2_with fail
  refine (fails_any H _ _ _ a9s4 a9b4 (by decide) a9v4 x3).mono ?_
  rintro e x4 ⟨rfl, hb4⟩
  have H5 := Lib.hid (ext9 H4.out hb4)
  clear hb4
  go_wp2_with fail
  refine (fails_any H _ _ _ a9s5 a9b5 (by decide) a9v5 x4).mono ?_
  rintro e x5 ⟨rfl, hb5⟩
  have H6 := Lib.hid (ext9 H5.out hb5)
  clear hb5
  go_wp2_with fail
  refine (fails_any H _ _ _ a9s6 a9b6 (by decide) a9v6 x5).mono ?_
  rintro e x6 ⟨rfl, hb6⟩
  have H7 := Lib.hid (ext9 H6.out hb6)
  clear hb6
  go_wp2_with fail
  refine (fails_any H _ _ _ a9s7 a9b7 (by decide) a9v7 x6).mono ?_
  rintro e x7 ⟨rfl, hb7⟩
  have H8 := Lib.hid (ext9 H7.out hb7)
  clear hb7
  go_wp2_with fail
  refine (fails_any H _ _ _ a9s8 a9b8 (by decide) a9v8 x7).mono ?_
  rintro e x8 ⟨rfl, hb8⟩
  have H9 := Lib.hid (ext9 H8.out hb8)
  clear hb8
  go_wp2_with fail
  refine (same_at H _ _ _ _ true a9s9 a9t9 a9b9 a9c9 (by decide) (by decide) a9v9 x8).mono ?_
  rintro e x9 ⟨rfl, hb9⟩
  have H10 := Lib.hid (ext9 H9.out hb9)
  clear hb9
  go_wp2_with fail
  refine (same_at H _ _ _ _ true a9s10 a9t10 a9b10 a9c10 (by decide) (by decide) a9v10 x9).mono ?_
  rintro e x10 ⟨rfl, hb10⟩
  have H11 := Lib.hid (ext9 H10.out hb10)
  clear hb10
  go_wp2_with fail
  refine (same_at H _ _ _ _ false a9s11 a9t11 a9b11 a9c11 (by decide) (by decide) a9v11 x10).mono ?_
  rintro e x11 ⟨rfl, hb11⟩
  have H12 := Lib.hid (ext9 H11.out hb11)
  clear hb11
  go_wp2_with fail
  refine (whole_any H _ _ _ a9s12 a9b12 (by decide) a9v12 x11).mono ?_
  rintro e x12 ⟨rfl, hb12⟩
  have H13 := Lib.hid (ext9 H12.out hb12)
  clear hb12
  go_wp2_with fail
  refine (whole_any H _ _ _ a9s13 a9b13 (by decide) a9v13 x12).mono ?_
  rintro e x13 ⟨rfl, hb13⟩
  have H14 := Lib.hid (ext9 H13.out hb13)
  clear hb13
  go_wp2_with fail
  refine (none_any H _ _ a9s14 a9b14 (by decide) a9v14 x13).mono ?_
  rintro e x14 ⟨rfl, hb14⟩
  have H15 := Lib.hid (ext9 H14.out hb14)
  clear hb14
  go_wp2_with fail
  refine (none_any H _ _ a9s15 a9b15 (by decide) a9v15 x14).mono ?_
  rintro e x15 ⟨rfl, hb15⟩
  have H16 := Lib.hid (ext9 H15.out hb15)
  clear hb15
  go_wp2
  go_ret
  exact ⟨by first | rfl | simp, H16.out⟩
end Nu
end Go.Proofs.YtjgkaccmfdjffaaDoor
