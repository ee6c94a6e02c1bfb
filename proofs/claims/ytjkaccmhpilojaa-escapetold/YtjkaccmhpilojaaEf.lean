/-
  What is asked of the program's Quote and Unquote (layer 8); the statements' tells, fails and awake, where they are so.
-/
import Derived.Test.YtjkaccmhpilojaaEe
import Derived.KernelRfl
namespace Go.Proofs.Ytjkaccmhpilojaa
set_option linter.unusedVariables false
set_option linter.unusedSimpArgs false
open Go.RowKit
namespace Em
open Wd We Utf Es Wi Wf Wr

theorem ext_trans8 {a b c : World} (h : Below a.heap.size a b) (k : Below b.heap.size b c) : Below a.heap.size a c := h.trans (k.mono h.size)
/-- the program's Unquote answers what the document's does -/
def UnqOk : Prop := ∀ (A : Option Addr) (n c : Nat) (l : List Int) (a : Int) (w : World), Sl .u8 w A n c l → IsB l → n ≤ 140737488351232 → -9223372036854775808 ≤ a → a ≤ 9223372036854775807 →
  Calls Try.prog 14 #[.slice A n c, .int .i64 a] w (UP l a w)
/-- the program's Quote answers what the document's does -/
structure QuoOk : Prop where
  yes : ∀ (cs : List Int) (w : World), Chars cs → (encs cs).length ≤ 20000000000000 →
    Calls Try.prog 10 #[.string (Dm.bs (encs cs))] w fun e w' => e = .returned (.tuple #[.string (Dm.bs (quo cs)), .int .i64 0]) ∧ Below w.heap.size w w'
  no : ∀ (l : List Int) (w : World), IsB l → l.length ≤ 20000000000000 → (chk l).2.2 ≠ 0 →
    Calls Try.prog 10 #[.string (Dm.bs l)] w fun e w' => e = .returned (.tuple #[.string ⟨#[]⟩, .int .i64 10]) ∧ Below w.heap.size w w'

set_option maxRecDepth 100000 in
set_option maxHeartbeats 800000 in
theorem tells_any (HU : UnqOk) (s z : ByteArray) (l m : List Int) (hs : s = Dm.bs l) (hz : z = Dm.bs m) (hb : IsB l) (hn : l.length ≤ 140737488351232) (h : unq l = (m, l.length, 0)) (w : World) :
    Calls Try.prog 20 #[.string s, .string z] w fun e w' => e = .returned (.bool true) ∧ Below w.heap.size w w' := by
  subst hs; subst hz
  obtain ⟨c, w1, kc, t, hbl⟩ := conv_back w rfl hb (by unfold maxLen; omega)
  have CON := HU _ _ _ _ 0 w1 t hb hn (by omega) (by omega)
  unfold UP at CON
  have h0 : uq l ((0 : Nat) : Int) = (m, ((0 + l.length : Nat) : Int), 0) := uq_good (Nat.zero_le _) (by rw [List.drop_zero]; exact h)
  rw [show ((0 : Nat) : Int) = 0 from rfl] at h0
  rw [h0] at CON
  have HC := Lib.hid CON
  have HB := Lib.hid hbl
  have hsz : (Dm.bs l).size = l.length := Dm.bs_size l
  obtain ⟨L, hL⟩ : ∃ L, l.length = L := ⟨_, rfl⟩
  rw [hL] at HC hsz kc
  obtain ⟨S, hS⟩ : ∃ S, Dm.bs l = S := ⟨_, rfl⟩
  rw [hS] at hsz kc ⊢
  obtain ⟨Z, hZ⟩ : ∃ Z, Dm.bs m = Z := ⟨_, rfl⟩
  dsimp only at HC
  rw [hZ] at HC ⊢
  have hn' : (L : Int) ≤ 9223372036854775807 := by omega
  clear CON t hbl h0 h hb hL hS hZ hn
  go_enter Try.func20, Try.ntmps20
  go_wp2_with fail
  refine HC.out.mono ?_
  rintro e w2 ⟨rfl, hb2⟩
  have HB2 := Lib.hid (HB.out.trans (hb2.mono HB.out.size))
  clear hb2
  go_wp2
  go_ret
  exact ⟨by simp, HB2.out⟩
set_option maxRecDepth 100000 in
set_option maxHeartbeats 800000 in
theorem fails_any (HU : UnqOk) (s : ByteArray) (l : List Int) (x : Int) (hs : s = Dm.bs l) (hb : IsB l) (hn : l.length ≤ 140737488351232) (h : unq l = ([], 0, x)) (hx : x ≠ 0) (w : World) :
    Calls Try.prog 33 #[.string s, .int .i64 x] w fun e w' => e = .returned (.bool true) ∧ Below w.heap.size w w' := by
  subst hs
  obtain ⟨c, w1, kc, t, hbl⟩ := conv_back w rfl hb (by unfold maxLen; omega)
  have CON := HU _ _ _ _ 0 w1 t hb hn (by omega) (by omega)
  unfold UP at CON
  have h0 : uq l ((0 : Nat) : Int) = ([], 0, x) := uq_bad (Nat.zero_le _) (by rw [List.drop_zero]; exact h) hx
  rw [show ((0 : Nat) : Int) = 0 from rfl] at h0
  rw [h0] at CON
  have HC := Lib.hid CON
  have HB := Lib.hid hbl
  obtain ⟨L, hL⟩ : ∃ L, l.length = L := ⟨_, rfl⟩
  rw [hL] at HC kc
  obtain ⟨S, hS⟩ : ∃ S, Dm.bs l = S := ⟨_, rfl⟩
  rw [hS] at kc ⊢
  have e0 : Dm.bs [] = ⟨#[]⟩ := rfl
  dsimp only at HC
  rw [e0] at HC
  clear CON t hbl h0 h hb hL hS hn e0
  go_enter Try.func33, Try.ntmps33
  go_wp2_with fail
  refine HC.out.mono ?_
  rintro e w2 ⟨rfl, hb2⟩
  have HB2 := Lib.hid (HB.out.trans (hb2.mono HB.out.size))
  clear hb2
  go_wp2
  go_ret
  exact ⟨by simp, HB2.out⟩
theorem aq0 : (⟨#[97, 34, 10, 1]⟩ : ByteArray) = Dm.bs (encs [97, 34, 10, 1]) := by kernel_rfl
theorem aq1 : Dm.bs (quo [97, 34, 10, 1]) = (⟨#[34, 97, 92, 34, 92, 110, 92, 117, 48, 48, 48, 49, 34]⟩ : ByteArray) := by kernel_rfl
theorem aq2 : Chars [97, 34, 10, 1] := fun c hc => by
  simp at hc
  rcases hc with rfl | rfl | rfl | rfl <;> decide
theorem as0 : (⟨#[34, 92, 117, 48, 48, 52, 49, 92, 47, 92, 116, 34]⟩ : ByteArray) = Dm.bs [34, 92, 117, 48, 48, 52, 49, 92, 47, 92, 116, 34] := by kernel_rfl
theorem ab0 : IsB [34, 92, 117, 48, 48, 52, 49, 92, 47, 92, 116, 34] := isB_all (by decide)
theorem az0 : (⟨#[65, 47, 9]⟩ : ByteArray) = Dm.bs [65, 47, 9] := by kernel_rfl
theorem au0 : unq [34, 92, 117, 48, 48, 52, 49, 92, 47, 92, 116, 34] = ([65, 47, 9], [34, 92, 117, 48, 48, 52, 49, 92, 47, 92, 116, 34].length, 0) := by decide +kernel
theorem as1 : (⟨#[34, 92, 117, 100, 56, 51, 100, 92, 117, 100, 101, 48, 48, 34]⟩ : ByteArray) = Dm.bs [34, 92, 117, 100, 56, 51, 100, 92, 117, 100, 101, 48, 48, 34] := by kernel_rfl
theorem ab1 : IsB [34, 92, 117, 100, 56, 51, 100, 92, 117, 100, 101, 48, 48, 34] := isB_all (by decide)
theorem az1 : (⟨#[240, 159, 152, 128]⟩ : ByteArray) = Dm.bs [240, 159, 152, 128] := by kernel_rfl
theorem au1 : unq [34, 92, 117, 100, 56, 51, 100, 92, 117, 100, 101, 48, 48, 34] = ([240, 159, 152, 128], [34, 92, 117, 100, 56, 51, 100, 92, 117, 100, 101, 48, 48, 34].length, 0) := by decide +kernel
theorem as2 : (⟨#[34, 92, 117, 100, 56, 51, 100, 120, 34]⟩ : ByteArray) = Dm.bs [34, 92, 117, 100, 56, 51, 100, 120, 34] := by kernel_rfl
theorem ab2 : IsB [34, 92, 117, 100, 56, 51, 100, 120, 34] := isB_all (by decide)
theorem az2 : (⟨#[239, 191, 189, 120]⟩ : ByteArray) = Dm.bs [239, 191, 189, 120] := by kernel_rfl
theorem au2 : unq [34, 92, 117, 100, 56, 51, 100, 120, 34] = ([239, 191, 189, 120], [34, 92, 117, 100, 56, 51, 100, 120, 34].length, 0) := by decide +kernel
theorem as3 : (⟨#[34, 92, 117, 100, 101, 48, 48, 92, 117, 100, 56, 51, 100, 34]⟩ : ByteArray) = Dm.bs [34, 92, 117, 100, 101, 48, 48, 92, 117, 100, 56, 51, 100, 34] := by kernel_rfl
theorem ab3 : IsB [34, 92, 117, 100, 101, 48, 48, 92, 117, 100, 56, 51, 100, 34] := isB_all (by decide)
theorem az3 : (⟨#[239, 191, 189, 239, 191, 189]⟩ : ByteArray) = Dm.bs [239, 191, 189, 239, 191, 189] := by kernel_rfl
theorem au3 : unq [34, 92, 117, 100, 101, 48, 48, 92, 117, 100, 56, 51, 100, 34] = ([239, 191, 189, 239, 191, 189], [34, 92, 117, 100, 101, 48, 48, 92, 117, 100, 56, 51, 100, 34].length, 0) := by decide +kernel
theorem as4 : (⟨#[34, 97]⟩ : ByteArray) = Dm.bs [34, 97] := by kernel_rfl
theorem ab4 : IsB [34, 97] := isB_all (by decide)
theorem au4 : unq [34, 97] = ([], 0, 3) := by decide +kernel
theorem as5 : (⟨#[120]⟩ : ByteArray) = Dm.bs [120] := by kernel_rfl
theorem ab5 : IsB [120] := isB_all (by decide)
theorem au5 : unq [120] = ([], 0, 80) := by decide +kernel
theorem as6 : (⟨#[34, 92, 120, 34]⟩ : ByteArray) = Dm.bs [34, 92, 120, 34] := by kernel_rfl
theorem ab6 : IsB [34, 92, 120, 34] := isB_all (by decide)
theorem au6 : unq [34, 92, 120, 34] = ([], 0, 80) := by decide +kernel
theorem as7 : (⟨#[34, 92, 117, 49, 50, 103, 52, 34]⟩ : ByteArray) = Dm.bs [34, 92, 117, 49, 50, 103, 52, 34] := by kernel_rfl
theorem ab7 : IsB [34, 92, 117, 49, 50, 103, 52, 34] := isB_all (by decide)
theorem au7 : unq [34, 92, 117, 49, 50, 103, 52, 34] = ([], 0, 80) := by decide +kernel
set_option maxRecDepth 100000 in
set_option maxHeartbeats 4000000 in
theorem awake8 (HU : UnqOk) (HQ : QuoOk) (w : World) : Calls Try.prog 12 #[] w fun e w' => e = .returned (.bool true) ∧ Below w.heap.size w w' := by
  have Q0 := HQ.yes [97, 34, 10, 1] w aq2 (by decide)
  rw [← aq0, aq1] at Q0
  have HQ0 := Lib.hid Q0
  clear Q0
  go_enter Try.func12, Try.ntmps12
  go_wp2_with fail
  refine HQ0.out.mono ?_
  rintro e w0 ⟨rfl, hb0⟩
  have H0 := Lib.hid hb0
  clear hb0
  go_wp2_with fail
  refine (tells_any HU _ _ _ _ as0 az0 ab0 (by decide) au0 w0).mono ?_
  rintro e w1 ⟨rfl, hb1⟩
  have H1 := Lib.hid (ext_trans8 H0.out hb1)
  clear hb1
  go_wp2_with fail
  refine (tells_any HU _ _ _ _ as1 az1 ab1 (by decide) au1 w1).mono ?_
  rintro e w2 ⟨rfl, hb2⟩
  have H2 := Lib.hid (ext_trans8 H1.out hb2)
  clear hb2
  go_wp2_with fail
  refine (tells_any HU _ _ _ _ as2 az2 ab2 (by decide) au2 w2).mono ?_
  rintro e w3 ⟨rfl, hb3⟩
  have H3 := Lib.hid (ext_trans8 H2.out hb3)
  clear hb3
  go_wp2_with fail
  refine (tells_any HU _ _ _ _ as3 az3 ab3 (by decide) au3 w3).mono ?_
  rintro e w4 ⟨rfl, hb4⟩
  have H4 := Lib.hid (ext_trans8 H3.out hb4)
  clear hb4
  go_wp2_with fail
  refine (fails_any HU _ _ 3 as4 ab4 (by decide) au4 (by decide) w4).mono ?_
  rintro e w5 ⟨rfl, hb5⟩
  have H5 := Lib.hid (ext_trans8 H4.out hb5)
  clear hb5
  go_wp2_with fail
  refine (fails_any HU _ _ 80 as5 ab5 (by decide) au5 (by decide) w5).mono ?_
  rintro e w6 ⟨rfl, hb6⟩
  have H6 := Lib.hid (ext_trans8 H5.out hb6)
  clear hb6
  go_wp2_with fail
  refine (fails_any HU _ _ 80 as6 ab6 (by decide) au6 (by decide) w6).mono ?_
  rintro e w7 ⟨rfl, hb7⟩
  have H7 := Lib.hid (ext_trans8 H6.out hb7)
  clear hb7
  go_wp2_with fail
  refine (fails_any HU _ _ 80 as7 ab7 (by decide) au7 (by decide) w7).mono ?_
  rintro e w8 ⟨rfl, hb8⟩
  have H8 := Lib.hid (ext_trans8 H7.out hb8)
  clear hb8
  go_wp2
  go_ret
  exact ⟨rfl, H8.out⟩
end Em
end Go.Proofs.Ytjkaccmhpilojaa
