/-
  The walk of NumberUnlike, for any numbers.
-/
import Derived.Test.YtjgkaccmfdjffaaDoorOd
namespace Go.Proofs.YtjgkaccmfdjffaaDoor
set_option linter.unusedVariables false
set_option linter.unusedSimpArgs false
open Go.RowKit
namespace Nu
open Wd We Es
open Dm (Ds vl decs)

theorem and53 (a : Int) : ∃ x : Nat, bits .and .i64 a 9007199254740991 = (x : Int) ∧ x < 9007199254740992 := by
  refine ⟨(BitVec.ofInt 64 a).toNat &&& 9007199254740991, ?_, ?_⟩
  · have hm : (BitVec.ofInt 64 a).toNat &&& 9007199254740991 ≤ 9007199254740991 := Nat.and_le_right
    have e : (BitVec.ofInt 64 9007199254740991).toNat = 9007199254740991 := by decide
    show IntKind.i64.wrap ((BitVec.ofInt 64 a &&& BitVec.ofInt 64 9007199254740991).toNat : Int) = _
    rw [BitVec.toNat_and, e, IntKind.wrap_i64]
    omega
  · have := Nat.and_le_right (n := (BitVec.ofInt 64 a).toNat) (m := 9007199254740991)
    omega
/-- a whole number, a thousandth of it, and below 0 -/
def w0 (x : Nat) : List Int := mk false (decs x) [] []
def w3 (x : Nat) : List Int := mk false (decs x) [] (101 :: ([45] ++ decs 3))
def wn (x : Nat) : List Int := mk true (decs x) [] []
theorem w0_eq (x : Nat) : Dm.bs (decs x) = Dm.bs (w0 x) := by unfold w0; rw [mk_plain]
theorem w3_eq (x : Nat) : Dm.bs (decs x) ++ ⟨#[101, 45, 51]⟩ = Dm.bs (w3 x) := by
  rw [show (⟨#[101, 45, 51]⟩ : ByteArray) = Dm.bs [101, 45, 51] from rfl, bs_app]
  congr 1
  have h3 : decs 3 = [51] := Dm.decs_one (by omega)
  unfold w3 mk
  rw [h3]
  simp [sg, fp]
theorem wn_eq (x : Nat) : (⟨#[45]⟩ : ByteArray) ++ Dm.bs (decs x) = Dm.bs (wn x) := by
  rw [show (⟨#[45]⟩ : ByteArray) = Dm.bs [45] from rfl, bs_app]
  congr 1
  unfold wn mk
  simp [sg, fp]
theorem w0_byte (x : Nat) : IsB (w0 x) := ex_byte (ip_decs x) ds_nil Ex.none
theorem w3_ex : Ex (101 :: ([45] ++ decs 3)) := ex_decs 101 (.inl rfl) [45] (.inr (.inr rfl)) 3
theorem w3_byte (x : Nat) : IsB (w3 x) := ex_byte (ip_decs x) ds_nil w3_ex
theorem wn_byte (x : Nat) : IsB (wn x) := ex_byte (ip_decs x) ds_nil Ex.none
theorem decs_19 {x : Nat} (h : x < 10000000000000000000) : (decs x).length ≤ 19 := Dm.decs_length_le h
theorem w0_len {x : Nat} (h : x < 10000000000000000000) : (w0 x).length ≤ 40 := by
  have h1 := mk_len false (decs x) [] []
  have := decs_19 h
  unfold w0; simp only [List.length_nil] at *; omega
theorem wn_len {x : Nat} (h : x < 10000000000000000000) : (wn x).length ≤ 40 := by
  have h1 := mk_len true (decs x) [] []
  have := decs_19 h
  unfold wn; simp only [List.length_nil] at *; omega
theorem w3_len {x : Nat} (h : x < 10000000000000000000) : (w3 x).length ≤ 80 := by
  have h1 := mk_len false (decs x) [] (101 :: ([45] ++ decs 3))
  have := decs_19 h
  have := decs_19 (x := 3) (by omega)
  unfold w3; simp only [List.length_nil, List.length_cons, List.length_append] at *; omega
theorem s00 (x y : Nat) : sam (w0 x) (w0 y) = decide (x = y) := sam_vw (val_plain x) (val_plain y)
theorem s33 (x y : Nat) : sam (w3 x) (w3 y) = decide (x = y) :=
  sam_vw (val_whole w3_ex (xp_decs (s := [45]) (.inr (.inr rfl)) (n := 3) (by omega))) (val_whole w3_ex (xp_decs (s := [45]) (.inr (.inr rfl)) (n := 3) (by omega)))
theorem sn0 (x y : Nat) : sam (wn x) (w0 y) = decide (x = 0 ∧ y = 0) := sam_neg (val_plain x) (val_plain y)

set_option maxRecDepth 100000 in
set_option maxHeartbeats 8000000 in
theorem core_NumberUnlike (H : NumOk) (a0 a1 : Int) (w : World) :
    Calls Tryd.prog 9 #[.int .i64 a0, .int .i64 a1] w fun e w' => e = .returned (.bool true) ∧ Below w.heap.size w w' := by
  obtain ⟨x, hx, hx2⟩ := and53 a0
  obtain ⟨y, hy, hy2⟩ := and53 a1
  have TX := Lib.hid (fun w' => text_any x (by omega) w')
  have TY := Lib.hid (fun w' => text_any y (by omega) w')
  have EX0 := w0_eq x
  have EY0 := w0_eq y
  have EX3 := w3_eq x
  have EY3 := w3_eq y
  have EXN := wn_eq x
  have xs : (Dm.bs (decs x)).size ≤ 19 := by rw [Dm.bs_size]; exact decs_19 (by omega)
  have ys : (Dm.bs (decs y)).size ≤ 19 := by rw [Dm.bs_size]; exact decs_19 (by omega)
  obtain ⟨S, hS⟩ : ∃ S, Dm.bs (decs x) = S := ⟨_, rfl⟩
  obtain ⟨T, hT⟩ : ∃ T, Dm.bs (decs y) = T := ⟨_, rfl⟩
  rw [hS] at TX EX0 EX3 EXN xs
  rw [hT] at TY EY0 EY3 ys
  have L1 : x < 10000000000000000000 := by omega
  have L2 : y < 10000000000000000000 := by omega
  have S1 := Lib.hid (same_at H _ _ _ _ _ EX0 EY0 (w0_byte x) (w0_byte y) (by have := w0_len L1; omega) (by have := w0_len L2; omega) (s00 x y))
  have S2 := Lib.hid (same_at H _ _ _ _ _ EX3 EY3 (w3_byte x) (w3_byte y) (by have := w3_len L1; omega) (by have := w3_len L2; omega) (s33 x y))
  have S3 := Lib.hid (same_at H _ _ _ _ _ EXN EY0 (wn_byte x) (w0_byte y) (by have := wn_len L1; omega) (by have := w0_len L2; omega) (sn0 x y))
  have B0 := Lib.hid (Below.refl w.heap.size w)
  clear EX0 EY0 EX3 EY3 EXN L1 L2 hx2 hy2
  rcases (show x = y ∧ x = 0 ∨ x = y ∧ x ≠ 0 ∨ x ≠ y ∧ x = 0 ∨ x ≠ y ∧ x ≠ 0 by omega) with ⟨g1, g2⟩ | ⟨g1, g2⟩ | ⟨g1, g2⟩ | ⟨g1, g2⟩
  · subst g2
    subst g1
    obtain rfl : S = T := hS.symm.trans hT
    rw [show ((0 : Nat) : Int) = 0 from rfl] at hx hy TX TY
    rw [show decide (0 = 0) = true by simp; try omega] at S1 S2
    rw [show decide (0 = 0 ∧ 0 = 0) = true by simp; try omega] at S3
    clear hS hT
    go_enter Tryd.func9, Tryd.ntmps9
    go_wp2_with fail
    refine (TX.out _).mono ?_
    rintro e v1 ⟨rfl, h1⟩
    have B1 := Lib.hid (ext9 B0.out h1)
    clear h1
    go_wp2_with fail
    refine (TY.out _).mono ?_
    rintro e v2 ⟨rfl, h2⟩
    have B2 := Lib.hid (ext9 B1.out h2)
    clear h2
    go_wp2_with fail
    refine (S1.out _).mono ?_
    rintro e v3 ⟨rfl, h3⟩
    have B3 := Lib.hid (ext9 B2.out h3)
    clear h3
    go_wp2_with fail
    refine (S2.out _).mono ?_
    rintro e v4 ⟨rfl, h4⟩
    have B4 := Lib.hid (ext9 B3.out h4)
    clear h4
    go_wp2_with fail
    refine (S3.out _).mono ?_
    rintro e v5 ⟨rfl, h5⟩
    have B5 := Lib.hid (ext9 B4.out h5)
    clear h5
    go_wp2_with fail
    refine (awake9 H _).mono ?_
    rintro e v6 ⟨rfl, h6⟩
    have B6 := Lib.hid (ext9 B5.out h6)
    clear h6
    go_wp2
    go_ret
    exact ⟨by first | rfl | (simp; done) | (simp; omega), B6.out⟩
  · subst g1
    obtain rfl : S = T := hS.symm.trans hT
    have i2 : ¬ (x : Int) = 0 := by omega
    rw [show decide (x = x) = true by simp; try omega] at S1 S2
    rw [show decide (x = 0 ∧ x = 0) = false by simp; try omega] at S3
    clear hS hT
    go_enter Tryd.func9, Tryd.ntmps9
    go_wp2_with fail
    refine (TX.out _).mono ?_
    rintro e v1 ⟨rfl, h1⟩
    have B1 := Lib.hid (ext9 B0.out h1)
    clear h1
    go_wp2_with fail
    refine (TY.out _).mono ?_
    rintro e v2 ⟨rfl, h2⟩
    have B2 := Lib.hid (ext9 B1.out h2)
    clear h2
    go_wp2_with fail
    refine (S1.out _).mono ?_
    rintro e v3 ⟨rfl, h3⟩
    have B3 := Lib.hid (ext9 B2.out h3)
    clear h3
    go_wp2_with fail
    refine (S2.out _).mono ?_
    rintro e v4 ⟨rfl, h4⟩
    have B4 := Lib.hid (ext9 B3.out h4)
    clear h4
    go_wp2_with fail
    refine (S3.out _).mono ?_
    rintro e v5 ⟨rfl, h5⟩
    have B5 := Lib.hid (ext9 B4.out h5)
    clear h5
    go_wp2_with fail
    refine (awake9 H _).mono ?_
    rintro e v6 ⟨rfl, h6⟩
    have B6 := Lib.hid (ext9 B5.out h6)
    clear h6
    go_wp2
    go_ret
    exact ⟨by first | rfl | (simp; done) | (simp; omega), B6.out⟩
  · subst g2
    rw [show ((0 : Nat) : Int) = 0 from rfl] at hx TX
    have i1 : ¬ (0 : Int) = (y : Int) := by omega
    have i3 : ¬ (y : Int) = 0 := by omega
    rw [show decide (0 = y) = false by simp; try omega] at S1 S2
    rw [show decide (0 = 0 ∧ y = 0) = false by simp; try omega] at S3
    clear hS hT
    go_enter Tryd.func9, Tryd.ntmps9
    go_wp2_with fail
    refine (TX.out _).mono ?_
    rintro e v1 ⟨rfl, h1⟩
    have B1 := Lib.hid (ext9 B0.out h1)
    clear h1
    go_wp2_with fail
    refine (TY.out _).mono ?_
    rintro e v2 ⟨rfl, h2⟩
    have B2 := Lib.hid (ext9 B1.out h2)
    clear h2
    go_wp2_with fail
    refine (S1.out _).mono ?_
    rintro e v3 ⟨rfl, h3⟩
    have B3 := Lib.hid (ext9 B2.out h3)
    clear h3
    go_wp2_with fail
    refine (S2.out _).mono ?_
    rintro e v4 ⟨rfl, h4⟩
    have B4 := Lib.hid (ext9 B3.out h4)
    clear h4
    go_wp2_with fail
    refine (S3.out _).mono ?_
    rintro e v5 ⟨rfl, h5⟩
    have B5 := Lib.hid (ext9 B4.out h5)
    clear h5
    go_wp2_with fail
    refine (awake9 H _).mono ?_
    rintro e v6 ⟨rfl, h6⟩
    have B6 := Lib.hid (ext9 B5.out h6)
    clear h6
    go_wp2
    go_ret
    exact ⟨by first | rfl | (simp; done) | (simp; omega), B6.out⟩
  · have i1 : ¬ (x : Int) = (y : Int) := by omega
    have i2 : ¬ (x : Int) = 0 := by omega
    rw [show decide (x = y) = false by simp; try omega] at S1 S2
    rw [show decide (x = 0 ∧ y = 0) = false by simp; try omega] at S3
    clear hS hT
    go_enter Tryd.func9, Tryd.ntmps9
    go_wp2_with fail
    refine (TX.out _).mono ?_
    rintro e v1 ⟨rfl, h1⟩
    have B1 := Lib.hid (ext9 B0.out h1)
    clear h1
    go_wp2_with fail
    refine (TY.out _).mono ?_
    rintro e v2 ⟨rfl, h2⟩
    have B2 := Lib.hid (ext9 B1.out h2)
    clear h2
    go_wp2_with fail
    refine (S1.out _).mono ?_
    rintro e v3 ⟨rfl, h3⟩
    have B3 := Lib.hid (ext9 B2.out h3)
    clear h3
    go_wp2_with fail
    refine (S2.out _).mono ?_
    rintro e v4 ⟨rfl, h4⟩
    have B4 := Lib.hid (ext9 B3.out h4)
    clear h4
    go_wp2_with fail
    refine (S3.out _).mono ?_
    rintro e v5 ⟨rfl, h5⟩
    have B5 := Lib.hid (ext9 B4.out h5)
    clear h5
    go_wp2_with fail
    refine (awake9 H _).mono ?_
    rintro e v6 ⟨rfl, h6⟩
    have B6 := Lib.hid (ext9 B5.out h6)
    clear h6
    go_wp2
    go_ret
    exact ⟨by first | rfl | (simp; done) | (simp; omega), B6.out⟩
end Nu
end Go.Proofs.YtjgkaccmfdjffaaDoor
