/-
  The walks of NumberChecks, NumberSame and NumberInts, for any arguments.
-/
import Derived.Test.YtjgkaccmfdjffaaDoorNn
import Derived.Test.YtjgkaccmfdjffaaDoorWz
namespace Go.Proofs.YtjgkaccmfdjffaaDoor
set_option linter.unusedVariables false
set_option linter.unusedSimpArgs false
open Go.RowKit
namespace Nu
open Wd We Es
open Dm (Ds vl decs)

set_option maxRecDepth 100000 in
set_option maxHeartbeats 4000000 in
theorem core_NumberChecks (H : NumOk) (A : Option Addr) (n c : Nat) (l : List Int) (a : Int) (w : World) (s : Sl .u8 w A n c l) (hb : IsB l) (hn : n ≤ 140737488351232) (a0 : -9223372036854775808 ≤ a) (a1 : a ≤ 9223372036854775807) :
    Calls Tryd.prog 3 #[.slice A n c, .int .i64 a] w fun e w' => e = .returned (.bool true) ∧ Below w.heap.size w w' := by
  have hlen := s.len
  have CP := Lib.hid (copy_any A n c l w s (by omega))
  have PC := Lib.hid (fun (B : Option Addr) (k : Nat) (w' : World) (t : Sl .u8 w' B n k l) => H.check B n k l a w' t hb (by omega) a0 a1)
  have RC := Lib.hid (fun (w' : World) (h : Below w.heap.size w w') => rcheck_any9 A n c l a w' (s.below h) hb hn)
  obtain ⟨x, y, hxy⟩ : ∃ x y, uc l a = (x, y) := ⟨_, _, rfl⟩
  unfold Nu.CP at RC
  rw [hxy] at PC RC
  dsimp only at PC RC
  have EQ := Lib.hid (fun (B : Option Addr) (k : Nat) (w' : World) (h : Below w.heap.size w w') (t : Sl .u8 w' B n k l) => eq_any B A n n k c l l w' t.row (s.below h).row (Nat.le_trans t.le t.max))
  clear hxy s hb
  go_enter Tryd.func3, Tryd.ntmps3
  go_wp2_with fail
  refine CP.out.mono ?_
  rintro e w1 ⟨v, rfl, ho, hb1⟩
  obtain ⟨B, k, rfl, sb, _⟩ := ho.sl
  rw [hlen] at sb ⊢
  have B1 := Lib.hid hb1
  have SB := Lib.hid sb
  clear ho sb hb1 hlen
  go_wp2_with fail
  refine (PC.out B k w1 SB.out).mono ?_
  rintro e w2 ⟨rfl, hb2⟩
  have S2 := Lib.hid (SB.out.below hb2)
  have B2 := Lib.hid (ext9 B1.out hb2)
  clear hb2
  go_wp2_with fail
  refine (RC.out w2 B2.out).mono ?_
  rintro e w3 ⟨rfl, rfl⟩
  go_wp2_with fail
  refine (EQ.out B k _ B2.out S2.out).mono ?_
  rintro e w4 ⟨rfl, q, rfl⟩
  have B4 := Lib.hid (Wd.below_drewN B2.out q)
  go_wp2_with fail
  refine (awake9 H _).mono ?_
  rintro e w5 ⟨rfl, hb5⟩
  have B5 := Lib.hid (ext9 B4.out hb5)
  clear hb5
  go_wp2
  go_ret
  exact ⟨by first | rfl | simp, B5.out⟩
set_option maxRecDepth 100000 in
set_option maxHeartbeats 4000000 in
theorem core_NumberSame (H : NumOk) (a b : List Int) (w : World) (ha : IsB a) (hb : IsB b) (hn : a.length ≤ 140737488351232) (hm : b.length ≤ 140737488351232) :
    Calls Tryd.prog 4 #[.string (Dm.bs a), .string (Dm.bs b)] w fun e w' => e = .returned (.bool true) ∧ Below w.heap.size w w' := by
  have C1 := Lib.hid (H.same a b w ha hb hn hm)
  have C2 := Lib.hid (fun w' => rsame_any a b w' ha hb hn hm)
  have C3 := Lib.hid (fun w' => H.same a a w' ha ha hn hn)
  have C4 := Lib.hid (fun w' => rsame_any a a w' ha ha hn hn)
  obtain ⟨S, hS⟩ : ∃ S, Dm.bs a = S := ⟨_, rfl⟩
  obtain ⟨T, hT⟩ : ∃ T, Dm.bs b = T := ⟨_, rfl⟩
  obtain ⟨x, hx⟩ : ∃ x, sam a b = x := ⟨_, rfl⟩
  obtain ⟨y, hy⟩ : ∃ y, sam a a = y := ⟨_, rfl⟩
  rw [hS, hT, hx] at C1 C2
  rw [hS, hy] at C3 C4
  rw [hS, hT]
  clear hS hT hx hy ha hb hn hm
  go_enter Tryd.func4, Tryd.ntmps4
  go_wp2_with fail
  refine C1.out.mono ?_
  rintro e w1 ⟨rfl, hb1⟩
  have B1 := Lib.hid hb1
  clear hb1
  go_wp2_with fail
  refine (C2.out w1).mono ?_
  rintro e w2 ⟨rfl, hb2⟩
  have B2 := Lib.hid (ext9 B1.out hb2)
  clear hb2
  go_wp2_with fail
  refine (C3.out w2).mono ?_
  rintro e w3 ⟨rfl, hb3⟩
  have B3 := Lib.hid (ext9 B2.out hb3)
  clear hb3
  go_wp2_with fail
  refine (C4.out w3).mono ?_
  rintro e w4 ⟨rfl, hb4⟩
  have B4 := Lib.hid (ext9 B3.out hb4)
  clear hb4
  go_wp2_with fail
  refine (awake9 H _).mono ?_
  rintro e w5 ⟨rfl, hb5⟩
  have B5 := Lib.hid (ext9 B4.out hb5)
  clear hb5
  go_wp2
  go_ret
  exact ⟨by first | rfl | simp, B5.out⟩
set_option maxRecDepth 100000 in
set_option maxHeartbeats 4000000 in
theorem core_NumberInts (H : NumOk) (a : List Int) (w : World) (ha : IsB a) (hn : a.length ≤ 140737488351232) :
    Calls Tryd.prog 5 #[.string (Dm.bs a)] w fun e w' => e = .returned (.bool true) ∧ Below w.heap.size w w' := by
  have C1 := Lib.hid (H.int a w ha hn)
  have C2 := Lib.hid (fun w' => rint_any a w' ha hn)
  obtain ⟨S, hS⟩ : ∃ S, Dm.bs a = S := ⟨_, rfl⟩
  obtain ⟨x, y, hx⟩ : ∃ x y, itg a = (x, y) := ⟨_, _, rfl⟩
  rw [hS, hx] at C1 C2
  rw [hS]
  dsimp only at C1 C2
  clear hS hx ha hn
  go_enter Tryd.func5, Tryd.ntmps5
  go_wp2_with fail
  refine C1.out.mono ?_
  rintro e w1 ⟨rfl, hb1⟩
  have B1 := Lib.hid hb1
  clear hb1
  go_wp2_with fail
  refine (C2.out w1).mono ?_
  rintro e w2 ⟨rfl, hb2⟩
  have B2 := Lib.hid (ext9 B1.out hb2)
  clear hb2
  go_wp2_with fail
  refine (awake9 H _).mono ?_
  rintro e w5 ⟨rfl, hb5⟩
  have B5 := Lib.hid (ext9 B2.out hb5)
  clear hb5
  go_wp2
  go_ret
  exact ⟨by first | rfl | simp, B5.out⟩
end Nu
end Go.Proofs.YtjgkaccmfdjffaaDoor
