/-
  The walk of EscapeTold, relative to what the program's Quote and Unquote answer.
-/
import Derived.Test.YtjkaccmhpilojaaEi
import Derived.Test.YtjkaccmhpilojaaEz
namespace Go.Proofs.Ytjkaccmhpilojaa
set_option linter.unusedVariables false
set_option linter.unusedSimpArgs false
open Go.RowKit
namespace Em
open Wd We Utf Es Wi Wf Wr

set_option maxRecDepth 100000 in
set_option maxHeartbeats 4000000 in
theorem core_EscapeTold (HU : UnqOk) (HQ : QuoOk) (HW : ∀ (cs : List Int) (w : World), Chars cs → (quo cs).length ≤ 140737488351232 → Calls Try.prog 10 #[.string (Dm.bs (encs cs))] w fun e w' => e = .returned (.tuple #[.string (Dm.bs (quo cs)), .int .i64 0]) ∧ Below w.heap.size w w') (A : Option Addr) (n c : Nat) (l : List Int) (a : Int) (w : World) (s : Sl .u8 w A n c l) (hb : IsB l) (hn : n ≤ 140737488351232) (a0 : -9223372036854775808 ≤ a) (a1 : a ≤ 9223372036854775807) :
    Calls Try.prog 7 #[.slice A n c, .int .i64 a] w fun e w' => e = .returned (.bool true) ∧ Below w.heap.size w w' := by
  have hlen := s.len
  have hcn := s.le
  have hcm : c ≤ 9223372036854775807 := by have := s.max; unfold maxLen at this; omega
  have hbr := bring_any a ((n : Int) + 1) (by omega) (by omega) a0 a1
  obtain ⟨i, hi⟩ := Int.eq_ofNat_of_zero_le (Int.emod_nonneg a (b := (n : Int) + 1) (by omega))
  have hi2 := Int.emod_lt_of_pos a (b := (n : Int) + 1) (by omega)
  rw [hi] at hbr hi2
  have hin : i ≤ n := by omega
  have HBR := Lib.hid hbr
  have S := Lib.hid s
  have hdb : IsB (l.drop i) := hb.drop i
  have hdl : (l.drop i).length = n - i := by rw [List.length_drop, hlen]
  have CON := HU A n c l (i : Int) w s hb (by omega) (by omega) (by omega)
  unfold UP at CON
  clear hbr hi hi2 a0 a1 s
  by_cases hu0 : (unq (l.drop i)).2.2 = 0
  · obtain ⟨cs, hcs, h1, h2, h2q, h3, h4⟩ := unq_good_q hdb hu0
    obtain ⟨X, m, z, hX⟩ : ∃ X m z, unq (l.drop i) = (X, m, z) := ⟨_, _, _, rfl⟩
    rw [hX] at hu0 h1 h2 h2q h3 h4
    dsimp only at hu0 h1 h2 h2q h3 h4
    subst hu0; subst h1
    rw [uq_good (by omega) hX] at CON
    dsimp only at CON
    obtain ⟨M, hM⟩ : ∃ M, i + m = M := ⟨_, rfl⟩
    have hMn : M ≤ n := by omega
    have htk : (l.take M).drop i = (l.drop i).take m := by rw [← hM, List.drop_take]; simp
    have hu2 : uq (l.take M) (i : Int) = (encs cs, ((i + m : Nat) : Int), 0) := uq_good (by rw [List.length_take]; omega) (by rw [htk]; exact h4)
    have CON2 : ∀ w', Below w.heap.size w w' → _ := fun w' hw => HU A M c (l.take M) (i : Int) w' ((S.out.below hw).cut0 M hMn) (hb.take M) (by omega) (by omega) (by omega)
    unfold UP at CON2
    rw [hM] at CON hu2
    rw [hu2] at CON2
    dsimp only at CON2
    obtain ⟨L, hL⟩ : ∃ L, (encs cs).length = L := ⟨_, rfl⟩
    rw [hL] at h2
    have QY := Lib.hid (fun w' => HW cs w' hcs (by omega))
    have kcv := Lib.hid (fun w' => conv_back w' (s := Dm.bs (encs cs)) rfl (encs_byte cs) (by unfold maxLen; omega))
    rw [hL] at kcv
    have hqb := quo_byte hcs
    have hql := h2q
    have hqt : unq (quo cs) = (encs cs, (quo cs).length, 0) := by have := unq_quo hcs (r := []) (by simp); rw [List.append_nil] at this; exact this
    have TL := Lib.hid (fun w' => tells_any HU (Dm.bs (quo cs)) (Dm.bs (encs cs)) _ _ rfl rfl hqb (by omega) hqt w')
    have hck := chk_encs hcs
    rw [hL] at hck
    have CK := Lib.hid (fun (w' : World) (c' : Nat) (A' : Option Addr) (t : Sl .u8 w' A' L c' (encs cs)) => rcheck_at A' L c' (encs cs) w' t (encs_byte cs) hck)
    have hsz : (Dm.bs (encs cs)).size = L := by rw [Dm.bs_size, hL]
    generalize Dm.bs (encs cs) = Z at *
    generalize Dm.bs (quo cs) = Q at *
    have HC := Lib.hid CON
    have HC2 := Lib.hid CON2
    have m1 : max (M : Int) 0 = (M : Int) := by omega
    have m2 : min (M : Int) (n : Int) = (M : Int) := by omega
    have m3 : (0 : Int) ≤ (M : Int) := by omega
    have m4 : (M : Int) ≤ (c : Int) := by omega
    have m5 : (L : Int) ≤ (M : Int) - (i : Int) - 2 := by omega
    have m6 : (L : Int) ≤ 9223372036854775807 := by omega
    clear CON CON2 hX h2 h2q h3 h4 hu2 htk hqb hql hqt hck hM hL hcs hdb hdl hb
    go_enter Try.func7, Try.ntmps7
    go_wp2_with fail
    refine (HBR.out w).mono ?_
    rintro e w1 ⟨rfl, rfl⟩
    go_wp2_with fail
    refine HC.out.mono ?_
    rintro e w2 ⟨rfl, b2⟩
    have H2 := Lib.hid b2
    obtain ⟨c3, w3, kc, t3, b3⟩ := kcv.out w2
    have H3 := Lib.hid (ext_trans8 H2.out b3)
    have T3 := Lib.hid t3
    clear b2 b3 t3
    go_wp2_with fail
    refine (CK.out w3 _ _ T3.out).mono ?_
    rintro e w4 ⟨rfl, b4⟩
    have H4 := Lib.hid (ext_trans8 H3.out b4)
    clear b4 kc
    go_wp2_with fail
    refine (QY.out w4).mono ?_
    rintro e w5 ⟨rfl, b5⟩
    have H5 := Lib.hid (ext_trans8 H4.out b5)
    clear b5
    go_wp2_with fail
    refine (HC2.out w5 H5.out).mono ?_
    rintro e w6 ⟨rfl, b6⟩
    have H6 := Lib.hid (ext_trans8 H5.out b6)
    clear b6
    go_wp2_with fail
    refine (TL.out w6).mono ?_
    rintro e w7 ⟨rfl, b7⟩
    have H7 := Lib.hid (ext_trans8 H6.out b7)
    clear b7
    go_wp2_with fail
    refine (awake8 HU HQ w7).mono ?_
    rintro e w8 ⟨rfl, b8⟩
    have H8 := Lib.hid (ext_trans8 H7.out b8)
    clear b8
    go_wp2
    go_ret
    exact ⟨by simp, H8.out⟩
  · have he := unq_err hdb hu0
    obtain ⟨z, hz⟩ : ∃ z, (unq (l.drop i)).2.2 = z := ⟨_, rfl⟩
    rw [hz] at he hu0
    rw [uq_bad (by omega) he hu0, show Dm.bs (([], 0, z) : List Int × Int × Int).1 = ⟨#[]⟩ from rfl] at CON
    dsimp only at CON
    have HC := Lib.hid CON
    clear CON he hz hdb hdl hb
    go_enter Try.func7, Try.ntmps7
    go_wp2_with fail
    refine (HBR.out w).mono ?_
    rintro e w1 ⟨rfl, rfl⟩
    go_wp2_with fail
    refine HC.out.mono ?_
    rintro e w2 ⟨rfl, b2⟩
    have H2 := Lib.hid b2
    clear b2
    go_wp2_with fail
    refine (awake8 HU HQ w2).mono ?_
    rintro e w3 ⟨rfl, b3⟩
    have H3 := Lib.hid (ext_trans8 H2.out b3)
    clear b3
    go_wp2
    go_ret
    exact ⟨rfl, H3.out⟩
end Em
end Go.Proofs.Ytjkaccmhpilojaa
