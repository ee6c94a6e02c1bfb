/-
  The walks of EscapeShort and EscapeTold, relative to what the program's Quote and Unquote answer.
-/
import Derived.Test.YtjkaccmhpilojaaEh
namespace Go.Proofs.Ytjkaccmhpilojaa
set_option linter.unusedVariables false
set_option linter.unusedSimpArgs false
open Go.RowKit
namespace Em
open Wd We Utf Es Wi Wf Wr

theorem bs_take (l : List Int) (k : Nat) : (Dm.bs l).extract 0 k = Dm.bs (l.take k) := by
  apply ByteArray.ext
  simp [Dm.bs, ByteArray.data_extract, List.map_take]
theorem qs_len {cs : List Int} (h : Chars cs) : (qs cs).length ≤ 6 * (encs cs).length := by
  induction cs with
  | nil => simp [qs_nil]
  | cons c cs ih =>
    have h1 := ih h.tail
    have h2 := q1_len h.head
    rw [qs_cons, encs_cons, List.length_append, List.length_append]
    omega
theorem quo_len {cs : List Int} (h : Chars cs) : 2 ≤ (quo cs).length ∧ (quo cs).length ≤ 2 + 6 * (encs cs).length := by
  have := qs_len h
  unfold quo
  simp only [List.length_cons, List.length_append, List.length_nil]
  omega

set_option maxRecDepth 100000 in
set_option maxHeartbeats 4000000 in
theorem core_EscapeShort (HU : UnqOk) (HQ : QuoOk) (A : Option Addr) (n c : Nat) (l : List Int) (part : Int) (w : World) (s : Sl .i64 w A n c l) (hz : ∀ x ∈ l, -9223372036854775808 ≤ x ∧ x ≤ 9223372036854775807) (p0 : -9223372036854775808 ≤ part) (p1 : part ≤ 9223372036854775807) :
    Calls Try.prog 6 #[.slice A n c, .int .i64 part] w fun e w' => e = .returned (.bool true) ∧ Below w.heap.size w w' := by
  have TX := Lib.hid (text_any A n c l w s hz)
  have hcs := tcs_chars l
  have hln := tcs_len l
  generalize tcs l = cs at *
  have hql := quo_len hcs
  have QY := Lib.hid (fun w' => HQ.yes cs w' hcs (by omega))
  obtain ⟨Q, hQ⟩ : ∃ Q, quo cs = Q := ⟨_, rfl⟩
  have hqb : IsB Q := by rw [← hQ]; exact quo_byte hcs
  have hcut : ∀ k, k < Q.length → unq (Q.take k) = cutE (Q.take k) := fun k hk => by rw [← hQ] at hk ⊢; exact unq_cut hcs hk
  rw [hQ] at QY hql
  obtain ⟨N, hN⟩ : ∃ N, Q.length = N := ⟨_, rfl⟩
  rw [hN] at hql hcut
  obtain ⟨S, hS⟩ : ∃ S, Dm.bs Q = S := ⟨_, rfl⟩
  have hsz : S.size = N := by rw [← hS, Dm.bs_size, hN]
  rw [hS] at QY
  have hb := bring_any part (N : Int) (by omega) (by omega) p0 p1
  obtain ⟨k, hk⟩ := Int.eq_ofNat_of_zero_le (Int.emod_nonneg part (b := (N : Int)) (by omega))
  have hk2 := Int.emod_lt_of_pos part (b := (N : Int)) (by omega)
  rw [hk] at hb hk2
  have hkN : k < N := by omega
  have HB := Lib.hid hb
  have hT := hcut k hkN
  have hex : S.extract 0 k = Dm.bs (Q.take k) := by rw [← hS]; exact bs_take Q k
  have htb : IsB (Q.take k) := hqb.take k
  have htl : (Q.take k).length = k := by rw [List.length_take]; omega
  generalize Q.take k = T at *
  obtain ⟨x, y, z, hck⟩ : ∃ x y z, chk T = (x, y, z) := ⟨_, _, _, rfl⟩
  have HCK := Lib.hid hck
  have HT := Lib.hid hT
  have HEX := Lib.hid hex
  have HTB := Lib.hid htb
  have i0 : ¬ ((N : Int) = 0) := by omega
  have i1 : (0 : Int) ≤ (k : Int) := by omega
  have i2 : (k : Int) ≤ (N : Int) := by omega
  have i3 : (N : Int) ≤ 9223372036854775807 := by omega
  have kcv := Lib.hid (fun w' => conv_back w' hex htb (by unfold maxLen; omega))
  clear s hz hcut hb hk hk2 p0 p1 hT hex htb hqb hck hS hN hQ hcs
  go_enter Try.func6, Try.ntmps6
  go_wp2_with fail
  refine TX.out.mono ?_
  rintro e w1 ⟨rfl, b1⟩
  have H1 := Lib.hid b1
  clear b1
  go_wp2_with fail
  refine (QY.out w1).mono ?_
  rintro e w2 ⟨rfl, b2⟩
  have H2 := Lib.hid (ext_trans8 H1.out b2)
  clear b2
  go_wp2_with fail
  refine (HB.out w2).mono ?_
  rintro e w3 ⟨rfl, rfl⟩
  obtain ⟨c4, w4, kc, t4, b4⟩ := kcv.out w2
  rw [htl] at kc t4
  have H4 := Lib.hid (ext_trans8 H2.out b4)
  have CON := HU _ _ _ _ 0 w4 t4 HTB.out (by omega) (by omega) (by omega)
  unfold UP at CON
  obtain ⟨g, hg, hg0⟩ : ∃ g, unq T = ([], 0, g) ∧ g = if z ≠ 0 then 10 else 3 := by
    refine ⟨_, HT.out, ?_⟩
    rw [HCK.out]
  have hg1 : g ≠ 0 := by rw [hg0]; split <;> decide
  have hu : uq T ((0 : Nat) : Int) = ([], 0, g) := uq_bad (Nat.zero_le _) (by rw [List.drop_zero]; exact hg) hg1
  rw [show ((0 : Nat) : Int) = 0 from rfl] at hu
  rw [hu] at CON
  dsimp only at CON
  rw [show Dm.bs [] = ⟨#[]⟩ from rfl] at CON
  have HC := Lib.hid CON
  have HG0 := Lib.hid hg0
  clear CON hu t4 b4 hg hg0 hg1
  go_wp2_with fail
  refine HC.out.mono ?_
  rintro e w5 ⟨rfl, b5⟩
  have H5 := Lib.hid (ext_trans8 H4.out b5)
  obtain ⟨c6, w6, kc6, t6, b6⟩ := kcv.out w5
  rw [htl] at kc6 t6
  have H6 := Lib.hid (ext_trans8 H5.out b6)
  have CK := Lib.hid (rcheck_at _ _ _ _ w6 t6 HTB.out HCK.out)
  clear b5 b6 t6 kc
  go_wp2_with fail
  refine CK.out.mono ?_
  rintro e w7 ⟨rfl, b7⟩
  have H7 := Lib.hid (ext_trans8 H6.out b7)
  clear b7 kc6
  have hg0 := HG0.out
  clear HG0
  by_cases hz0 : z = 0
  · subst hz0
    rw [if_neg (fun q => q rfl)] at hg0
    subst hg0
    go_wp2_with fail
    refine (awake8 HU HQ w7).mono ?_
    rintro e w8 ⟨rfl, b8⟩
    have H8 := Lib.hid (ext_trans8 H7.out b8)
    clear b8
    go_wp2
    go_ret
    exact ⟨rfl, H8.out⟩
  · rw [if_pos hz0] at hg0
    subst hg0
    go_wp2_with fail
    refine (awake8 HU HQ w7).mono ?_
    rintro e w8 ⟨rfl, b8⟩
    have H8 := Lib.hid (ext_trans8 H7.out b8)
    clear b8
    go_wp2
    go_ret
    exact ⟨rfl, H8.out⟩
end Em
end Go.Proofs.Ytjkaccmhpilojaa
