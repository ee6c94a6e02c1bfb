/-
  The program's number and Check of layer 9.
-/
import Derived.Test.YtjgkaccmfdjffaaDoorNr
import Derived.Deep.CutBlock
import Derived.Deep.CutRange
import Derived.Deep.DeepCutAuto
namespace Go.Proofs.YtjgkaccmfdjffaaDoor
set_option linter.unusedVariables false
set_option linter.unusedSimpArgs false
open Go.RowKit
namespace Nu
open Wd We Es
open Dm (Ds vl decs)

/-- what the program's number tells: whether a number stands there, and where it ends -/
def NP (l : List Int) (r : Nat × Int) (w0 : World) (P : Nat) (A : Option Addr) (n c : Nat) (e : Ending) (w' : World) : Prop :=
  e = .returned (.int .i64 r.2) ∧ (∃ q, q ≤ n ∧ (r.2 = 0 → q = r.1) ∧ Sc w' P A n c q) ∧ Below P w0 w'
theorem hd48_hdd {l : List Int} (h : hd1 48 48 l = true) : hdd l = true := by
  cases l with
  | nil => cases h
  | cons a t =>
    have := of_decide_eq_true (show decide (a = 48 ∨ a = 48) = true from h)
    show dg a = true
    exact decide_eq_true (by omega)

set_option maxRecDepth 100000 in
set_option maxHeartbeats 4000000 in
theorem number_any {w0 wr : World} {P : Nat} {A : Option Addr} {n c p : Nat} {l : List Int} (S : Sl .u8 w0 A n c l) (hb : IsB l) (hP : w0.heap.size = P) (hs : Sc wr P A n c p) (hw : Below P w0 wr) (hp : p ≤ n) (hn : n ≤ 140737488355000) :
    Calls Tryd.prog 29 #[.pointer (some ⟨P, 0, none⟩)] wr (NP l (ck p (l.drop p)) w0 P A n c) := by
  have hlen := S.len
  have TM := Lib.hid (fun (q : Nat) (wx : World) (h : Sc wx P A n c q) (hw : Below P w0 wx) (hq : q ≤ n) => take_any S hb hP h hw hq hn off_minus)
  have TZ := Lib.hid (fun (q : Nat) (wx : World) (h : Sc wx P A n c q) (hw : Below P w0 wx) (hq : q ≤ n) => take_any S hb hP h hw hq hn off_nought)
  have TP := Lib.hid (fun (q : Nat) (wx : World) (h : Sc wx P A n c q) (hw : Below P w0 wx) (hq : q ≤ n) => take_any S hb hP h hw hq hn off_point)
  have TL := Lib.hid (fun (q : Nat) (wx : World) (h : Sc wx P A n c q) (hw : Below P w0 wx) (hq : q ≤ n) => take_any S hb hP h hw hq hn off_letters)
  have TS := Lib.hid (fun (q : Nat) (wx : World) (h : Sc wx P A n c q) (hw : Below P w0 wx) (hq : q ≤ n) => take_any S hb hP h hw hq hn off_signs)
  have TR := Lib.hid (fun (q : Nat) (wx : World) (h : Sc wx P A n c q) (hw : Below P w0 wx) (hq : q ≤ n) => run_any S hb hP h hw hq hn)
  simp only [hx_hd1] at TM TZ TP TL TS
  have RT : Hid (∀ q, q ≤ n → q + rn (l.drop q) ≤ n) := Lib.hid (fun q hq => by have := rn_to (l := l) (p := q) (by omega); omega)
  have LT : Hid (∀ x y q, hd1 x y (l.drop q) = true → q + 1 ≤ n) := Lib.hid (fun x y q h => by have := hd1_lt h; omega)
  obtain ⟨R, hR⟩ : ∃ R, ck p (l.drop p) = R := ⟨_, rfl⟩
  rw [hR]
  have C0 := Lib.hid (TM.out p wr hs hw hp)
  have HR : Hid (ckI (if hd1 45 45 (l.drop p) then p + 1 else p) (l.drop (if hd1 45 45 (l.drop p) then p + 1 else p)) = R) := Lib.hid (by
    rw [← hR]
    cases h : hd1 45 45 (l.drop p) with
    | true => rw [ck_yes h]; rfl
    | false => rw [ck_no h]; rfl)
  have hq1 : (if hd1 45 45 (l.drop p) then p + 1 else p) ≤ n := by
    cases h : hd1 45 45 (l.drop p) with
    | true => have := LT.out _ _ _ h; simpa using this
    | false => simpa using hp
  obtain ⟨z1, hz1⟩ : ∃ z, hd1 45 45 (l.drop p) = z := ⟨_, rfl⟩
  rw [hz1] at C0 HR hq1
  obtain ⟨p1, hp1⟩ : ∃ p1, (if z1 = true then p + 1 else p) = p1 := ⟨_, rfl⟩
  rw [hp1] at C0 HR hq1
  clear hz1 hp1 hR hs hw S hb hP hp
  go_enter Tryd.func29, Tryd.ntmps29
  go_wp2_with fail
  refine C0.out.mono ?_
  rintro e w1 ⟨rfl, h1, h2⟩
  have C1 := Lib.hid (TZ.out p1 w1 h1 h2 hq1)
  clear h1 h2 C0
  obtain ⟨z2, hz2⟩ : ∃ z, hd1 48 48 (l.drop p1) = z := ⟨_, rfl⟩
  rw [hz2] at C1
  have HZ2 := Lib.hid hz2
  clear hz2
  go_wp2_with fail
  refine C1.out.mono ?_
  rintro e w2 ⟨rfl, h1, h2⟩
  have H1 := Lib.hid h1
  have H2 := Lib.hid h2
  clear h1 h2 C1
  go_upto_if 9 with fail
  go_cut [3] from 5 to 14 (fun s3 wx => ∃ p2, p2 ≤ n ∧ Hid (ckF p2 (l.drop p2) = R) ∧ Hid (Sc wx P A n c p2) ∧ Hid (Below P w0 wx))
  case first =>
    cases z2 with
    | true =>
      have HF := Lib.hid (show ckF (p1 + 1) (l.drop (p1 + 1)) = R by rw [← HR.out, ckI_zero (hd48_hdd HZ2.out) HZ2.out])
      have hle := LT.out _ _ _ HZ2.out
      go_wp2_with fail
      go_meet
      exact ⟨p1 + 1, hle, HF, H1, H2⟩
    | false =>
      have C2 := Lib.hid (TR.out p1 w2 H1.out H2.out hq1)
      cases hd : hdd (l.drop p1) with
      | true =>
        have HF := Lib.hid (show ckF (p1 + rn (l.drop p1)) (l.drop (p1 + rn (l.drop p1))) = R by rw [← HR.out, ckI_run hd HZ2.out])
        have hle := RT.out p1 hq1
        unfold RP at C2
        rw [hd] at C2
        clear hd
        go_wp2_with fail
        refine C2.out.mono ?_
        rintro e w3 ⟨rfl, h1, h2⟩
        have H3 := Lib.hid h1
        have H4 := Lib.hid h2
        clear h1 h2 C2
        go_wp2_with fail
        go_meet
        exact ⟨_, hle, HF, H3, H4⟩
      | false =>
        have HE := Lib.hid (show R = (0, sho (l.drop p1)) by rw [← HR.out, ckI_bad hd])
        have hle := RT.out p1 hq1
        unfold RP at C2
        rw [hd] at C2
        have hne := sho_ne (l.drop p1)
        obtain ⟨sh, hsh⟩ : ∃ sh, sho (l.drop p1) = sh := ⟨_, rfl⟩
        rw [hsh] at C2 HE hne
        have hne' : (sh != 0) = true := by simpa using hne
        clear hd hsh
        go_wp2_with fail
        refine C2.out.mono ?_
        rintro e w3 ⟨rfl, h1, h2⟩
        have H3 := Lib.hid h1
        have H4 := Lib.hid h2
        clear h1 h2 C2
        go_wp2_with fail
        go_ret
        exact ⟨by rw [HE.out]; rfl, ⟨_, hle, fun g => absurd (show sh = 0 by rw [HE.out] at g; exact g) hne, H3.out⟩, H4.out⟩
  case rest =>
    obtain ⟨p2, hq2, HF, H3, H4⟩ := hcut
    have C3 := Lib.hid (TP.out p2 _ H3.out H4.out hq2)
    clear H1 H2 HR
    obtain ⟨z3, hz3⟩ : ∃ z, hd1 46 46 (l.drop p2) = z := ⟨_, rfl⟩
    rw [hz3] at C3
    have HZ3 := Lib.hid hz3
    clear hz3
    go_wp2_with fail
    refine C3.out.mono ?_
    rintro e w4 ⟨rfl, h1, h2⟩
    have H5 := Lib.hid h1
    have H6 := Lib.hid h2
    clear h1 h2 C3 H3 H4
    go_upto_if 16 with fail
    go_cut [4] from 15 to 21 (fun s4 wx => ∃ p3, p3 ≤ n ∧ Hid (ckE p3 (l.drop p3) = R) ∧ Hid (Sc wx P A n c p3) ∧ Hid (Below P w0 wx))
    case first =>
      cases z3 with
      | false =>
        have HE2 := Lib.hid (show ckE p2 (l.drop p2) = R by rw [← HF.out, ckF_no HZ3.out])
        go_wp2_with fail
        go_meet
        exact ⟨p2, hq2, HE2, H5, H6⟩
      | true =>
        have hle2 := LT.out _ _ _ HZ3.out
        have C4 := Lib.hid (TR.out (p2 + 1) w4 H5.out H6.out hle2)
        have hle := RT.out (p2 + 1) hle2
        cases hd : hdd (l.drop (p2 + 1)) with
        | true =>
          have HE2 := Lib.hid (show ckE (p2 + 1 + rn (l.drop (p2 + 1))) (l.drop (p2 + 1 + rn (l.drop (p2 + 1)))) = R by rw [← HF.out, ckF_run HZ3.out hd])
          unfold RP at C4
          rw [hd] at C4
          clear hd
          go_wp2_with fail
          refine C4.out.mono ?_
          rintro e w3 ⟨rfl, h1, h2⟩
          have H3 := Lib.hid h1
          have H4 := Lib.hid h2
          clear h1 h2 C4
          go_wp2_with fail
          go_meet
          exact ⟨_, hle, HE2, H3, H4⟩
        | false =>
          have HE := Lib.hid (show R = (0, sho (l.drop (p2 + 1))) by rw [← HF.out, ckF_bad HZ3.out hd])
          unfold RP at C4
          rw [hd] at C4
          have hne := sho_ne (l.drop (p2 + 1))
          obtain ⟨sh, hsh⟩ : ∃ sh, sho (l.drop (p2 + 1)) = sh := ⟨_, rfl⟩
          rw [hsh] at C4 HE hne
          have hne' : (sh != 0) = true := by simpa using hne
          clear hd hsh
          go_wp2_with fail
          refine C4.out.mono ?_
          rintro e w3 ⟨rfl, h1, h2⟩
          have H3 := Lib.hid h1
          have H4 := Lib.hid h2
          clear h1 h2 C4
          go_wp2_with fail
          go_ret
          exact ⟨by rw [HE.out]; rfl, ⟨_, hle, fun g => absurd (show sh = 0 by rw [HE.out] at g; exact g) hne, H3.out⟩, H4.out⟩
    case rest =>
      obtain ⟨p3, hq3, HE2, H7, H8⟩ := hcut
      have C5 := Lib.hid (TL.out p3 _ H7.out H8.out hq3)
      clear H5 H6 HF
      cases hz4 : hd1 101 69 (l.drop p3) with
      | false =>
        rw [hz4] at C5
        have HE := Lib.hid (show R = (p3, 0) by rw [← HE2.out, ckE_no hz4])
        clear hz4
        go_wp2_with fail
        refine C5.out.mono ?_
        rintro e w5 ⟨rfl, h1, h2⟩
        have H3 := Lib.hid h1
        have H4 := Lib.hid h2
        clear h1 h2 C5
        go_wp2_with fail
        go_ret
        exact ⟨by rw [HE.out]; rfl, ⟨p3, hq3, fun _ => by rw [HE.out], H3.out⟩, H4.out⟩
      | true =>
        rw [hz4] at C5
        have hle4 := LT.out _ _ _ hz4
        have HP4 : Hid (∃ p4, p4 = (if hd1 43 45 (l.drop (p3 + 1)) = true then p3 + 1 + 1 else p3 + 1) ∧ p4 ≤ n ∧ ckP p4 (l.drop p4) = R) := Lib.hid (by
          cases h : hd1 43 45 (l.drop (p3 + 1)) with
          | true => exact ⟨p3 + 2, rfl, LT.out _ _ _ h, by rw [← HE2.out, ckE_sign hz4 h]⟩
          | false => exact ⟨p3 + 1, rfl, hle4, by rw [← HE2.out, ckE_plain hz4 h]⟩)
        obtain ⟨p4, hp4, hq4, hR4⟩ := HP4.out
        have HR4 := Lib.hid hR4
        clear hz4 HP4 hR4
        go_wp2_with fail
        refine C5.out.mono ?_
        rintro e w5 ⟨rfl, h1, h2⟩
        have C6 := Lib.hid (TS.out (p3 + 1) w5 h1 h2 hle4)
        rw [← hp4] at C6
        obtain ⟨z5, hz5⟩ : ∃ z, hd1 43 45 (l.drop (p3 + 1)) = z := ⟨_, rfl⟩
        rw [hz5] at C6
        clear h1 h2 C5 hz5 hp4
        go_wp2_with fail
        refine C6.out.mono ?_
        rintro e w6 ⟨rfl, h1, h2⟩
        have C7 := Lib.hid (TR.out p4 w6 h1 h2 hq4)
        have hle := RT.out p4 hq4
        clear h1 h2 C6
        have HX : Hid (R.2 = (if hdd (l.drop p4) then 0 else sho (l.drop p4)) ∧ (R.2 = 0 → p4 + rn (l.drop p4) = R.1)) := Lib.hid (by
          cases h : hdd (l.drop p4) with
          | true => rw [← HR4.out, ckP_run h]; exact ⟨rfl, fun _ => rfl⟩
          | false => rw [← HR4.out, ckP_bad h]; exact ⟨rfl, fun g => absurd g (sho_ne _)⟩)
        unfold RP at C7
        obtain ⟨sh, hsh⟩ : ∃ sh, (if hdd (l.drop p4) then 0 else sho (l.drop p4)) = sh := ⟨_, rfl⟩
        rw [hsh] at C7 HX
        clear hsh
        go_wp2_with fail
        refine C7.out.mono ?_
        rintro e w7 ⟨rfl, h1, h2⟩
        have H3 := Lib.hid h1
        have H4 := Lib.hid h2
        clear h1 h2 C7
        go_wp2_with fail
        go_ret
        exact ⟨by rw [HX.out.1]; rfl, ⟨_, hle, fun g => HX.out.2 g, H3.out⟩, H4.out⟩

/-- what is wrong has no end -/
def Er (x : Nat × Int) : Prop := x.2 ≠ 0 → x.1 = 0
theorem er_no (x : Int) : Er (0, x) := fun _ => rfl
theorem er_yes (n : Nat) : Er (n, 0) := fun h => absurd rfl h
theorem ckP_err (n : Nat) (l : List Int) : Er (ckP n l) := by unfold ckP; by_cases h : hdd l = true; rw [if_pos h]; exact er_yes _; rw [if_neg h]; exact er_no _
theorem ckE_err (n : Nat) (l : List Int) : Er (ckE n l) := by
  unfold ckE
  by_cases h : hd1 101 69 l = true
  · rw [if_pos h]
    by_cases g : hd1 43 45 (l.drop 1) = true
    · rw [if_pos g]; exact ckP_err _ _
    · rw [if_neg g]; exact ckP_err _ _
  · rw [if_neg h]; exact er_yes _
theorem ckF_err (n : Nat) (l : List Int) : Er (ckF n l) := by
  unfold ckF
  by_cases h : hd1 46 46 l = true
  · rw [if_pos h]
    by_cases g : hdd (l.drop 1) = true
    · rw [if_pos g]; exact ckE_err _ _
    · rw [if_neg g]; exact er_no _
  · rw [if_neg h]; exact ckE_err _ _
theorem ckI_err (n : Nat) (l : List Int) : Er (ckI n l) := by
  unfold ckI
  by_cases h : hdd l = true
  · rw [if_pos h]
    by_cases g : hd1 48 48 l = true
    · rw [if_pos g]; exact ckF_err _ _
    · rw [if_neg g]; exact ckF_err _ _
  · rw [if_neg h]; exact er_no _
theorem ck_err (n : Nat) (l : List Int) : Er (ck n l) := by
  unfold ck
  by_cases h : hd1 45 45 l = true
  · rw [if_pos h]; exact ckI_err _ _
  · rw [if_neg h]; exact ckI_err _ _

set_option maxRecDepth 100000 in
set_option maxHeartbeats 4000000 in
theorem check_ok (A : Option Addr) (n c : Nat) (l : List Int) (a : Int) (w : World) (S : Sl .u8 w A n c l) (hb : IsB l) (hn : n ≤ 140737488355000) (h0 : -9223372036854775808 ≤ a) (h1 : a ≤ 9223372036854775807) :
    Calls Tryd.prog 13 #[.slice A n c, .int .i64 a] w fun e w' => e = .returned (.tuple #[.int .i64 (uc l a).1, .int .i64 (uc l a).2]) ∧ Below w.heap.size w w' := by
  have hlen := S.len
  by_cases ha : a < 0 ∨ (n : Int) < a
  · have hE := Lib.hid (show uc l a = (0, 9) from uc_out (by rw [hlen]; exact ha))
    rw [hE.out]
    clear S
    rcases ha with ha | ha
    · go_enter Tryd.func13, Tryd.ntmps13
      go_wp2
      go_ret2
      exact ⟨rfl, Below.refl _ _⟩
    · have ha' : ¬ a < 0 := by omega
      go_enter Tryd.func13, Tryd.ntmps13
      go_wp2
      go_ret2
      exact ⟨rfl, Below.refl _ _⟩
  obtain ⟨p, rfl⟩ := Int.eq_ofNat_of_zero_le (a := a) (by omega)
  have hp : p ≤ n := by omega
  have j1 : ¬ (p : Int) < 0 := by omega
  have j2 : ¬ (n : Int) < (p : Int) := by omega
  obtain ⟨P, hP⟩ : ∃ P, w.heap.size = P := ⟨_, rfl⟩
  have SC : Sc (w.alloc (.cells #[.slice A n c, .int .i64 (p : Int)] 47)) P A n c p := by rw [← hP]; exact heap_alloc_new w _
  have BC : Below P w (w.alloc (.cells #[.slice A n c, .int .i64 (p : Int)] 47)) := by rw [← hP]; exact below_alloc9 w _
  have CON := Lib.hid (number_any S hb hP SC BC hp hn)
  obtain ⟨r, e, hre⟩ : ∃ r e, ck p (l.drop p) = (r, e) := ⟨_, _, rfl⟩
  rw [hre] at CON
  have hU := Lib.hid (uc_in (by rw [hlen]; exact hp) hre)
  unfold NP at CON
  rw [hU.out, hP]
  have HU : Hid (e ≠ 0 → (r : Int) = 0) := Lib.hid (fun he => by
    have h := ck_err p (l.drop p)
    rw [hre] at h
    have := h he
    simp only at this
    omega)
  have HPP := Lib.hid hP
  clear SC BC hre S hb hP ha
  go_enter Tryd.func13, Tryd.ntmps13
  go_wp2_with fail
  rw [HPP.out]
  refine CON.out.mono ?_
  rintro e1 w1 ⟨rfl, ⟨q, hqn, hq, hs⟩, hbw⟩
  have HB := Lib.hid hbw
  have HS := Lib.hid hs
  have c1 := hs.c1
  clear hbw hs
  by_cases he : e = 0
  · subst he
    obtain rfl : q = r := hq rfl
    clear CON hU HU
    go_wp2_with fail
    go_ret2
    exact ⟨rfl, HB.out⟩
  · have hr := HU.out he
    obtain rfl : r = 0 := by omega
    have he' : (e != 0) = true := by simpa using he
    clear CON hU HU hq he hr
    go_wp2_with fail
    go_ret2
    exact ⟨rfl, HB.out⟩
end Nu
end Go.Proofs.YtjgkaccmfdjffaaDoor
