/-
  The program's powerOf and plain of layer 9.
-/
import Derived.Test.YtjgkaccmfdjffaaDoorNv
import Derived.Test.YtjgkaccmfdjffaaDoorEw
namespace Go.Proofs.YtjgkaccmfdjffaaDoor
set_option linter.unusedVariables false
set_option linter.unusedSimpArgs false
open Go.RowKit
namespace Nu
open Wd We Es Bu
open Dm (Ds vl decs vl_pos vl_lt)

theorem hd1_byte {l : List Int} (h : Ds (if hd1 43 45 l then l.drop 1 else l)) : IsB l := by
  intro x hx
  cases hc : hd1 43 45 l with
  | true =>
    rw [hc, if_pos rfl] at h
    obtain ⟨a, t, rfl, ha⟩ := hd1_some hc
    rcases List.mem_cons.1 hx with rfl | hx
    · omega
    · have := h x hx; omega
  | false =>
    rw [hc, if_neg (by decide)] at h
    have := h x hx; omega
theorem sgn_drop {l : List Int} (h : Ds (if hd1 43 45 l then l.drop 1 else l)) : l.dropWhile sgn = (if hd1 43 45 l then l.drop 1 else l) := by
  have key : ∀ m : List Int, Ds m → m.dropWhile sgn = m := fun m hm => by
    rcases m with _ | ⟨a, t⟩
    · rfl
    · have := hm a (by simp)
      rw [List.dropWhile_cons, if_neg]
      unfold sgn
      rw [decide_eq_false (by omega)]; decide
  cases hc : hd1 43 45 l with
  | true =>
    rw [hc, if_pos rfl] at h
    obtain ⟨a, t, rfl, ha⟩ := hd1_some hc
    rw [List.dropWhile_cons, if_pos (show sgn a = true from decide_eq_true ha)]
    exact key t h
  | false =>
    rw [hc, if_neg (by decide)] at h
    exact key l h
set_option maxRecDepth 100000 in
set_option maxHeartbeats 4000000 in
theorem powerOf_ok (l : List Int) (w : World) (hd : Ds (if hd1 43 45 l then l.drop 1 else l)) (hn : l.length ≤ 140737488351232) :
    Calls Tryd.prog 44 #[.string (Dm.bs l)] w fun e w' => e = .returned (.tuple #[.int .i64 ((pw l).getD 0), .bool (pw l).isSome]) ∧ Below w.heap.size w w' := by
  have hb := hd1_byte hd
  have HB := Lib.hid hb
  have HDP := Lib.hid (pd_ds2 hd)
  have T1 := Lib.hid (trimL_sign l hb w)
  rw [sgn_drop hd] at T1
  have T2 := Lib.hid (fun w' => trimL_nought (if hd1 43 45 l then l.drop 1 else l) (fun x hx => by have := hd x hx; omega) w')
  have hpd : nz (if hd1 43 45 l then l.drop 1 else l) = pd l := rfl
  rw [hpd] at T2
  have PM := Lib.hid (fun w' => pre_minus l hb w')
  have WO := Lib.hid (fun w' (h : (pd l).length ≤ 15) => whole_ok (pd l) w' (pd_ds2 hd) (by omega))
  have hsz : (Dm.bs (pd l)).size = (pd l).length := Dm.bs_size _
  have hpl : (pd l).length ≤ 140737488351232 := by
    have h1 := nz_length (if hd1 43 45 l then l.drop 1 else l)
    rw [hpd] at h1
    have h2 : (if hd1 43 45 l then l.drop 1 else l).length ≤ l.length := by
      split
      · rw [List.length_drop]; omega
      · omega
    omega
  have hv0 := vl_pos (pd_ds2 hd)
  have hv1 : (pd l).length ≤ 15 → vl (pd l) < 1000000000000000 := fun h => by
    have h1 := vl_lt (pd_ds2 hd)
    have h2 : (10 : Int) ^ (pd l).length ≤ 10 ^ 15 := by
      have : (10 : Nat) ^ (pd l).length ≤ 10 ^ 15 := Nat.pow_le_pow_right (by omega) h
      exact_mod_cast this
    have h3 : (10 : Int) ^ 15 = 1000000000000000 := by decide
    omega
  obtain ⟨R, hR⟩ : ∃ R, pw l = R := ⟨_, rfl⟩
  have HR : Hid ((if 15 < (pd l).length then none else some (if hd1 45 45 l then - vl (pd l) else vl (pd l))) = R) := Lib.hid (by rw [← hR]; rfl)
  rw [hR]
  obtain ⟨S, hS⟩ : ∃ S, Dm.bs l = S := ⟨_, rfl⟩
  obtain ⟨M, hM⟩ : ∃ M, (if hd1 43 45 l then l.drop 1 else l) = M := ⟨_, rfl⟩
  rw [hM] at T1 T2
  obtain ⟨T, hT⟩ : ∃ T, Dm.bs M = T := ⟨_, rfl⟩
  obtain ⟨U, hU⟩ : ∃ U, Dm.bs (pd l) = U := ⟨_, rfl⟩
  obtain ⟨V, hV⟩ : ∃ V, vl (pd l) = V := ⟨_, rfl⟩
  obtain ⟨L, hL⟩ : ∃ L, (pd l).length = L := ⟨_, rfl⟩
  obtain ⟨z, hz⟩ : ∃ z, hd1 45 45 l = z := ⟨_, rfl⟩
  rw [hS] at T1 PM ⊢
  rw [hT] at T1 T2
  rw [hU] at T2 WO hsz
  rw [hV] at WO HR hv0 hv1
  rw [hL] at WO HR hsz hpl hv1
  rw [hz] at PM HR
  have hs1 : (U.size : Int) = (L : Int) := by omega
  clear hS hM hT hU hV hL hz hd hb hR hpd hn
  go_enter Tryd.func44, Tryd.ntmps44
  go_wp2_with fail
  refine T1.out.mono ?_
  rintro e w1 ⟨rfl, h1⟩
  have H1 := Lib.hid h1
  clear h1
  go_wp2_with fail
  refine (T2.out w1).mono ?_
  rintro e w2 ⟨rfl, h2⟩
  have H2 := Lib.hid (ext9 H1.out h2)
  clear h2
  by_cases hL : 15 < L
  · obtain rfl : R = none := by rw [← HR.out, if_pos hL]
    have g1 : (15 : Int) < (U.size : Int) := by omega
    clear HR
    go_wp2_with fail
    go_ret2
    exact ⟨rfl, H2.out⟩
  · have g1 : ¬ (15 : Int) < (U.size : Int) := by omega
    have hR := HR.out
    rw [if_neg hL] at hR
    have W1 := Lib.hid (fun w' => WO.out w' (by omega))
    have hv2 := hv1 (by omega)
    cases z with
    | true =>
      obtain rfl : R = some (-V) := by rw [← hR]; rfl
      clear hR HR hv1 WO
      go_wp2_with fail
      refine (PM.out w2).mono ?_
      rintro e w3 ⟨rfl, rfl⟩
      go_wp2_with fail
      refine (W1.out _).mono ?_
      rintro e w4 ⟨rfl, h4⟩
      have H4 := Lib.hid (ext9 H2.out h4)
      clear h4
      go_wp2_with fail
      go_ret2
      exact ⟨by first | rfl | simp, H4.out⟩
    | false =>
      obtain rfl : R = some V := by rw [← hR]; rfl
      clear hR HR hv1 WO
      go_wp2_with fail
      refine (PM.out w2).mono ?_
      rintro e w3 ⟨rfl, rfl⟩
      go_wp2_with fail
      refine (W1.out _).mono ?_
      rintro e w4 ⟨rfl, h4⟩
      have H4 := Lib.hid (ext9 H2.out h4)
      clear h4
      go_wp2_with fail
      go_ret2
      exact ⟨by first | rfl | simp, H4.out⟩
end Nu
end Go.Proofs.YtjgkaccmfdjffaaDoor
