/-
  The walk of NumberWhole, for any numbers.
-/
import Derived.Test.YtjgkaccmfdjffaaDoorOg
import Derived.Deep.CutBlock
import Derived.Deep.CutRange
import Derived.Deep.DeepCutAuto
namespace Go.Proofs.YtjgkaccmfdjffaaDoor
set_option linter.unusedVariables false
set_option linter.unusedSimpArgs false
open Go.RowKit
namespace Nu
open Wd We Es
open Dm (Ds vl decs)

/-- the four texts of a whole number -/
def ln (b : Bool) (v z : Nat) : Nat → List Int
  | 0 => mk b (decs v) [] []
  | 1 => mk b (decs v) (List.replicate (1 + z) 48) []
  | 2 => if v = 0 then mk b (decs v) [] (101 :: ([45] ++ decs z)) else mk b (decs v ++ List.replicate z 48) [] (101 :: ([45] ++ decs z))
  | _ => mk b (decs v) [] (69 :: ([43] ++ decs 0))
theorem reps_ds (k : Nat) : Ds (List.replicate k 48) := fun x hx => by have := (List.mem_replicate.1 hx).2; omega
theorem ip_reps {v : Nat} (h : v ≠ 0) (z : Nat) : Ip (decs v ++ List.replicate z 48) := by
  have hn := nz_decs (n := v) (by omega)
  refine ⟨(Dm.ds_decs v).append (reps_ds z), by have := Dm.decs_ne v; simp [this], .inr ?_⟩
  rcases nz_head (decs v) with g | ⟨x, t, g, hx⟩
  · rw [hn] at g; exact absurd g (Dm.decs_ne v)
  · rw [hn] at g; rw [g]; simpa using hx
theorem ln_val (b : Bool) (v z : Nat) (hz : z < 30) (i : Nat) : val (ln b v z i) = some (vw b v 0) := by
  rcases i with _ | _ | _ | i
  · exact val_plain v
  · exact val_dot v (1 + z)
  · show val (if v = 0 then _ else _) = _
    by_cases h : v = 0
    · subst h
      rw [if_pos rfl, val_whole (ex_decs 101 (.inl rfl) [45] (.inr (.inr rfl)) z) (xp_decs (c := 101) (s := [45]) (.inr (.inr rfl)) (n := z) (by omega))]
      unfold vw; rw [if_pos rfl, if_pos rfl]
    · rw [if_neg h]; exact val_moved h (by omega)
  · exact val_whole (ex_decs 69 (.inr rfl) [43] (.inr (.inl rfl)) 0) (xp_decs (c := 69) (s := [43]) (.inr (.inl rfl)) (n := 0) (by omega))
theorem ln_byte (b : Bool) (v z i : Nat) : IsB (ln b v z i) := by
  rcases i with _ | _ | _ | i
  · exact ex_byte (ip_decs v) ds_nil Ex.none
  · exact ex_byte (ip_decs v) (reps_ds _) Ex.none
  · show IsB (if v = 0 then _ else _)
    by_cases h : v = 0
    · rw [if_pos h]; exact ex_byte (ip_decs v) ds_nil (ex_decs 101 (.inl rfl) [45] (.inr (.inr rfl)) z)
    · rw [if_neg h]; exact ex_byte (ip_reps h z) ds_nil (ex_decs 101 (.inl rfl) [45] (.inr (.inr rfl)) z)
  · exact ex_byte (ip_decs v) ds_nil (ex_decs 69 (.inr rfl) [43] (.inr (.inl rfl)) 0)
theorem ln_len (b : Bool) {v z : Nat} (hv : v < 10000000000000000000) (hz : z < 30) (i : Nat) : (ln b v z i).length ≤ 150 := by
  have h1 := decs_19 hv
  have h2 := decs_19 (x := z) (by omega)
  have h3 := decs_19 (x := 0) (by omega)
  have k1 := mk_len b (decs v) [] []
  have k2 := mk_len b (decs v) (List.replicate (1 + z) 48) []
  have k3 := mk_len b (decs v) [] (101 :: ([45] ++ decs z))
  have k4 := mk_len b (decs v ++ List.replicate z 48) [] (101 :: ([45] ++ decs z))
  have k5 := mk_len b (decs v) [] (69 :: ([43] ++ decs 0))
  simp only [List.length_cons, List.length_append, List.length_nil, List.length_replicate] at k1 k2 k3 k4 k5
  rcases i with _ | _ | _ | i
  · show (mk b (decs v) [] []).length ≤ _; omega
  · show (mk b (decs v) (List.replicate (1 + z) 48) []).length ≤ _; omega
  · show (if v = 0 then _ else _ : List Int).length ≤ _
    by_cases h : v = 0
    · rw [if_pos h]; omega
    · rw [if_neg h]; omega
  · show (mk b (decs v) [] (69 :: ([43] ++ decs 0))).length ≤ _; omega
theorem mk_neg (ip fd ex : List Int) : (⟨#[45]⟩ : ByteArray) ++ Dm.bs (mk false ip fd ex) = Dm.bs (mk true ip fd ex) := by
  rw [show (⟨#[45]⟩ : ByteArray) = Dm.bs [45] from rfl, bs_app]; rfl
theorem ln_neg (v z i : Nat) : (⟨#[45]⟩ : ByteArray) ++ Dm.bs (ln false v z i) = Dm.bs (ln true v z i) := by
  rcases i with _ | _ | _ | i
  · exact mk_neg _ _ _
  · exact mk_neg _ _ _
  · show _ ++ Dm.bs (if v = 0 then _ else _) = Dm.bs (if v = 0 then _ else _)
    by_cases h : v = 0
    · rw [if_pos h, if_pos h]; exact mk_neg _ _ _
    · rw [if_neg h, if_neg h]; exact mk_neg _ _ _
  · exact mk_neg _ _ _
/-- the four texts, as the statement makes them -/
theorem ln0 (v z : Nat) : Dm.bs (decs v) = Dm.bs (ln false v z 0) := by show _ = Dm.bs (mk false (decs v) [] []); rw [mk_plain]
theorem ln1 (v z : Nat) : (Dm.bs (decs v) ++ ⟨#[46]⟩) ++ Dm.bs (List.replicate (1 + z) 48) = Dm.bs (ln false v z 1) := by
  rw [lit46]
  simp only [bs_app]
  congr 1
  show _ = mk false (decs v) (List.replicate (1 + z) 48) []
  unfold mk fp
  rw [if_neg (by rw [Nat.add_comm, List.replicate_succ]; simp)]
  simp [sg]
theorem ln2 (v z : Nat) : ((if v = 0 then Dm.bs (decs v) else Dm.bs (decs v) ++ Dm.bs (List.replicate z 48)) ++ ⟨#[101, 45]⟩) ++ Dm.bs (decs z) = Dm.bs (ln false v z 2) := by
  rw [show (⟨#[101, 45]⟩ : ByteArray) = Dm.bs [101, 45] from rfl]
  show _ = Dm.bs (if v = 0 then _ else _)
  by_cases h : v = 0
  · rw [if_pos h, if_pos h]
    simp only [bs_app]
    congr 1
    unfold mk fp
    simp [sg]
  · rw [if_neg h, if_neg h]
    simp only [bs_app]
    congr 1
    unfold mk fp
    simp [sg]
theorem ln3 (v z : Nat) : Dm.bs (decs v) ++ ⟨#[69, 43, 48]⟩ = Dm.bs (ln false v z 3) := by
  rw [show (⟨#[69, 43, 48]⟩ : ByteArray) = Dm.bs [69, 43, 48] from rfl, bs_app]
  congr 1
  show _ = mk false (decs v) [] (69 :: ([43] ++ decs 0))
  rw [decs_zero]
  unfold mk fp
  simp [sg]
theorem lh_eq (v : Nat) : Dm.bs (decs v) ++ ⟨#[46, 53]⟩ = Dm.bs (mk false (decs v) [53] []) := by
  rw [show (⟨#[46, 53]⟩ : ByteArray) = Dm.bs [46, 53] from rfl, bs_app]
  congr 1
theorem lt_eq (v : Nat) : Dm.bs (decs v) ++ ⟨#[53, 101, 45, 49]⟩ = Dm.bs (decs v ++ [53] ++ (101 :: ([45] ++ [49]))) := by
  rw [show (⟨#[53, 101, 45, 49]⟩ : ByteArray) = Dm.bs [53, 101, 45, 49] from rfl, bs_app]
  congr 1
  simp
theorem lt_byte (v : Nat) : IsB (decs v ++ [53] ++ (101 :: ([45] ++ [49]))) := fun x hx => by
  rcases List.mem_append.1 hx with h | h
  · rcases List.mem_append.1 h with h | h
    · exact ds_byte (Dm.ds_decs v) x h
    · have : x = 53 := by simpa using h
      omega
  · simp at h; omega

set_option maxRecDepth 100000 in
set_option maxHeartbeats 8000000 in
theorem core_NumberWhole (H : NumOk) (a0 a1 : Int) (w : World) (h10 : -9223372036854775808 ≤ a1) (h11 : a1 ≤ 9223372036854775807) :
    Calls Tryd.prog 8 #[.int .i64 a0, .int .i64 a1] w fun e w' => e = .returned (.bool true) ∧ Below w.heap.size w w' := by
  obtain ⟨v, hv, hv2⟩ := and53 a0
  have BR := bring_any a1 30 (by omega) (by omega) h10 h11
  obtain ⟨z, hz⟩ := Int.eq_ofNat_of_zero_le (Int.emod_nonneg a1 (b := 30) (by omega))
  have hz2 := Int.emod_lt_of_pos a1 (b := 30) (by omega)
  rw [hz] at BR hz2
  have hz3 : z < 30 := by omega
  have HBR := Lib.hid BR
  have TV := Lib.hid (fun w' => text_any v (by omega) w')
  have TZ := Lib.hid (fun w' => text_any z (by omega) w')
  have N0 := Lib.hid (fun w' => noughts_any z (by omega) w')
  have N1 : ∀ w', Calls Tryd.prog 24 #[.int .i64 (1 + (z : Int))] w' fun e w'' => e = .returned (.string (Dm.bs (List.replicate (1 + z) 48))) ∧ w'' = w' := fun w' => by
    have h := noughts_any (1 + z) (by omega) w'
    rw [show ((1 + z : Nat) : Int) = 1 + (z : Int) by omega] at h; exact h
  have TB : ∀ w', Calls Tryd.prog 23 #[.int .i64 (9007199254740992 + (v : Int))] w' fun e w'' => e = .returned (.string (Dm.bs (decs (9007199254740992 + v)))) ∧ Below w'.heap.size w' w'' := fun w' => by
    have h := text_any (9007199254740992 + v) (by omega) w'
    rw [show ((9007199254740992 + v : Nat) : Int) = 9007199254740992 + (v : Int) by omega] at h; exact h
  have L1 : v < 10000000000000000000 := by omega
  have L2 : 9007199254740992 + v < 10000000000000000000 := by omega
  have E0 := ln0 v z
  have E1 := ln1 v z
  have E2 := ln2 v z
  have E3 := ln3 v z
  have EH := lh_eq v
  have ET := lt_eq v
  have EB := mk_plain (decs (9007199254740992 + v))
  have EBN := mk_neg (decs (9007199254740992 + v)) [] []
  rw [EB] at EBN
  have sv : (Dm.bs (decs v)).size ≤ 19 := by rw [Dm.bs_size]; exact decs_19 L1
  have sz : (Dm.bs (decs z)).size ≤ 19 := by rw [Dm.bs_size]; exact decs_19 (by omega)
  have sb : (Dm.bs (decs (9007199254740992 + v))).size ≤ 19 := by rw [Dm.bs_size]; exact decs_19 L2
  have s0 : (Dm.bs (List.replicate z (48 : Int))).size ≤ 30 := by rw [Dm.bs_size, List.length_replicate]; omega
  have s1 : (Dm.bs (List.replicate (1 + z) (48 : Int))).size ≤ 30 := by rw [Dm.bs_size, List.length_replicate]; omega
  have HZ2 : itg (mk true (decs (9007199254740992 + v)) [] []) = (0, false) := itg_big (b := true) (val_plain (9007199254740992 + v)) (by omega)
  have HZ1 : itg (decs (9007199254740992 + v)) = (0, false) := by
    have h := itg_big (b := false) (val_plain (b := false) (9007199254740992 + v)) (by omega)
    rw [mk_plain] at h; exact h
  have Q1 := Lib.hid (none_any H _ _ rfl (ds_byte (Dm.ds_decs (9007199254740992 + v))) (by have := decs_19 L2; omega) HZ1)
  have Q2 := Lib.hid (none_any H _ _ EBN (ex_byte (ip_decs _) ds_nil Ex.none) (by have := mk_len true (decs (9007199254740992 + v)) [] []; have := decs_19 L2; simp only [List.length_nil] at *; omega) HZ2)
  have Q3 := Lib.hid (none_any H _ _ EH (ex_byte (ip_decs v) (ds_one (by omega)) Ex.none) (by have := mk_len false (decs v) [53] []; have := decs_19 L1; simp only [List.length_nil, List.length_cons] at *; omega) (itg_half v))
  have Q4 := Lib.hid (none_any H _ _ ET (lt_byte v) (by have := decs_19 L1; simp only [List.length_append, List.length_cons, List.length_nil] at *; omega) (itg_tenth v))
  have WP := Lib.hid (fun i w' => whole_any H (Dm.bs (ln false v z i)) (ln false v z i) (v : Int) rfl (ln_byte false v z i) (by have := ln_len false L1 hz3 i; omega) (itg_whole (b := false) (ln_val false v z hz3 i) (by omega)) w')
  have WN := Lib.hid (fun i w' => whole_any H ((⟨#[45]⟩ : ByteArray) ++ Dm.bs (ln false v z i)) (ln true v z i) (-(v : Int)) (ln_neg v z i) (ln_byte true v z i) (by have := ln_len true L1 hz3 i; omega) (itg_whole (b := true) (ln_val true v z hz3 i) (by omega)) w')
  have WS := Lib.hid (fun i w' => same_at H (Dm.bs (ln false v z i)) (Dm.bs (decs v)) (ln false v z i) (ln false v z 0) true rfl E0 (ln_byte false v z i) (ln_byte false v z 0) (by have := ln_len false L1 hz3 i; omega) (by have := ln_len false L1 hz3 0; omega) (sam_yes (ln_val false v z hz3 i) (ln_val false v z hz3 0)) w')
  have SZL : Hid (∀ i, (Dm.bs (ln false v z i)).size ≤ 150) := Lib.hid (fun i => by rw [Dm.bs_size]; exact ln_len false L1 hz3 i)
  obtain ⟨X, hX⟩ : ∃ X : Nat → ByteArray, (fun i => Dm.bs (ln false v z i)) = X := ⟨_, rfl⟩
  have hXi : ∀ i, Dm.bs (ln false v z i) = X i := fun i => by rw [← hX]
  simp only [hXi] at WP WN WS SZL E0 E1 E2 E3
  obtain ⟨S, hS⟩ : ∃ S, Dm.bs (decs v) = S := ⟨_, rfl⟩
  obtain ⟨Z, hZ⟩ : ∃ S, Dm.bs (decs z) = S := ⟨_, rfl⟩
  obtain ⟨BG, hBG⟩ : ∃ S, Dm.bs (decs (9007199254740992 + v)) = S := ⟨_, rfl⟩
  obtain ⟨R0, hR0⟩ : ∃ S, Dm.bs (List.replicate z (48 : Int)) = S := ⟨_, rfl⟩
  obtain ⟨R1, hR1⟩ : ∃ S, Dm.bs (List.replicate (1 + z) (48 : Int)) = S := ⟨_, rfl⟩
  simp only [hBG] at TB
  simp only [hR1] at N1
  rw [hS] at TV E0 E1 E2 E3 WS sv Q3 Q4
  rw [hZ] at TZ E2 sz
  rw [hBG] at Q1 Q2 sb
  rw [hR0] at N0 E2 s0
  rw [hR1] at E1 s1
  obtain ⟨PS, hPS⟩ : ∃ P, (if v = 0 then S else S ++ R0) = P := ⟨_, rfl⟩
  rw [hPS] at E2
  have HPS := Lib.hid hPS
  have sp : PS.size ≤ 49 := by
    rw [← hPS]
    split
    · omega
    · rw [ByteArray.size_append]; omega
  have HTB := Lib.hid TB
  have HN1 := Lib.hid N1
  have B0 := Lib.hid (Below.refl w.heap.size w)
  clear BR hz hz2 h10 h11 EH ET EB EBN HZ1 HZ2 hX hXi hS hZ hBG hR0 hR1 hPS TB N1 L1 L2
  have HE0 := Lib.hid E0
  clear E0
  go_enter Tryd.func8, Tryd.ntmps8
  go_wp2_with fail
  refine (HBR.out _).mono ?_
  rintro e w0 ⟨rfl, rfl⟩
  go_wp2_with fail
  refine (TV.out _).mono ?_
  rintro e w1 ⟨rfl, h1⟩
  have B1 := Lib.hid (ext9 B0.out h1)
  clear h1
  go_wp2_with fail
  refine (N0.out _).mono ?_
  rintro e w2 ⟨rfl, rfl⟩
  go_upto_if 23 with fail
  go_cut [8] from 18 to 24 (fun s8 wx => s8 = .string PS ∧ Hid (Below w.heap.size w wx))
  case first =>
    by_cases hv0 : v = 0
    · obtain rfl : S = PS := by have h := HPS.out; rw [if_pos hv0] at h; exact h
      have i0 : ((v : Int) == 0) = true := by simp; omega
      clear hv0
      go_wp2_with fail
      go_meet
      exact ⟨rfl, B1⟩
    · have h := HPS.out
      rw [if_neg hv0] at h
      have i0 : ((v : Int) == 0) = false := by simp; omega
      clear hv0
      go_wp2_with fail
      go_meet
      exact ⟨by rw [h], B1⟩
  case rest =>
    obtain ⟨rfl, B2⟩ := hcut
    clear B1
    go_wp2_with fail
    refine (HN1.out _).mono ?_
    rintro e w3 ⟨rfl, rfl⟩
    go_wp2_with fail
    refine (TZ.out _).mono ?_
    rintro e w4 ⟨rfl, h4⟩
    have B4 := Lib.hid (ext9 B2.out h4)
    clear h4
    go_wp2_with fail
    have hq : (w4.alloc (.cells #[.string S, .string (X 1), .string (X 2), .string (X 3)] 9)).heap[w4.heap.size]? = some (.cells #[.string S, .string (X 1), .string (X 2), .string (X 3)] 9 (0, 0)) := heap_alloc_new w4 _
    have b5 := ext9 B4.out (below_alloc9 w4 (.cells #[.string S, .string (X 1), .string (X 2), .string (X 3)] 9))
    obtain ⟨W5, hW5⟩ : ∃ W5, w4.alloc (.cells #[.string S, .string (X 1), .string (X 2), .string (X 3)] 9) = W5 := ⟨_, rfl⟩
    obtain ⟨Q, hQ⟩ : ∃ Q, w4.heap.size = Q := ⟨_, rfl⟩
    rw [hW5] at hq b5 ⊢
    rw [hQ] at hq ⊢
    have B5 := Lib.hid b5
    have CX : Hid (∀ (k : Nat) (wr : World), k < 4 → Below W5.heap.size W5 wr → wr.cell? ⟨Q, k, none⟩ = some (.string (X k))) := Lib.hid (fun k wr hk h => by
      have h5 : W5.cell? ⟨Q, k, none⟩ = some (.string (X k)) := by
        simp only [World.cell?, hq]
        match k, hk with
        | 0, _ => rw [← HE0.out]; rfl
        | 1, _ => rfl
        | 2, _ => rfl
        | 3, _ => rfl
      exact (h.cell (p := ⟨Q, k, none⟩) (lt_of_cell h5)).trans h5)
    clear hW5 hQ hq b5 E1 E2 E3 HPS
    go_loopw [10] (fun iv wr => ∃ k : Nat, iv = .int .i64 k ∧ k ≤ 4 ∧ Hid (Below W5.heap.size W5 wr)) (fun iv _ => 4 - (intOf iv).toNat)
    case atStart => exact ⟨0, rfl, by omega, Lib.hid (Below.refl _ _)⟩
    case round =>
      obtain ⟨k, rfl, hk, B6⟩ := hrel
      by_cases hk4 : k < 4
      · have i1 : (k : Int) < 4 := by omega
        have cx := CX.out k wr hk4 B6.out
        have C1 := Lib.hid (WP.out k)
        have C2 := Lib.hid (WN.out k)
        have C3 := Lib.hid (WS.out k)
        have hsx := SZL.out k
        obtain ⟨Y, hY⟩ : ∃ Y, X k = Y := ⟨_, rfl⟩
        rw [hY] at cx C1 C2 C3 hsx
        have HY := Lib.hid hY
        clear hY
        go_wp2_with fail
        refine (C1.out _).mono ?_
        rintro e x7 ⟨rfl, h7⟩
        have B7 := Lib.hid (ext9 B6.out h7)
        have cx7 := CX.out k _ hk4 B7.out
        rw [HY.out] at cx7
        clear h7
        go_wp2_with fail
        refine (C2.out _).mono ?_
        rintro e x8 ⟨rfl, h8⟩
        have B8 := Lib.hid (ext9 B7.out h8)
        have cx8 := CX.out k _ hk4 B8.out
        rw [HY.out] at cx8
        clear h8
        go_wp2_with fail
        refine (C3.out _).mono ?_
        rintro e x9 ⟨rfl, h9⟩
        have B9 := Lib.hid (ext9 B8.out h9)
        clear h9
        go_wp2_with fail
        exact ⟨⟨k + 1, by go_num, by omega, B9⟩, by simp [intOf]; omega⟩
      · obtain rfl : k = 4 := by omega
        have i1 : ¬ ((4 : Nat) : Int) < 4 := by omega
        have B7 := Lib.hid (ext9 B5.out B6.out)
        rw [show ((4 : Nat) : Int) = 4 from rfl]
        go_wp2_with fail
        refine (HTB.out _).mono ?_
        rintro e y8 ⟨rfl, h8⟩
        have B8 := Lib.hid (ext9 B7.out h8)
        clear h8
        go_wp2_with fail
        refine (Q1.out _).mono ?_
        rintro e y9 ⟨rfl, h9⟩
        have B9 := Lib.hid (ext9 B8.out h9)
        clear h9
        go_wp2_with fail
        refine (Q2.out _).mono ?_
        rintro e y10 ⟨rfl, h10⟩
        have B10 := Lib.hid (ext9 B9.out h10)
        clear h10
        go_wp2_with fail
        refine (Q3.out _).mono ?_
        rintro e y11 ⟨rfl, h11⟩
        have B11 := Lib.hid (ext9 B10.out h11)
        clear h11
        go_wp2_with fail
        refine (Q4.out _).mono ?_
        rintro e y12 ⟨rfl, h12⟩
        have B12 := Lib.hid (ext9 B11.out h12)
        clear h12
        go_wp2_with fail
        refine (awake9 H _).mono ?_
        rintro e y13 ⟨rfl, h13⟩
        have B13 := Lib.hid (ext9 B12.out h13)
        clear h13
        go_wp2
        go_ret
        exact ⟨by first | rfl | (simp; done) | (simp; omega), B13.out⟩
end Nu
end Go.Proofs.YtjgkaccmfdjffaaDoor
