/-
  What Make of package head and the document's Make of layer 6 compute; what written headers tell; the statements' says, fails, awake.
-/
import Derived.Test.YtigiiofiajhnlaaGreatDoorHe
import Derived.Laws.Concat
namespace Go.Proofs.YtigiiofiajhnlaaGreatDoor
set_option linter.unusedVariables false
open Go.RowKit
namespace Hg
open Wd We Dm Da Dc Dd It Hm Hb Hc Hd He

/-- what lines tell that are written, with the empty line behind them -/
theorem prs_wr {xs : List (List Int)} (r : List Int) (h0 : xs ≠ []) (h : ∀ x ∈ xs, Cl x ∧ x ≠ []) (hl : (wr xs).length + 2 ≤ 512) : prs (wr xs ++ ([13, 10] ++ r)) = if (go (-1) xs).2 = 0 then ((go (-1) xs).1, (((wr xs).length + 2 : Nat) : Int), 0) else (0, 0, (go (-1) xs).2) := by
  have e1 := hEnd_take (hEnd_wr r h0 h) hl
  have e2 : spl ((wr xs ++ ([13, 10] ++ r)).take ((wr xs).length + 2 - 2)) = xs := by
    rw [Nat.add_sub_cancel, List.take_left, spl_wr (fun x hx => (h x hx).1)]
  unfold prs; rw [e1]; simp only [e2]
theorem prs_long {xs : List (List Int)} (r : List Int) (h0 : xs ≠ []) (h : ∀ x ∈ xs, Cl x ∧ x ≠ []) (hl : 512 < (wr xs).length + 2) : prs (wr xs ++ ([13, 10] ++ r)) = (0, 0, 5) := by
  rw [prs_none (hEnd_short (hEnd_wr r h0 h) hl), if_pos]
  rw [List.length_append, List.length_append]
  show 512 ≤ _ + (2 + _); omega
theorem cl_of {l : List Int} (h : ∀ a ∈ l, inN a = true ∨ inV a = true) : Cl l := fun a ha => by
  rcases h a ha with g | g
  · unfold inN at g; have := of_decide_eq_true g; omega
  · unfold inV at g; have := of_decide_eq_true g; omega
theorem inV_58 : inV 58 = true := by decide
/-- a line of a name and a value is clean -/
theorem cl_line {nm v : List Int} (h : ∀ a ∈ nm, inN a = true) (hv : ∀ a ∈ v, inV a = true) : Cl (nm ++ (58 :: v)) ∧ nm ++ (58 :: v) ≠ [] := by
  refine ⟨cl_of fun a ha => ?_, by simp⟩
  rcases List.mem_append.1 ha with g | g
  · exact .inl (h a g)
  · rcases List.mem_cons.1 g with e | e
    · subst e; exact .inr inV_58
    · exact .inr (hv a e)
theorem inV_digit {a : Int} (h : 48 ≤ a ∧ a ≤ 57) : inV a = true := by unfold inV; exact decide_eq_true (.inr ⟨by omega, by omega⟩)
theorem inV_blank {a : Int} (h : isBl a = true) : inV a = true := by
  unfold isBl at h; have := of_decide_eq_true h
  unfold inV; exact decide_eq_true (by omega)
theorem bl_digit {a : Int} (h : 48 ≤ a ∧ a ≤ 57) : isBl a = false := by unfold isBl; exact decide_eq_false (by omega)
/-- the value of a Content-Length -/
theorem ps_value {b1 ds b2 : List Int} (h1 : ∀ x ∈ b1, isBl x = true) (h2 : ∀ x ∈ b2, isBl x = true) (hd : Ds ds) (h0 : ds ≠ []) (hv : vl ds ≤ 65536) : ps (trm (b1 ++ (ds ++ b2))) 65536 = (vl ds, 0) := by
  rw [trm_of h1 h2 (fun x hx => bl_digit (hd x (List.mem_of_mem_head? hx))) (fun x hx => bl_digit (hd x (List.mem_of_getLast? hx)))]
  exact ps_ok (by omega) h0 hd hv
theorem inV_value {b1 ds b2 : List Int} (h1 : ∀ x ∈ b1, isBl x = true) (h2 : ∀ x ∈ b2, isBl x = true) (hd : Ds ds) : ∀ a ∈ b1 ++ (ds ++ b2), inV a = true := fun a ha => by
  rcases List.mem_append.1 ha with g | g
  · exact inV_blank (h1 a g)
  · rcases List.mem_append.1 g with g | g
    · exact inV_digit (hd a g)
    · exact inV_blank (h2 a g)

/-- Make's line -/
def ml (v : Nat) : List Int := CL ++ (58 :: ([32] ++ (decs v ++ [])))
/-- Make's header -/
def hd (v : Nat) : List Int := wr [ml v] ++ ([13, 10] ++ [])
theorem CL_inN : ∀ a ∈ CL, inN a = true := List.all_eq_true.1 (by decide)
theorem bl_one : ∀ x ∈ ([32] : List Int), isBl x = true := List.all_eq_true.1 (by decide)
theorem bl_nil : ∀ x ∈ ([] : List Int), isBl x = true := List.all_eq_true.1 (by decide)
theorem ml_clean (v : Nat) : Cl (ml v) ∧ ml v ≠ [] := cl_line CL_inN (inV_value bl_one bl_nil (ds_decs v))
theorem ml_fin {v : Nat} (h : v ≤ 65536) (told : Int) : tel (ml v) told = fin CL ([32] ++ (decs v ++ [])) told := tel_line told (by decide) CL_inN (inV_value bl_one bl_nil (ds_decs v))
theorem ml_ps {v : Nat} (h : v ≤ 65536) : ps (trm ([32] ++ (decs v ++ []))) 65536 = ((v : Int), 0) := by
  rw [ps_value bl_one bl_nil (ds_decs v) (decs_ne v) (by rw [vl_decs]; omega), vl_decs]
theorem ml_same {v : Nat} (h : v ≤ 65536) {told : Int} (ht : told = -1 ∨ told = v) : tel (ml v) told = ((v : Int), 0) := by rw [ml_fin h, fin_same CL_low (ml_ps h) ht]
theorem ml_unlike {v : Nat} (h : v ≤ 65536) {told : Int} (h1 : ¬ told = -1) (h2 : ¬ told = v) : tel (ml v) told = (0, 60) := by rw [ml_fin h, fin_unlike CL_low (ml_ps h) h1 h2]
theorem hd_length (v : Nat) : (hd v).length = 20 + (decs v).length := by
  unfold hd ml wr CL; simp; omega
theorem wr_ml_length (v : Nat) : (wr [ml v]).length = 18 + (decs v).length := by
  unfold ml wr CL; simp; omega
theorem decs_five {v : Nat} (h : v ≤ 65536) : (decs v).length ≤ 19 := decs_length_le (by omega)
theorem hd_behind {v : Nat} (h : v ≤ 65536) (r : List Int) : prs (hd v ++ r) = ((v : Int), ((hd v).length : Int), 0) := by
  have e : hd v ++ r = wr [ml v] ++ ([13, 10] ++ r) := by unfold hd; simp
  have h5 := decs_five h
  rw [e, prs_wr r (by simp) (fun x hx => by rw [List.mem_singleton.1 hx]; exact ml_clean v) (by rw [wr_ml_length]; omega)]
  have eg : go (-1) [ml v] = ((v : Int), 0) := by rw [go_on (ml_same h (.inl rfl)), go_nil, if_neg (by omega)]
  rw [eg, if_pos rfl, wr_ml_length, hd_length]
  simp; omega
theorem hd_part {v : Nat} (h : v ≤ 65536) {k : Nat} (hk : k < (hd v).length) : prs ((hd v).take k) = (0, 0, 3) := by
  have h5 := decs_five h
  have hl := hd_length v
  have e1 : hEnd (hd v) = some ((wr [ml v]).length + 2) := hEnd_wr [] (by simp) (fun x hx => by rw [List.mem_singleton.1 hx]; exact ml_clean v)
  have e2 : hEnd (((hd v).take k).take 512) = none := by
    rw [List.take_take]
    exact hEnd_short e1 (by rw [wr_ml_length]; omega)
  rw [prs_none e2, if_neg]
  rw [List.length_take]; omega
theorem isB_decs (v : Nat) : IsB (decs v) := fun x hx => by have := ds_decs v x hx; omega
theorem hd_eq (v : Nat) : hd v = (CL ++ [58, 32]) ++ decs v ++ [13, 10] ++ [13, 10] := by unfold hd ml wr; simp
theorem CH_isB : IsB (CL ++ [58, 32]) := isB_all (by decide)
theorem hd_isB (v : Nat) : IsB (hd v) := by
  rw [hd_eq]
  exact ((CH_isB.append (isB_decs v)).append (isB_all (by decide))).append (isB_all (by decide))
theorem bs_app (l r : List Int) : bs l ++ bs r = bs (l ++ r) := by
  apply ByteArray.ext
  rw [ByteArray.data_append]
  simp [bs]
theorem add_bs {l r : List Int} (h : l.length + r.length ≤ 9223372036854775807) {a b : ByteArray} (ha : a = bs l) (hb : b = bs r) (P : Program) (w : World) : (Op.stringOp .add a b).run P w = .ok (.string (bs (l ++ r))) w := by
  rw [ha, hb, ← bs_app]
  exact run_string_add_sum _ _ _ (by rw [bs_size, bs_size]; exact h)

set_option maxRecDepth 100000 in
set_option maxHeartbeats 1600000 in
theorem make_ok (v : Nat) (h : v ≤ 65536) (w : World) (t : Tab w) :
    Calls Tryz.prog 15 #[.int .i64 v] w fun e w' => ∃ A c, e = .returned (.tuple #[.slice A (hd v).length c, .int .i64 0]) ∧ Sl .u8 w' A (hd v).length c (hd v) ∧ Below w.heap.size w w' := by
  have i0 : ¬ (65536 : Int) < (v : Int) := by omega
  have T := Lib.hid t
  have h5 := decs_five h
  clear t
  have k1 := add_bs (l := CL ++ [58, 32]) (r := decs v) (a := ⟨#[67, 111, 110, 116, 101, 110, 116, 45, 76, 101, 110, 103, 116, 104, 58, 32]⟩) (by show 16 + _ ≤ _; omega) rfl rfl
  have k2 := add_bs (l := (CL ++ [58, 32]) ++ decs v) (r := [13, 10]) (b := ⟨#[13, 10]⟩) (by rw [List.length_append]; show 16 + _ + 2 ≤ _; omega) rfl rfl
  have k3 := add_bs (l := (CL ++ [58, 32]) ++ decs v ++ [13, 10]) (r := [13, 10]) (b := ⟨#[13, 10]⟩) (by rw [List.length_append, List.length_append]; show 16 + _ + 2 + 2 ≤ _; omega) rfl rfl
  rw [← hd_eq] at k3
  generalize (CL ++ [58, 32]) ++ decs v ++ [13, 10] = l3 at *
  generalize (CL ++ [58, 32]) ++ decs v = l2 at *
  go_enter Tryz.func15, Tryz.ntmps15
  go_wp2_with fail
  refine (text_ok v (by omega) _ T.out).mono ?_
  rintro e w1 ⟨rfl, hb⟩
  have hhl := hd_length v
  obtain ⟨c, w2, kc, s2, hbl⟩ := conv_back w1 (s := bs (hd v)) rfl (hd_isB v) (by unfold maxLen; omega)
  have S2 := Lib.hid s2
  have HB := Lib.hid (ext_trans hb hbl)
  clear s2 hbl hb hhl
  go_wp2
  go_ret2
  exact ⟨_, _, rfl, S2.out, HB.out⟩
set_option maxHeartbeats 400000 in
theorem make_no (n : Int) (h : n < 0 ∨ 65536 < n) (w : World) :
    Calls Tryz.prog 15 #[.int .i64 n] w fun e w' => e = .returned (.tuple #[.slice none 0 0, .int .i64 9]) ∧ w = w' := by
  by_cases h1 : 65536 < n
  · clear h
    go_enter Tryz.func15, Tryz.ntmps15
    go_wp2; go_ret2; exact ⟨rfl, rfl⟩
  · have h2 : n < 0 := by omega
    clear h
    go_enter Tryz.func15, Tryz.ntmps15
    go_wp2_with fail
    refine (text_neg n h2 _).mono ?_
    rintro e w' ⟨rfl, rfl⟩
    go_wp2; go_ret2; exact ⟨rfl, rfl⟩

set_option maxRecDepth 100000 in
set_option maxHeartbeats 1600000 in
theorem rmake_ok (v : Nat) (h : v ≤ 65536) (w : World) :
    Calls Tryz.prog 34 #[.int .i64 v] w fun e w' => ∃ A c, e = .returned (.tuple #[.slice A (hd v).length c, .int .i64 0]) ∧ Sl .u8 w' A (hd v).length c (hd v) ∧ Below w.heap.size w w' := by
  have i0 : ¬ (65536 : Int) < (v : Int) := by omega
  have i1 : ¬ (v : Int) < 0 := by omega
  have h5 := decs_five h
  have k1 := add_bs (l := CL ++ [58, 32]) (r := decs v) (a := ⟨#[67, 111, 110, 116, 101, 110, 116, 45, 76, 101, 110, 103, 116, 104, 58, 32]⟩) (by show 16 + _ ≤ _; omega) rfl rfl
  have k2 := add_bs (l := (CL ++ [58, 32]) ++ decs v) (r := [13, 10, 13, 10]) (b := ⟨#[13, 10, 13, 10]⟩) (by rw [List.length_append]; show 16 + _ + 4 ≤ _; omega) rfl rfl
  have e2 : (CL ++ [58, 32]) ++ decs v ++ [13, 10, 13, 10] = hd v := by rw [hd_eq]; simp
  rw [e2] at k2
  generalize (CL ++ [58, 32]) ++ decs v = l2 at *
  clear e2
  go_enter Tryz.func34, Tryz.ntmps34
  go_wp2_with fail
  refine (rtext_ok v (by omega) _).mono ?_
  rintro e w1 ⟨rfl, hb⟩
  have hhl := hd_length v
  obtain ⟨c, w2, kc, s2, hbl⟩ := conv_back w1 (s := bs (hd v)) rfl (hd_isB v) (by unfold maxLen; omega)
  have S2 := Lib.hid s2
  have HB := Lib.hid (ext_trans hb hbl)
  clear s2 hbl hb hhl
  go_wp2
  go_ret2
  exact ⟨_, _, rfl, S2.out, HB.out⟩
set_option maxHeartbeats 400000 in
theorem rmake_no (n : Int) (h : n < 0 ∨ 65536 < n) (w : World) :
    Calls Tryz.prog 34 #[.int .i64 n] w fun e w' => e = .returned (.tuple #[.slice none 0 0, .int .i64 9]) ∧ w = w' := by
  by_cases h1 : 65536 < n
  · have h2 : ¬ n < 0 := by omega
    clear h
    go_enter Tryz.func34, Tryz.ntmps34
    go_wp2; go_ret2; exact ⟨rfl, rfl⟩
  · have h2 : n < 0 := by omega
    clear h
    go_enter Tryz.func34, Tryz.ntmps34
    go_wp2; go_ret2; exact ⟨rfl, rfl⟩

theorem ex0 : prs [67, 111, 110, 116, 101, 110, 116, 45, 76, 101, 110, 103, 116, 104, 58, 32, 53, 13, 10, 13, 10, 104, 101, 108, 108, 111] = (5, 21, 0) := by decide +kernel
theorem st0 : (⟨#[67, 111, 110, 116, 101, 110, 116, 45, 76, 101, 110, 103, 116, 104, 58, 32, 53, 13, 10, 13, 10, 104, 101, 108, 108, 111]⟩ : ByteArray) = bs [67, 111, 110, 116, 101, 110, 116, 45, 76, 101, 110, 103, 116, 104, 58, 32, 53, 13, 10, 13, 10, 104, 101, 108, 108, 111] := by kernel_rfl
theorem ib0 : IsB [67, 111, 110, 116, 101, 110, 116, 45, 76, 101, 110, 103, 116, 104, 58, 32, 53, 13, 10, 13, 10, 104, 101, 108, 108, 111] := isB_all (by decide +kernel)
theorem ex1 : prs [99, 111, 110, 116, 101, 110, 116, 45, 108, 101, 110, 103, 116, 104, 58, 48, 53, 9, 13, 10, 67, 111, 110, 116, 101, 110, 116, 45, 84, 121, 112, 101, 58, 32, 120, 13, 10, 13, 10] = (5, 39, 0) := by decide +kernel
theorem st1 : (⟨#[99, 111, 110, 116, 101, 110, 116, 45, 108, 101, 110, 103, 116, 104, 58, 48, 53, 9, 13, 10, 67, 111, 110, 116, 101, 110, 116, 45, 84, 121, 112, 101, 58, 32, 120, 13, 10, 13, 10]⟩ : ByteArray) = bs [99, 111, 110, 116, 101, 110, 116, 45, 108, 101, 110, 103, 116, 104, 58, 48, 53, 9, 13, 10, 67, 111, 110, 116, 101, 110, 116, 45, 84, 121, 112, 101, 58, 32, 120, 13, 10, 13, 10] := by kernel_rfl
theorem ib1 : IsB [99, 111, 110, 116, 101, 110, 116, 45, 108, 101, 110, 103, 116, 104, 58, 48, 53, 9, 13, 10, 67, 111, 110, 116, 101, 110, 116, 45, 84, 121, 112, 101, 58, 32, 120, 13, 10, 13, 10] := isB_all (by decide +kernel)
theorem ex2 : prs [13, 10] = (0, 0, 60) := by decide +kernel
theorem st2 : (⟨#[13, 10]⟩ : ByteArray) = bs [13, 10] := by kernel_rfl
theorem ib2 : IsB [13, 10] := isB_all (by decide +kernel)
theorem ex3 : prs [88, 58, 32, 49, 13, 10, 13, 10] = (0, 0, 60) := by decide +kernel
theorem st3 : (⟨#[88, 58, 32, 49, 13, 10, 13, 10]⟩ : ByteArray) = bs [88, 58, 32, 49, 13, 10, 13, 10] := by kernel_rfl
theorem ib3 : IsB [88, 58, 32, 49, 13, 10, 13, 10] := isB_all (by decide +kernel)
theorem ex4 : prs [67, 111, 110, 116, 101, 110, 116, 45, 76, 101, 110, 103, 116, 104, 32, 53, 13, 10, 13, 10] = (0, 0, 60) := by decide +kernel
theorem st4 : (⟨#[67, 111, 110, 116, 101, 110, 116, 45, 76, 101, 110, 103, 116, 104, 32, 53, 13, 10, 13, 10]⟩ : ByteArray) = bs [67, 111, 110, 116, 101, 110, 116, 45, 76, 101, 110, 103, 116, 104, 32, 53, 13, 10, 13, 10] := by kernel_rfl
theorem ib4 : IsB [67, 111, 110, 116, 101, 110, 116, 45, 76, 101, 110, 103, 116, 104, 32, 53, 13, 10, 13, 10] := isB_all (by decide +kernel)
theorem ex5 : prs [67, 111, 110, 116, 101, 110, 116, 45, 76, 101, 110, 103, 116, 104, 58, 32, 53, 10, 88, 58, 32, 49, 13, 10, 13, 10] = (0, 0, 60) := by decide +kernel
theorem st5 : (⟨#[67, 111, 110, 116, 101, 110, 116, 45, 76, 101, 110, 103, 116, 104, 58, 32, 53, 10, 88, 58, 32, 49, 13, 10, 13, 10]⟩ : ByteArray) = bs [67, 111, 110, 116, 101, 110, 116, 45, 76, 101, 110, 103, 116, 104, 58, 32, 53, 10, 88, 58, 32, 49, 13, 10, 13, 10] := by kernel_rfl
theorem ib5 : IsB [67, 111, 110, 116, 101, 110, 116, 45, 76, 101, 110, 103, 116, 104, 58, 32, 53, 10, 88, 58, 32, 49, 13, 10, 13, 10] := isB_all (by decide +kernel)
theorem ex6 : prs [67, 111, 110, 116, 101, 110, 116, 45, 76, 101, 110, 103, 116, 104, 58, 32, 53, 13, 10, 67, 111, 110, 116, 101, 110, 116, 45, 76, 101, 110, 103, 116, 104, 58, 32, 54, 13, 10, 13, 10] = (0, 0, 60) := by decide +kernel
theorem st6 : (⟨#[67, 111, 110, 116, 101, 110, 116, 45, 76, 101, 110, 103, 116, 104, 58, 32, 53, 13, 10, 67, 111, 110, 116, 101, 110, 116, 45, 76, 101, 110, 103, 116, 104, 58, 32, 54, 13, 10, 13, 10]⟩ : ByteArray) = bs [67, 111, 110, 116, 101, 110, 116, 45, 76, 101, 110, 103, 116, 104, 58, 32, 53, 13, 10, 67, 111, 110, 116, 101, 110, 116, 45, 76, 101, 110, 103, 116, 104, 58, 32, 54, 13, 10, 13, 10] := by kernel_rfl
theorem ib6 : IsB [67, 111, 110, 116, 101, 110, 116, 45, 76, 101, 110, 103, 116, 104, 58, 32, 53, 13, 10, 67, 111, 110, 116, 101, 110, 116, 45, 76, 101, 110, 103, 116, 104, 58, 32, 54, 13, 10, 13, 10] := isB_all (by decide +kernel)
theorem ex7 : prs [67, 111, 110, 116, 101, 110, 116, 45, 76, 101, 110, 103, 116, 104, 58, 32, 53, 13, 10] = (0, 0, 3) := by decide +kernel
theorem st7 : (⟨#[67, 111, 110, 116, 101, 110, 116, 45, 76, 101, 110, 103, 116, 104, 58, 32, 53, 13, 10]⟩ : ByteArray) = bs [67, 111, 110, 116, 101, 110, 116, 45, 76, 101, 110, 103, 116, 104, 58, 32, 53, 13, 10] := by kernel_rfl
theorem ib7 : IsB [67, 111, 110, 116, 101, 110, 116, 45, 76, 101, 110, 103, 116, 104, 58, 32, 53, 13, 10] := isB_all (by decide +kernel)
theorem ex8 : prs [67, 111, 110, 116, 101, 110, 116, 45, 76, 101, 110, 103, 116, 104, 58, 32, 54, 53, 53, 51, 55, 13, 10, 13, 10] = (0, 0, 5) := by decide +kernel
theorem st8 : (⟨#[67, 111, 110, 116, 101, 110, 116, 45, 76, 101, 110, 103, 116, 104, 58, 32, 54, 53, 53, 51, 55, 13, 10, 13, 10]⟩ : ByteArray) = bs [67, 111, 110, 116, 101, 110, 116, 45, 76, 101, 110, 103, 116, 104, 58, 32, 54, 53, 53, 51, 55, 13, 10, 13, 10] := by kernel_rfl
theorem ib8 : IsB [67, 111, 110, 116, 101, 110, 116, 45, 76, 101, 110, 103, 116, 104, 58, 32, 54, 53, 53, 51, 55, 13, 10, 13, 10] := isB_all (by decide +kernel)
end Hg
end Go.Proofs.YtigiiofiajhnlaaGreatDoor
