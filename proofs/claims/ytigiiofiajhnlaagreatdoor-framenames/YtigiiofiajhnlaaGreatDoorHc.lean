/-
  What the library's EqualFold and IndexFunc compute of plain letters; what isName and isValue of package head compute.
-/
import Derived.Test.YtigiiofiajhnlaaGreatDoorHb
import Derived.Lib.DecodeN
namespace Go.Proofs.YtigiiofiajhnlaaGreatDoor
set_option linter.unusedVariables false
open Go.RowKit
namespace Hc
open Wd We Dm Dc Dd Hm Hb

/-- each is below 128 -/
def Asc (l : List Int) : Prop := ∀ x ∈ l, 0 ≤ x ∧ x < 128
theorem Asc.isB {l : List Int} (h : Asc l) : IsB l := fun x hx => by have := h x hx; omega
theorem low_next {l p : List Int} {k : Nat} {x y : Int} (h : (l.take k).map low = (p.take k).map low) (hx : l[k]? = some x) (hy : p[k]? = some y) (e : low x = low y) : (l.take (k + 1)).map low = (p.take (k + 1)).map low := by
  rw [List.take_add_one, List.take_add_one, hx, hy, List.map_append, List.map_append, h]
  simp [e]
theorem low_not {l p : List Int} {k : Nat} {x y : Int} (hx : l[k]? = some x) (hy : p[k]? = some y) (e : ¬ low x = low y) : ¬ l.map low = p.map low := by
  intro h
  have := congrArg (fun q => q[k]?) h
  simp [hx, hy] at this
  exact e this
theorem or_small {x y : Int} (hx : 0 ≤ x ∧ x < 128) (hy : 0 ≤ y ∧ y < 128) : ¬ 128 ≤ bits .or .u8 x y := by
  rw [u8_or x y hx.1 (by omega) hy.1 (by omega)]
  have : x.toNat ||| y.toNat < 2 ^ 7 := Nat.or_lt_two_pow (by omega) (by omega)
  omega

set_option maxRecDepth 100000 in
set_option maxHeartbeats 1600000 in
theorem fold_any (A B : Option Addr) (n m ca cb : Nat) (l r : List Int) (w : World) (s : Sl .u8 w A n ca l) (t : Sl .u8 w B m cb r) (hl : Asc l) (hr : Asc r) :
    Calls Tryz.prog 58 #[.slice A n ca, .slice B m cb] w fun e w' => e = .returned (.bool (decide (l.map low = r.map low))) ∧ w = w' := by
  have hn' : n ≤ 9223372036854775807 := by have := s.max; have := s.le; unfold maxLen at *; omega
  have hm' : m ≤ 9223372036854775807 := by have := t.max; have := t.le; unfold maxLen at *; omega
  have hla := s.len
  have hlb := t.len
  have HA := Lib.hid s.row
  have HB := Lib.hid t.row
  have HL := Lib.hid hl
  have HR := Lib.hid hr
  have HLA := Lib.hid hla
  have HLB := Lib.hid hlb
  clear s t hl hr hla hlb
  obtain ⟨N, hN⟩ : ∃ N, N = min n m := ⟨_, rfl⟩
  have hmin : (min (n : Int) (m : Int)) = (N : Int) := by omega
  have hN1 : N ≤ n := by omega
  have hN2 : N ≤ m := by omega
  go_enter Tryz.func58, Tryz.ntmps58
  go_wp2
  go_step3
  go_wp2
  go_loop [5] (fun ix => ∃ k : Nat, k ≤ N ∧ ix = .int .i64 k ∧ (l.take k).map low = (r.take k).map low) (fun ix => N - (intOf ix).toNat)
  case atStart => exact ⟨0, Nat.zero_le _, rfl, rfl⟩
  case round =>
    obtain ⟨k, hk, rfl, htk⟩ := hrel
    have HT := Lib.hid htk
    clear htk
    by_cases hkn : k < N
    · obtain ⟨b1, o1, x, rfl, hx, hcx, _⟩ := HA.out.look (j := k) (by omega)
      obtain ⟨b2, o2, y, rfl, hy, hcy, _⟩ := HB.out.look (j := k) (by omega)
      have hxb := HL.out x (List.mem_of_getElem? hx)
      have hyb := HR.out y (List.mem_of_getElem? hy)
      have HX := Lib.hid hx
      have HY := Lib.hid hy
      have hor := or_small hxb hyb
      clear hx hy
      have i1 : (k : Int) < (N : Int) := by omega
      have i2 : (k : Int) < (n : Int) := by omega
      have i3 : (k : Int) < (m : Int) := by omega
      by_cases hxy : y = x
      · subst hxy
        have d2 : (y == y) = true := by simp
        go_wp2
        go_round
        case rel => exact ⟨k + 1, by omega, by go_num, low_next HT.out HX.out HY.out rfl⟩
        case measure => simp [intOf]; omega
      · have d2 : (y == x) = false := by simpa using hxy
        by_cases hlt : y < x
        · by_cases hc : 65 ≤ y ∧ y ≤ 90
          · by_cases he : x = y + 32
            · have d3 : (x == y + 97 - 65) = true := by simp; omega
              have hc1 := hc.1
              have hc2 := hc.2
              have e : low x = low y := by unfold low; rw [if_neg (by omega), if_pos hc]; exact he
              clear hc he hxy
              go_wp2
              go_round
              case rel => exact ⟨k + 1, by omega, by go_num, low_next HT.out HX.out HY.out e⟩
              case measure => simp [intOf]; omega
            · have d3 : (x == y + 97 - 65) = false := by simp; omega
              have hc1 := hc.1
              have hc2 := hc.2
              have e : ¬ low x = low y := by unfold low; rw [if_pos hc]; split <;> omega
              have HE := Lib.hid (low_not HX.out HY.out e)
              clear hc he hxy e
              go_wp2
              go_ret
              exact ⟨by rw [decide_eq_false HE.out]; rfl, rfl⟩
          · have e : ¬ low x = low y := by unfold low; rw [if_neg hc]; split <;> omega
            have HE := Lib.hid (low_not HX.out HY.out e)
            by_cases hc1 : 65 ≤ y
            · have hc2 : ¬ y ≤ 90 := fun c => hc ⟨hc1, c⟩
              clear hc hxy e
              go_wp2
              go_ret
              exact ⟨by rw [decide_eq_false HE.out]; rfl, rfl⟩
            · clear hc hxy e
              go_wp2
              go_ret
              exact ⟨by rw [decide_eq_false HE.out]; rfl, rfl⟩
        · by_cases hc : 65 ≤ x ∧ x ≤ 90
          · by_cases he : y = x + 32
            · have d3 : (y == x + 97 - 65) = true := by simp; omega
              have hc1 := hc.1
              have hc2 := hc.2
              have e : low x = low y := by unfold low; rw [if_pos hc, if_neg (by omega)]; exact he.symm
              clear hc he hxy
              go_wp2
              go_round
              case rel => exact ⟨k + 1, by omega, by go_num, low_next HT.out HX.out HY.out e⟩
              case measure => simp [intOf]; omega
            · have d3 : (y == x + 97 - 65) = false := by simp; omega
              have hc1 := hc.1
              have hc2 := hc.2
              have e : ¬ low x = low y := by unfold low; rw [if_pos hc]; split <;> omega
              have HE := Lib.hid (low_not HX.out HY.out e)
              clear hc he hxy e
              go_wp2
              go_ret
              exact ⟨by rw [decide_eq_false HE.out]; rfl, rfl⟩
          · have e : ¬ low x = low y := by unfold low; rw [if_neg hc]; split <;> omega
            have HE := Lib.hid (low_not HX.out HY.out e)
            by_cases hc1 : 65 ≤ x
            · have hc2 : ¬ x ≤ 90 := fun c => hc ⟨hc1, c⟩
              clear hc hxy e
              go_wp2
              go_ret
              exact ⟨by rw [decide_eq_false HE.out]; rfl, rfl⟩
            · clear hc hxy e
              go_wp2
              go_ret
              exact ⟨by rw [decide_eq_false HE.out]; rfl, rfl⟩
    · obtain rfl : k = N := by omega
      by_cases hnm : n = m
      · have d4 : ((n : Int) == (m : Int)) = true := by simp; omega
        have e : l.map low = r.map low := by
          have h1 := HT.out
          rwa [List.take_of_length_le (by rw [HLA.out]; omega), List.take_of_length_le (by rw [HLB.out]; omega)] at h1
        have HE := Lib.hid e
        clear e
        go_wp2
        go_ret
        exact ⟨by rw [decide_eq_true HE.out]; rfl, rfl⟩
      · have d4 : ((n : Int) == (m : Int)) = false := by simp; omega
        have e : ¬ l.map low = r.map low := by
          intro c
          have := congrArg List.length c
          rw [List.length_map, List.length_map, HLA.out, HLB.out] at this
          exact hnm this
        have HE := Lib.hid e
        clear e
        go_wp2
        go_ret
        exact ⟨by rw [decide_eq_false HE.out]; rfl, rfl⟩

theorem decodeN_small {n b0 b1 b2 b3 : Nat} (h : b0 < 128) : Lib.decodeN n b0 b1 b2 b3 = (b0, 1) := by unfold Lib.decodeN; rw [if_pos h]
theorem decodeN_great {n b0 b1 b2 b3 : Nat} (h : ¬ b0 < 128) : 128 ≤ (Lib.decodeN n b0 b1 b2 b3).1 := by
  unfold Lib.decodeN
  rw [if_neg h]
  repeat' split
  all_goals simp only <;> omega
theorem bs_get {l : List Int} (hl : IsB l) {j : Nat} {x : Int} (hx : l[j]? = some x) : (((bs l).get! j).toNat : Int) = x := by
  have e : (bs l).get! j = UInt8.ofNat x.toNat := by
    show (bs l).data[j]! = _
    have : (bs l).data[j]? = some (UInt8.ofNat x.toNat) := by simp [bs, hx]
    rw [getElem!_def, this]
  rw [e]; exact byte_back (hl.at_ hx)
theorem idx_from {p : Nat → Bool} (hbig : ∀ x, 128 ≤ x → p x = true) {l : List Int} (hl : IsB l) : ∀ (f pos : Nat), l.length ≤ pos + f → (Lib.idxFuncFrom p true (bs l) f pos < 0 ↔ (l.drop pos).all (fun x => !p x.toNat) = true)
  | 0, pos, h => by
    rw [List.drop_eq_nil_of_le (by omega)]; simp [Lib.idxFuncFrom]
  | f + 1, pos, h => by
    unfold Lib.idxFuncFrom
    rw [bs_size]
    by_cases hp : pos < l.length
    · rw [if_pos hp]
      have hx : l[pos]? = some l[pos] := List.getElem?_eq_getElem hp
      have hb := hl.at_ hx
      have hg := bs_get hl hx
      have ih := idx_from hbig hl f (pos + 1) (by omega)
      rw [List.drop_eq_getElem_cons hp, List.all_cons]
      generalize l[pos] = x at *
      have hgn : ((bs l).get! pos).toNat = x.toNat := by omega
      rw [Lib.decode_at, hgn]
      by_cases h1 : x.toNat < 128
      · rw [decodeN_small h1]
        show (if p x.toNat = true then _ else _) < 0 ↔ _
        by_cases h2 : p x.toNat = true
        · rw [if_pos h2, h2]; simp
        · rw [if_neg h2, ih]
          have : p x.toNat = false := by simpa using h2
          rw [this]; simp
      · rw [if_pos (hbig _ (decodeN_great h1)), hbig x.toNat (by omega)]
        simp
    · rw [if_neg hp, List.drop_eq_nil_of_le (by omega)]; simp
theorem idx_iff {p : Nat → Bool} (hbig : ∀ x, 128 ≤ x → p x = true) {l : List Int} (hl : IsB l) : Lib.idxFunc p true (bs l) < 0 ↔ l.all (fun x => !p x.toNat) = true := by
  have := idx_from hbig hl (bs l).size 0 (by rw [bs_size]; omega)
  rwa [List.drop_zero] at this

set_option maxRecDepth 100000 in
set_option maxHeartbeats 800000 in
theorem ifunc_any (g : Nat) (eg : ∀ args w, (callFunc g args).run Tryz.prog w = .ok (.enter g args) w) (p : Nat → Bool) (hbig : ∀ x, 128 ≤ x → p x = true) (A : Option Addr) (n c : Nat) (l : List Int) (w : World) (s : Sl .u8 w A n c l) (hl : IsB l) (env : Env w) (hp : PredGrows Tryz.prog g #[] p w) :
    Calls Tryz.prog 68 #[.slice A n c, .func (.func g) #[] #[]] w fun e w' => ∃ i : Int, e = .returned (.int .i64 i) ∧ (i < 0 ↔ l.all (fun x => !p x.toNat) = true) ∧ Below w.heap.size w w' := by
  have hmax : n ≤ 9223372036854775807 := by have := s.max; have := s.le; unfold maxLen at *; omega
  have hlen := s.len
  have S := Lib.hid s
  have HL := Lib.hid hl
  have HN := Lib.hid hlen
  have HE := Lib.hid env
  have HP := Lib.hid hp
  clear s hl hlen env hp
  by_cases h0 : n = 0
  · subst h0
    obtain rfl : l = [] := List.eq_nil_of_length_eq_zero HN.out
    go_enter Tryz.func68, Tryz.ntmps68
    go_wp2
    go_loop [7] (fun ix => ix = .int .i64 0) (fun _ => 0)
    case atStart => exact rfl
    case round =>
      subst hrel
      go_wp2
      go_ret
      exact ⟨_, rfl, by simp, Below.refl _ _⟩
  · obtain ⟨b, off, rfl, hc⟩ := bin S.out (by omega)
    have hB : BytesAt (bs l) b off w := fun j hj => by
      rw [bs_size] at hj
      rw [hc j (by rw [← HN.out]; exact hj)]
      have hx : l[j]? = some l[j] := List.getElem?_eq_getElem hj
      rw [bs_get HL.out hx]; simp [List.getD, hx]
    have hsz : (bs l).size = n := by rw [bs_size]; exact HN.out
    have con := Any7.bytes_indexFunc Hl.func_lays g #[] eg p true (bs l) b off c w (by rw [hsz]; exact S.out.le) (by rw [hsz]; exact hmax) hB HE.out.tb HP.out
    rw [hsz] at con
    have CON := Lib.hid con
    clear con hB hc hsz
    go_enter Tryz.func68, Tryz.ntmps68
    go_wp2_with fail
    refine CON.out.mono ?_
    rintro e w' ⟨rfl, hb⟩
    have HI := Lib.hid (idx_iff hbig HL.out)
    generalize Lib.idxFunc p true (bs l) = i at *
    go_wp2
    go_ret
    exact ⟨i, rfl, HI.out, hb⟩

/-- what isName's function literal tells -/
def pN (x : Nat) : Bool := !inN (x : Int)
def pV (x : Nat) : Bool := !inV (x : Int)
theorem pN_big (x : Nat) (h : 128 ≤ x) : pN x = true := by unfold pN inN; rw [decide_eq_false (by omega)]; rfl
theorem pV_big (x : Nat) (h : 128 ≤ x) : pV x = true := by unfold pV inV; rw [decide_eq_false (by omega)]; rfl

set_option maxHeartbeats 1600000 in
theorem lit_name (y : Int) (hy : 0 ≤ y ∧ y ≤ 1114111) (W : World) : Calls Tryz.prog 69 #[.int .i32 y] W fun e w' => e = .returned (.bool (!inN y)) ∧ W = w' := by
  have cases : (97 ≤ y ∧ y ≤ 122) ∨ 122 < y ∨ (90 < y ∧ y < 97) ∨ (65 ≤ y ∧ y ≤ 90) ∨ (57 < y ∧ y < 65) ∨ (48 ≤ y ∧ y ≤ 57) ∨ (45 < y ∧ y < 48) ∨ y = 45 ∨ y < 45 := by omega
  have yes : (97 ≤ y ∧ y ≤ 122) ∨ (65 ≤ y ∧ y ≤ 90) ∨ (48 ≤ y ∧ y ≤ 57) ∨ y = 45 → (!inN y) = false := fun h => by unfold inN; rw [decide_eq_true h]; rfl
  have no : ¬ ((97 ≤ y ∧ y ≤ 122) ∨ (65 ≤ y ∧ y ≤ 90) ∨ (48 ≤ y ∧ y ≤ 57) ∨ y = 45) → (!inN y) = true := fun h => by unfold inN; rw [decide_eq_false h]; rfl
  rcases cases with h | h | h | h | h | h | h | h | h
  · rw [yes (by omega)]
    obtain ⟨h1, h2⟩ := h
    clear yes no
    go_enter Tryz.func69, Tryz.ntmps69
    go_wp2; go_ret; exact ⟨rfl, rfl⟩
  · rw [no (by omega)]
    have h45 : (y != 45) = true := by simp; omega
    have j1 : 97 ≤ y := by omega
    have j2 : ¬ y ≤ 122 := by omega
    have j3 : 65 ≤ y := by omega
    have j4 : ¬ y ≤ 90 := by omega
    have j5 : 48 ≤ y := by omega
    have j6 : ¬ y ≤ 57 := by omega
    clear yes no
    go_enter Tryz.func69, Tryz.ntmps69
    go_wp2; go_ret; exact ⟨rfl, rfl⟩
  · rw [no (by omega)]
    have h45 : (y != 45) = true := by simp; omega
    have j1 : ¬ 97 ≤ y := by omega
    have j3 : 65 ≤ y := by omega
    have j4 : ¬ y ≤ 90 := by omega
    have j5 : 48 ≤ y := by omega
    have j6 : ¬ y ≤ 57 := by omega
    clear yes no
    go_enter Tryz.func69, Tryz.ntmps69
    go_wp2; go_ret; exact ⟨rfl, rfl⟩
  · rw [yes (by omega)]
    have j1 : ¬ 97 ≤ y := by omega
    obtain ⟨h1, h2⟩ := h
    clear yes no
    go_enter Tryz.func69, Tryz.ntmps69
    go_wp2; go_ret; exact ⟨rfl, rfl⟩
  · rw [no (by omega)]
    have h45 : (y != 45) = true := by simp; omega
    have j1 : ¬ 97 ≤ y := by omega
    have j3 : ¬ 65 ≤ y := by omega
    have j5 : 48 ≤ y := by omega
    have j6 : ¬ y ≤ 57 := by omega
    clear yes no
    go_enter Tryz.func69, Tryz.ntmps69
    go_wp2; go_ret; exact ⟨rfl, rfl⟩
  · rw [yes (by omega)]
    have j1 : ¬ 97 ≤ y := by omega
    have j3 : ¬ 65 ≤ y := by omega
    obtain ⟨h1, h2⟩ := h
    clear yes no
    go_enter Tryz.func69, Tryz.ntmps69
    go_wp2; go_ret; exact ⟨rfl, rfl⟩
  · rw [no (by omega)]
    have h45 : (y != 45) = true := by simp; omega
    have j1 : ¬ 97 ≤ y := by omega
    have j3 : ¬ 65 ≤ y := by omega
    have j5 : ¬ 48 ≤ y := by omega
    clear yes no
    go_enter Tryz.func69, Tryz.ntmps69
    go_wp2; go_ret; exact ⟨rfl, rfl⟩
  · rw [yes (by omega)]
    subst h
    clear yes no
    go_enter Tryz.func69, Tryz.ntmps69
    go_wp2; go_ret; exact ⟨rfl, rfl⟩
  · rw [no (by omega)]
    have h45 : (y != 45) = true := by simp; omega
    have j1 : ¬ 97 ≤ y := by omega
    have j3 : ¬ 65 ≤ y := by omega
    have j5 : ¬ 48 ≤ y := by omega
    clear yes no
    go_enter Tryz.func69, Tryz.ntmps69
    go_wp2; go_ret; exact ⟨rfl, rfl⟩

set_option maxHeartbeats 1600000 in
theorem lit_value (y : Int) (hy : 0 ≤ y ∧ y ≤ 1114111) (W : World) : Calls Tryz.prog 70 #[.int .i32 y] W fun e w' => e = .returned (.bool (!inV y)) ∧ W = w' := by
  have yes : y = 9 ∨ (32 ≤ y ∧ y ≤ 126) → (!inV y) = false := fun h => by unfold inV; rw [decide_eq_true h]; rfl
  have no : ¬ (y = 9 ∨ (32 ≤ y ∧ y ≤ 126)) → (!inV y) = true := fun h => by unfold inV; rw [decide_eq_false h]; rfl
  by_cases h9 : y = 9
  · rw [yes (.inl h9)]
    subst h9
    clear yes no
    go_enter Tryz.func70, Tryz.ntmps70
    go_wp2; go_ret; exact ⟨rfl, rfl⟩
  · have d9 : (y != 9) = true := by simpa using h9
    by_cases h1 : y < 32
    · rw [no (by omega)]
      clear yes no h9
      go_enter Tryz.func70, Tryz.ntmps70
      go_wp2; go_ret; exact ⟨rfl, rfl⟩
    · by_cases h2 : 126 < y
      · rw [no (by omega)]
        clear yes no h9
        go_enter Tryz.func70, Tryz.ntmps70
        go_wp2; go_ret; exact ⟨rfl, rfl⟩
      · rw [yes (by omega)]
        clear yes no h9
        go_enter Tryz.func70, Tryz.ntmps70
        go_wp2; go_ret; exact ⟨rfl, rfl⟩
theorem grows_name (w : World) : PredGrows Tryz.prog 69 #[] pN w := fun W x hx hb => by
  refine (lit_name (x : Int) (by omega) W).mono ?_
  rintro e w' ⟨rfl, rfl⟩
  exact ⟨rfl, Below.refl _ _⟩
theorem grows_value (w : World) : PredGrows Tryz.prog 70 #[] pV w := fun W x hx hb => by
  refine (lit_value (x : Int) (by omega) W).mono ?_
  rintro e w' ⟨rfl, rfl⟩
  exact ⟨rfl, Below.refl _ _⟩
theorem enters_name : ∀ args w, (callFunc 69 args).run Tryz.prog w = .ok (.enter 69 args) w := enters_of Tryz.func69 (by kernel_rfl) rfl
theorem enters_value : ∀ args w, (callFunc 70 args).run Tryz.prog w = .ok (.enter 70 args) w := enters_of Tryz.func70 (by kernel_rfl) rfl

theorem all_pN {l : List Int} (h : IsB l) : l.all (fun x => !pN x.toNat) = l.all inN := by
  induction l with
  | nil => rfl
  | cons x l ih =>
    rw [List.all_cons, List.all_cons, ih (fun y hy => h y (by simp [hy]))]
    congr 1
    unfold pN; rw [Int.toNat_of_nonneg (h x (by simp)).1, Bool.not_not]
theorem all_pV {l : List Int} (h : IsB l) : l.all (fun x => !pV x.toNat) = l.all inV := by
  induction l with
  | nil => rfl
  | cons x l ih =>
    rw [List.all_cons, List.all_cons, ih (fun y hy => h y (by simp [hy]))]
    congr 1
    unfold pV; rw [Int.toNat_of_nonneg (h x (by simp)).1, Bool.not_not]

set_option maxHeartbeats 800000 in
theorem isName_any (A : Option Addr) (n c : Nat) (l : List Int) (w : World) (s : Sl .u8 w A n c l) (hl : IsB l) (env : Env w) :
    Calls Tryz.prog 56 #[.slice A n c] w fun e w' => e = .returned (.bool (decide (l ≠ []) && l.all inN)) ∧ Below w.heap.size w w' := by
  have hmax : n ≤ 9223372036854775807 := by have := s.max; have := s.le; unfold maxLen at *; omega
  have hlen := s.len
  have S := Lib.hid s
  have HL := Lib.hid hl
  have HN := Lib.hid hlen
  have HE := Lib.hid env
  clear s hl hlen env
  go_enter Tryz.func56, Tryz.ntmps56
  go_wp2_with fail
  refine (ifunc_any _ enters_name pN pN_big _ _ _ _ _ S.out HL.out HE.out (grows_name _)).mono ?_
  rintro e w' ⟨i, rfl, hi, hb⟩
  rw [all_pN HL.out] at hi
  have HI := Lib.hid hi
  have HB := Lib.hid hb
  clear hi hb
  by_cases h0 : n = 0
  · subst h0
    obtain rfl : l = [] := List.eq_nil_of_length_eq_zero HN.out
    go_wp2; go_ret; exact ⟨rfl, HB.out⟩
  · have h1 : (0 : Int) < (n : Int) := by omega
    have hne : decide (l ≠ []) = true := decide_eq_true (by rintro rfl; exact h0 HN.out.symm)
    have HNE := Lib.hid hne
    clear hne
    by_cases h2 : i < 0
    · go_wp2; go_ret; exact ⟨by rw [HNE.out, HI.out.1 h2]; rfl, HB.out⟩
    · have h3 : l.all inN = false := by
        cases e : l.all inN with
        | false => rfl
        | true => exact absurd (HI.out.2 e) h2
      have H3 := Lib.hid h3
      clear h3
      go_wp2; go_ret; exact ⟨by rw [HNE.out, H3.out]; show Ending.returned (.bool (decide (i < 0))) = _; rw [decide_eq_false (by omega)]; rfl, HB.out⟩

set_option maxHeartbeats 800000 in
theorem isValue_any (A : Option Addr) (n c : Nat) (l : List Int) (w : World) (s : Sl .u8 w A n c l) (hl : IsB l) (env : Env w) :
    Calls Tryz.prog 57 #[.slice A n c] w fun e w' => e = .returned (.bool (l.all inV)) ∧ Below w.heap.size w w' := by
  have S := Lib.hid s
  have HL := Lib.hid hl
  have HE := Lib.hid env
  clear s hl env
  go_enter Tryz.func57, Tryz.ntmps57
  go_wp2_with fail
  refine (ifunc_any _ enters_value pV pV_big _ _ _ _ _ S.out HL.out HE.out (grows_value _)).mono ?_
  rintro e w' ⟨i, rfl, hi, hb⟩
  rw [all_pV HL.out] at hi
  have HI := Lib.hid hi
  have HB := Lib.hid hb
  clear hi hb
  by_cases h2 : i < 0
  · go_wp2; go_ret; exact ⟨by rw [HI.out.1 h2]; rfl, HB.out⟩
  · have h3 : l.all inV = false := by
      cases e : l.all inV with
      | false => rfl
      | true => exact absurd (HI.out.2 e) h2
    have H3 := Lib.hid h3
    clear h3
    go_wp2; go_ret; exact ⟨by rw [H3.out]; show Ending.returned (.bool (decide (i < 0))) = _; rw [decide_eq_false (by omega)], HB.out⟩
end Hc
end Go.Proofs.YtigiiofiajhnlaaGreatDoor
