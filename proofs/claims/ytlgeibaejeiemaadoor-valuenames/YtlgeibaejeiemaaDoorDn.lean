/-
  Mathematics of digits, second part: bytes as strings; texts in their order. Nothing of the program is named here.
-/
import Derived.Test.YtlgeibaejeiemaaDoorDm
import Derived.Test.YtlgeibaejeiemaaDoorWd
import Derived.Laws.Strings
namespace Go.Proofs.YtlgeibaejeiemaaDoor.Dm
set_option linter.unusedVariables false
open Wd

/-- the string of these bytes -/
def bs (l : List Int) : ByteArray := ⟨(l.map fun n => UInt8.ofNat n.toNat).toArray⟩
theorem bs_list (l : List Int) : (bs l).toList = l.map fun n => UInt8.ofNat n.toNat := ByteArray.toList_mk _
theorem bs_size (l : List Int) : (bs l).size = l.length := by simp [bs, ByteArray.size]
theorem bs_push (l : List Int) : l.foldl (fun r n => r.push (UInt8.ofNat n.toNat)) ByteArray.empty = bs l := by
  suffices H : ∀ (l : List Int) (r : ByteArray), l.foldl (fun r n => r.push (UInt8.ofNat n.toNat)) r = ⟨r.data ++ (l.map fun n => UInt8.ofNat n.toNat).toArray⟩ by
    rw [H]
    show (⟨#[] ++ _⟩ : ByteArray) = _
    simp [bs]
  intro l
  induction l with
  | nil => intro r; simp
  | cons x l ih => intro r; rw [List.foldl_cons, ih]; simp [ByteArray.push]
theorem byte_back {x : Int} (h : 0 ≤ x ∧ x ≤ 255) : ((UInt8.ofNat x.toNat).toNat : Int) = x := by
  rw [UInt8.toNat_ofNat']; omega
theorem bs_map {l r : List Int} (hl : IsB l) (hr : IsB r) (h : (l.map fun n => UInt8.ofNat n.toNat) = r.map fun n => UInt8.ofNat n.toNat) : l = r := by
  have h2 := congrArg (List.map fun b : UInt8 => (b.toNat : Int)) h
  rw [List.map_map, List.map_map] at h2
  have e : ∀ {l : List Int}, IsB l → l.map ((fun b : UInt8 => (b.toNat : Int)) ∘ fun n => UInt8.ofNat n.toNat) = l := by
    intro l hl
    conv => rhs; rw [← List.map_id l]
    exact List.map_congr_left fun x hx => byte_back (hl x hx)
  rwa [e hl, e hr] at h2
theorem bs_eq {l r : List Int} (hl : IsB l) (hr : IsB r) : ((bs l).toList == (bs r).toList) = decide (l = r) := by
  rw [bs_list, bs_list]
  by_cases h : l = r
  · subst h; simp
  · rw [decide_eq_false h, beq_eq_false_iff_ne]
    exact fun e => h (bs_map hl hr e)
theorem Ds.isB {l : List Int} (h : Ds l) : IsB l := fun x hx => by have := h x hx; omega
theorem itoa_bs (n : Nat) : (⟨(Lib.itoa n).toArray⟩ : ByteArray) = bs (decs n) := by
  unfold Lib.itoa bs decs
  rw [if_neg (by omega), Int.toNat_natCast, List.map_map]
  congr 2
  conv => lhs; rw [← List.map_id (Lib.decDigits n)]
  refine List.map_congr_left fun b _ => ?_
  simp

theorem vl_from (l : List Int) (v : Int) : l.foldl (fun v x => v * 10 + (x - 48)) v = v * 10 ^ l.length + vl l := by
  induction l generalizing v with
  | nil => simp [vl]
  | cons x l ih =>
    have h1 := ih (v * 10 + (x - 48))
    have h2 := ih (0 * 10 + (x - 48))
    rw [List.foldl_cons, h1]
    show _ = _ + List.foldl _ (0 * 10 + (x - 48)) l
    rw [h2, List.length_cons, Int.pow_succ]
    generalize (10 : Int) ^ l.length = p
    rw [Int.add_mul, Int.add_mul, Int.mul_assoc, Int.mul_comm 10 p]
    omega
theorem vl_cons (x : Int) (l : List Int) : vl (x :: l) = (x - 48) * 10 ^ l.length + vl l := by
  have := vl_from l (0 * 10 + (x - 48))
  rw [show (0 : Int) * 10 + (x - 48) = x - 48 by omega] at this
  rw [← this]
  show List.foldl _ (0 * 10 + (x - 48)) l = _
  rw [show (0 : Int) * 10 + (x - 48) = x - 48 by omega]
theorem vl_lt {l : List Int} (h : Ds l) : vl l < 10 ^ l.length := by
  induction l with
  | nil => simp [vl]
  | cons x l ih =>
    have hx := h x (by simp)
    have := ih (fun z hz => h z (by simp [hz]))
    rw [vl_cons, List.length_cons, Int.pow_succ]
    have hp : (x - 48) * 10 ^ l.length ≤ 9 * 10 ^ l.length := Int.mul_le_mul_of_nonneg_right (by omega) (Int.le_of_lt (Int.pow_pos (by omega)))
    omega
theorem vl_ge {x : Int} {l : List Int} (h : Ds (x :: l)) (hx : x ≠ 48) : 10 ^ l.length ≤ vl (x :: l) := by
  have h1 := h x (by simp)
  have h2 := vl_pos (l := l) (fun z hz => h z (by simp [hz]))
  rw [vl_cons]
  have hp : 1 * 10 ^ l.length ≤ (x - 48) * 10 ^ l.length := Int.mul_le_mul_of_nonneg_right (by omega) (Int.le_of_lt (Int.pow_pos (by omega)))
  omega
theorem byte_lt {x y : Int} (hx : 0 ≤ x ∧ x ≤ 255) (hy : 0 ≤ y ∧ y ≤ 255) : (UInt8.ofNat x.toNat < UInt8.ofNat y.toNat) ↔ x < y := by
  rw [UInt8.lt_iff_toNat_lt, UInt8.toNat_ofNat', UInt8.toNat_ofNat']; omega
theorem byte_eq {x y : Int} (hx : 0 ≤ x ∧ x ≤ 255) (hy : 0 ≤ y ∧ y ≤ 255) : (UInt8.ofNat x.toNat = UInt8.ofNat y.toNat) ↔ x = y := by
  refine ⟨fun h => ?_, fun h => by rw [h]⟩
  rw [← byte_back hx, ← byte_back hy, h]
theorem less_iff : ∀ {l r : List Int}, Ds l → Ds r → l.length = r.length →
    Op.bytesLess (l.map fun n => UInt8.ofNat n.toNat) (r.map fun n => UInt8.ofNat n.toNat) = decide (vl l < vl r)
  | [], [], _, _, _ => by simp [Op.bytesLess]
  | [], _ :: _, _, _, h => by simp at h
  | _ :: _, [], _, _, h => by simp at h
  | x :: l, y :: r, hl, hr, h => by
    have h1 := hl x (by simp)
    have h2 := hr y (by simp)
    have hl' : Ds l := fun z hz => hl z (by simp [hz])
    have hr' : Ds r := fun z hz => hr z (by simp [hz])
    have hlen : l.length = r.length := by simpa using h
    have ih := less_iff hl' hr' hlen
    have b1 := vl_lt hl'
    have b2 := vl_lt hr'
    have p1 := vl_pos hl'
    have p2 := vl_pos hr'
    rw [List.map_cons, List.map_cons, Op.bytesLess, ih, vl_cons, vl_cons, ← hlen]
    rw [← hlen] at b2
    have hp : (0 : Int) < 10 ^ l.length := Int.pow_pos (by omega)
    generalize (10 : Int) ^ l.length = p at *
    rcases Int.lt_trichotomy x y with g | g | g
    · have e : (x - 48) * p + p ≤ (y - 48) * p := by
        have := Int.mul_le_mul_of_nonneg_right (show x - 48 + 1 ≤ y - 48 by omega) (Int.le_of_lt hp)
        rw [Int.add_mul] at this; omega
      rw [show decide (UInt8.ofNat x.toNat < UInt8.ofNat y.toNat) = true from decide_eq_true ((byte_lt (by omega) (by omega)).2 g), Bool.true_or, eq_comm, decide_eq_true_iff]
      omega
    · subst g
      rw [show decide (UInt8.ofNat x.toNat < UInt8.ofNat x.toNat) = false from decide_eq_false (fun h => by have := (byte_lt (x := x) (y := x) (by omega) (by omega)).1 h; omega), Bool.false_or, beq_self_eq_true, Bool.true_and]
      rw [decide_eq_decide]; omega
    · have e : (y - 48) * p + p ≤ (x - 48) * p := by
        have := Int.mul_le_mul_of_nonneg_right (show y - 48 + 1 ≤ x - 48 by omega) (Int.le_of_lt hp)
        rw [Int.add_mul] at this; omega
      rw [show decide (UInt8.ofNat x.toNat < UInt8.ofNat y.toNat) = false from decide_eq_false (fun h => by have := (byte_lt (x := x) (y := y) (by omega) (by omega)).1 h; omega), Bool.false_or]
      rw [show (UInt8.ofNat x.toNat == UInt8.ofNat y.toNat) = false from beq_eq_false_iff_ne.2 (fun h => by have := (byte_eq (x := x) (y := y) (by omega) (by omega)).1 h; omega), Bool.false_and, eq_comm, decide_eq_false_iff_not]
      omega

/-- the longer text is the greater number's -/
theorem longer {n m : Nat} (h : (decs n).length < (decs m).length) : n < m := by
  have h1 := vl_lt (ds_decs n)
  rw [vl_decs] at h1
  have hm : 1 ≤ m := by
    rcases Nat.eq_zero_or_pos m with e | e
    · subst e
      rw [decs_one (n := 0) (by omega)] at h
      have := List.length_pos_iff.2 (decs_ne n)
      rw [List.length_singleton] at h; omega
    · exact e
  obtain ⟨y, r, e⟩ := List.exists_cons_of_ne_nil (decs_ne m)
  have h2 := decs_head hm
  have h3 := ds_decs m
  have h4 := vl_decs m
  rw [e] at h2 h3 h4 h
  have h5 := vl_ge h3 (by simpa using h2)
  rw [h4] at h5
  have h6 : (10 : Int) ^ (decs n).length ≤ 10 ^ r.length := by
    have : (10 : Nat) ^ (decs n).length ≤ 10 ^ r.length := Nat.pow_le_pow_right (by omega) (by simp at h; omega)
    exact_mod_cast this
  omega
theorem decs_inj {n m : Nat} (h : decs n = decs m) : n = m := by
  have h1 := vl_decs n
  rw [h, vl_decs] at h1
  omega
/-- texts are in the order of their lengths, then of their bytes -/
theorem order (n m : Nat) : (decide ((decs n).length < (decs m).length) || (decide ((decs n).length = (decs m).length) && Op.bytesLess (bs (decs n)).toList (bs (decs m)).toList)) = decide (n < m) := by
  rw [bs_list, bs_list]
  rcases Nat.lt_trichotomy (decs n).length (decs m).length with g | g | g
  · rw [decide_eq_true g, Bool.true_or, decide_eq_true (longer g)]
  · rw [decide_eq_false (by omega), Bool.false_or, decide_eq_true g, Bool.true_and, less_iff (ds_decs n) (ds_decs m) g, vl_decs, vl_decs]
    rw [decide_eq_decide]; omega
  · have := longer g
    rw [decide_eq_false (by omega), Bool.false_or, decide_eq_false (by omega), Bool.false_and, decide_eq_false (by omega)]
end Go.Proofs.YtlgeibaejeiemaaDoor.Dm
