/-
  Words of memory: a slice of bytes (or of numbers of any kind) that reads as a list; bits of bytes and ints. Nothing of the program is named here.
-/
import Derived.WalkKit
import Derived.Deep.Draws
import Derived.Lib.Hide
import Derived.Laws.BitsAllLaws
import Derived.Laws.BitsLemmas
namespace Go.Proofs.YtlgeibaejeiemaaDoor.Wd
set_option linter.unusedVariables false
open Go.RowKit

/-- the slice value '.slice A n _' holds the numbers l, of the kind k -/
def Row (k : IntKind) (w : World) (A : Option Addr) (n : Nat) (l : List Int) : Prop :=
  l.length = n ∧ (l ≠ [] → ∃ b off, A = some ⟨b, off, none⟩ ∧ ∀ j x, l[j]? = some x → w.cell? ⟨b, off + j, none⟩ = some (.int k x))

/-- each is a byte -/
def IsB (l : List Int) : Prop := ∀ x ∈ l, 0 ≤ x ∧ x ≤ 255

section
variable {k : IntKind} {w w' : World} {A : Option Addr} {n : Nat} {l : List Int}

theorem lt_of_cell {p : Addr} {v : Value} (h : w.cell? p = some v) : p.block < w.heap.size := by
  rcases Nat.lt_or_ge p.block w.heap.size with g | g
  · exact g
  · simp [World.cell?, Array.getElem?_eq_none g] at h

theorem Row.nil : Row k w A 0 [] := ⟨rfl, fun h => absurd rfl h⟩

theorem Row.look (h : Row k w A n l) {j : Nat} (hj : j < n) :
    ∃ b off x, A = some ⟨b, off, none⟩ ∧ l[j]? = some x ∧ w.cell? ⟨b, off + j, none⟩ = some (.int k x) ∧ b < w.heap.size := by
  have hl : j < l.length := by rw [h.1]; exact hj
  obtain ⟨b, off, e, hc⟩ := h.2 (by intro e; subst e; simp at hl)
  have hx : l[j]? = some l[j] := List.getElem?_eq_getElem hl
  exact ⟨b, off, l[j], e, hx, hc j _ hx, lt_of_cell (p := ⟨b, off + j, none⟩) (hc j _ hx)⟩

/-- whatever keeps the cells of old blocks keeps the row -/
theorem Row.keep (h : Row k w A n l) (hk : ∀ p : Addr, p.block < w.heap.size → w'.cell? p = w.cell? p) : Row k w' A n l := by
  refine ⟨h.1, fun hn => ?_⟩
  obtain ⟨b, off, e, hc⟩ := h.2 hn
  exact ⟨b, off, e, fun j x hx => (hk _ (lt_of_cell (p := ⟨b, off + j, none⟩) (hc j x hx))).trans (hc j x hx)⟩
theorem Row.below (h : Row k w A n l) (hb : Below w.heap.size w w') : Row k w' A n l := h.keep fun _ hp => hb.cell hp
theorem Row.drewN (h : Row k w A n l) (m : Nat) : Row k (w.drewN m) A n l := h
theorem Row.drew (h : Row k w A n l) : Row k w.drew A n l := h
theorem Row.alloc (h : Row k w A n l) (o : Obj) : Row k (w.alloc o) A n l := h.keep fun p hp => World.cell?_alloc_lt w o p hp
/-- a new block -/
theorem Row.new (w : World) (l : List Int) (t : TypeId) (k : IntKind) : Row k (w.alloc (.cells (l.map (Value.int k)).toArray t)) (some ⟨w.heap.size, 0, none⟩) l.length l := by
  refine ⟨rfl, fun _ => ⟨_, 0, rfl, fun j x hx => ?_⟩⟩
  have hb : (w.alloc (.cells (l.map (Value.int k)).toArray t)).heap[w.heap.size]? = some (.cells (l.map (Value.int k)).toArray t) := heap_alloc_new w _
  rw [cell_of_row _ _ _ _ _ _ hb]
  simp [hx]
/-- a piece of a row: the elements from 'from' on -/
theorem Row.cut (h : Row k w A n l) (from_ m : Nat) (hm : from_ + m ≤ n) : Row k w (A.map (·.add from_)) m ((l.drop from_).take m) := by
  refine ⟨by rw [List.length_take, List.length_drop, h.1]; omega, fun hn => ?_⟩
  obtain ⟨b, off, rfl, hc⟩ := h.2 (by rintro rfl; simp at hn)
  refine ⟨b, off + from_, ?_, fun j x hx => ?_⟩
  · by_cases h0 : from_ = 0 <;> simp [Addr.add, h0]
  · rw [Nat.add_assoc]
    refine hc _ x ?_
    rw [List.getElem?_take, List.getElem?_drop] at hx
    split at hx
    · exact hx
    · cases hx
theorem Row.cut0 (h : Row k w A n l) (m : Nat) (hm : m ≤ n) : Row k w A m (l.take m) := by
  refine ⟨by rw [List.length_take, h.1]; omega, fun hn => ?_⟩
  obtain ⟨b, off, rfl, hc⟩ := h.2 (by rintro rfl; simp at hn)
  refine ⟨b, off, rfl, fun j x hx => hc _ x ?_⟩
  rw [List.getElem?_take] at hx
  split at hx
  · exact hx
  · cases hx
end

theorem IsB.at_ {l : List Int} (h : IsB l) {j : Nat} {x : Int} (hx : l[j]? = some x) : 0 ≤ x ∧ x ≤ 255 := h x (List.mem_of_getElem? hx)
theorem IsB.drop {l : List Int} (h : IsB l) (m : Nat) : IsB (l.drop m) := fun x hx => h x (List.mem_of_mem_drop hx)
theorem IsB.take {l : List Int} (h : IsB l) (m : Nat) : IsB (l.take m) := fun x hx => h x (List.mem_of_mem_take hx)
theorem IsB.append {l m : List Int} (h : IsB l) (h' : IsB m) : IsB (l ++ m) := fun x hx => by
  rcases List.mem_append.1 hx with g | g
  · exact h x g
  · exact h' x g

/-- a fact on bytes, by trying all of them -/
theorem byte_all {P : Int → Prop} (h : ∀ n : Nat, n < 256 → P n) {x : Int} (h0 : 0 ≤ x) (h1 : x ≤ 255) : P x := by
  obtain ⟨n, rfl⟩ := Int.eq_ofNat_of_zero_le h0
  exact h n (by omega)

theorem andNot_127 {x : Int} (h0 : 0 ≤ x) (h1 : x ≤ 255) : bits .andNot .u8 x 127 = x - x % 128 := by
  revert x; intro x; exact byte_all (P := fun x => bits .andNot .u8 x 127 = x - x % 128) (by decide +kernel)
theorem andNot_63 {x : Int} (h0 : 0 ≤ x) (h1 : x ≤ 255) : bits .andNot .u8 x 63 = x - x % 64 := byte_all (P := fun x => bits .andNot .u8 x 63 = x - x % 64) (by decide +kernel) h0 h1
theorem andNot_31 {x : Int} (h0 : 0 ≤ x) (h1 : x ≤ 255) : bits .andNot .u8 x 31 = x - x % 32 := byte_all (P := fun x => bits .andNot .u8 x 31 = x - x % 32) (by decide +kernel) h0 h1
theorem andNot_15 {x : Int} (h0 : 0 ≤ x) (h1 : x ≤ 255) : bits .andNot .u8 x 15 = x - x % 16 := byte_all (P := fun x => bits .andNot .u8 x 15 = x - x % 16) (by decide +kernel) h0 h1
theorem andNot_7 {x : Int} (h0 : 0 ≤ x) (h1 : x ≤ 255) : bits .andNot .u8 x 7 = x - x % 8 := byte_all (P := fun x => bits .andNot .u8 x 7 = x - x % 8) (by decide +kernel) h0 h1
theorem and_127 {x : Int} (h0 : 0 ≤ x) (h1 : x ≤ 255) : bits .and .u8 x 127 = x % 128 := byte_all (P := fun x => bits .and .u8 x 127 = x % 128) (by decide +kernel) h0 h1

theorem ofInt64 {a : Int} (h0 : 0 ≤ a) (h1 : a < 9223372036854775808) : (BitVec.ofInt 64 a).toNat = a.toNat := by
  rw [BitVec.toNat_ofInt]; omega
/-- '|' at int, of numbers that share no bit -/
theorem or_join (i : Nat) {a b : Int} (h0 : 0 ≤ a) (ha : a < 9223372036854775808) (hb : 0 ≤ b) (hi : i ≤ 62) (hm : a % 2 ^ i = 0) (hl : b < 2 ^ i) : bits .or .i64 a b = a + b := by
  obtain ⟨x, rfl⟩ := Int.eq_ofNat_of_zero_le h0
  obtain ⟨y, rfl⟩ := Int.eq_ofNat_of_zero_le hb
  have hp : (2 : Nat) ^ i ≤ 2 ^ 62 := Nat.pow_le_pow_right (by omega) hi
  have hl' : y < 2 ^ i := by exact_mod_cast hl
  have hm' : x % 2 ^ i = 0 := by exact_mod_cast hm
  have hj := nat_join i x y hm' hl'
  show IntKind.i64.wrap ((BitVec.ofInt 64 (x : Int) ||| BitVec.ofInt 64 (y : Int)).toNat : Int) = _
  rw [BitVec.toNat_or, ofInt64 (by omega) ha, ofInt64 (by omega) (by omega), Int.toNat_natCast, Int.toNat_natCast, hj, IntKind.wrap_i64]
  have hx : x + y < 2 ^ 63 := by
    rw [← hj]; exact Nat.or_lt_two_pow (by omega) (by omega)
  omega
theorem and_63 (a : Int) : bits .and .i64 a 63 = a % 64 := by
  show IntKind.i64.wrap ((BitVec.ofInt 64 a &&& BitVec.ofInt 64 63).toNat : Int) = _
  rw [BitVec.toNat_and, BitVec.toNat_ofInt, BitVec.toNat_ofInt, show ((63 : Int) % ((2 ^ 64 : Nat) : Int)).toNat = 2 ^ 6 - 1 from rfl, Nat.and_two_pow_sub_one_eq_mod, IntKind.wrap_i64]
  omega
theorem or_u8 (i : Nat) {a b : Int} (h0 : 0 ≤ a) (ha : a < 256) (hb : 0 ≤ b) (hm : a % 2 ^ i = 0) (hl : b < 2 ^ i) (hs : b < 256) : bits .or .u8 a b = a + b := by
  rw [u8_or a b h0 ha hb hs, nat_join i a.toNat b.toNat]
  · omega
  · have : ((a.toNat : Int) % ((2 ^ i : Nat) : Int)) = 0 := by rw [Int.toNat_of_nonneg h0]; exact_mod_cast hm
    exact_mod_cast this
  · have : (b.toNat : Int) < ((2 ^ i : Nat) : Int) := by rw [Int.toNat_of_nonneg hb]; exact_mod_cast hl
    exact_mod_cast this

theorem ret1 {a b : Value} (h : a = b) : Ending.returned a = .returned b := by rw [h]
end Go.Proofs.YtlgeibaejeiemaaDoor.Wd
