/-
  Tables of strings and ints in memory; a string's bytes as a slice.
-/
import Derived.Test.YtigiiofiajhnlaaGreatDoorDd
import Derived.Laws.MakeOwn
namespace Go.Proofs.YtigiiofiajhnlaaGreatDoor
set_option linter.unusedVariables false
open Go.RowKit
namespace Hj
open Wd We Dm Da Dc Dd

/-- a string's bytes -/
def lof (s : ByteArray) : List Int := s.data.toList.map fun b => (b.toNat : Int)
theorem lof_byte (s : ByteArray) : IsB (lof s) := fun x hx => by
  obtain ⟨b, _, rfl⟩ := List.mem_map.1 hx
  have := b.toNat_lt
  omega
theorem bs_lof (s : ByteArray) : s = bs (lof s) := by
  have : (lof s).map (fun n => UInt8.ofNat n.toNat) = s.data.toList := by
    unfold lof
    rw [List.map_map]
    conv => rhs; rw [← List.map_id s.data.toList]
    refine List.map_congr_left fun b _ => ?_
    simp
  unfold bs
  rw [this]
theorem lof_length (s : ByteArray) : (lof s).length = s.size := by unfold lof; rw [List.length_map, Array.length_toList]; rfl
theorem sl_bytes (w : World) (s : ByteArray) (h : s.size ≤ 1000) : Sl .u8 (Lib.bytesWorld w 5 s) (some ⟨w.heap.size, 0, none⟩) s.size (grownCap w s.size 0 5) (lof s) := by
  refine ⟨⟨lof_length s, fun _ => ⟨_, 0, rfl, fun j x hx => ?_⟩⟩, ?_, ?_, fun e => by cases e⟩
  · have hj := lt_of_some hx
    rw [lof_length] at hj
    rw [Nat.zero_add, Lib.bytesWorld_cell w _ _ j hj]
    congr 2
    unfold lof at hx
    rw [List.getElem?_map] at hx
    obtain ⟨b, hb, rfl⟩ := Option.map_eq_some_iff.1 hx
    rw [List.getD, hb]
    rfl
  · exact grownCap_ge w _ 0 _
  · exact grownCap_le_maxLen w _ 0 _ (by unfold maxLen; omega)
theorem below_drew {B : Nat} {a w : World} (h : Below B a w) : Below B a w.drew := ⟨h.os, h.tape, h.output, h.size, h.block⟩
theorem below_bytes {B : Nat} {a w : World} (h : Below B a w) (hB : B ≤ a.heap.size) (s : ByteArray) : Below B a (Lib.bytesWorld w 5 s) :=
  h.trans ((Lib.bytesWorld_below w 5 s).mono (Nat.le_trans hB h.size))

def isS : Value → Bool | .string s => decide (s.size ≤ 1000) | _ => false
def isI : Value → Bool | .int .i64 m => decide (-9223372036854775808 ≤ m ∧ m ≤ 9223372036854775807) | _ => false
/-- a table of short strings in block L; one of ints in block M -/
def TbS (L n : Nat) (w : World) : Prop := ∀ i < n, ∃ s, w.cell? ⟨L, i, none⟩ = some (.string s) ∧ s.size ≤ 1000
def TbI (M n : Nat) (w : World) : Prop := ∀ k < n, ∃ m, w.cell? ⟨M, k, none⟩ = some (.int .i64 m) ∧ -9223372036854775808 ≤ m ∧ m ≤ 9223372036854775807
theorem TbS.below {L n : Nat} {w w' : World} (h : TbS L n w) (hb : Below w.heap.size w w') : TbS L n w' := fun i hi => by
  obtain ⟨s, hc, hs⟩ := h i hi
  exact ⟨s, (hb.cell (lt_of_cell hc)).trans hc, hs⟩
theorem TbI.below {L n : Nat} {w w' : World} (h : TbI L n w) (hb : Below w.heap.size w w') : TbI L n w' := fun i hi => by
  obtain ⟨s, hc, hs⟩ := h i hi
  exact ⟨s, (hb.cell (lt_of_cell hc)).trans hc, hs⟩
theorem tbS_new (w : World) (C : Array Value) (t : TypeId) {n : Nat} (h : C.all isS = true) (hn : C.size = n) : TbS w.heap.size n (w.alloc (.cells C t)) := fun i hi => by
  subst hn
  rw [cell_of_row _ _ _ _ _ _ (heap_alloc_new w _), Array.getElem?_eq_getElem hi]
  have := Array.all_eq_true.1 h i hi
  cases hv : C[i] with
  | string s => rw [hv] at this; exact ⟨s, rfl, of_decide_eq_true this⟩
  | _ => rw [hv] at this; cases this
theorem tbI_new (w : World) (C : Array Value) (t : TypeId) {n : Nat} (h : C.all isI = true) (hn : C.size = n) : TbI w.heap.size n (w.alloc (.cells C t)) := fun i hi => by
  subst hn
  rw [cell_of_row _ _ _ _ _ _ (heap_alloc_new w _), Array.getElem?_eq_getElem hi]
  have := Array.all_eq_true.1 h i hi
  revert this
  generalize C[i] = v
  intro this
  unfold isI at this
  split at this
  · exact ⟨_, rfl, of_decide_eq_true this⟩
  · cases this

theorem tbI_at (w : World) (C : Array Value) (t : TypeId) {n B : Nat} (hB : w.heap.size = B) (h : C.all isI = true) (hn : C.size = n) : TbI B n (w.alloc (.cells C t)) := by
  subst hB; exact tbI_new w C t h hn
theorem bytes_any (s : ByteArray) (w : World) : (convert 9 27 (.string s)).run Tryz.prog w = .ok (.slice (some ⟨w.heap.size, 0, none⟩) s.size (grownCap w s.size 0 5)) (Lib.bytesWorld w 5 s) :=
  Lib.run_convert_string_bytes w 9 27 5 s Tryz.underlying9 Tryz.underlying27 Tryz.underlying5
theorem made511 : madeCells (Value.int .u8 0).cells (511 * 1) = ((List.replicate 511 (0 : Int)).map (Value.int .u8)).toArray := by kernel_rfl
theorem mk511 (w : World) : ∃ w', (Instr.makeSlice 27 (.int .i64 511) (.int .i64 511)).run Tryz.prog w = .ok (.slice (some ⟨w.heap.size, 0, none⟩) 511 511) w' ∧ Sl .u8 w' (some ⟨w.heap.size, 0, none⟩) 511 511 (List.replicate 511 0) ∧ Below w.heap.size w w' := by
  obtain ⟨i0, hi, hz0, hz1, hz2⟩ := info_parts u8_info
  have h := run_makeSlice (P := Tryz.prog) w 27 5 i0 _ Tryz.underlying27 hi hz0 .i64 .i64 511 511 (by omega) (by omega) (by rw [hz1]; decide) (by rw [hz2]; decide) (by omega)
  rw [hz1] at h
  have s := Sl.new w (List.replicate 511 (0 : Int)) 5 .u8 (by rw [List.length_replicate]; unfold maxLen; omega)
  rw [List.length_replicate, ← made511] at s
  exact ⟨_, h, s, below_alloc w _⟩
theorem zeros511 : IsB (List.replicate 511 0) := fun x hx => by rw [List.eq_of_mem_replicate hx]; omega
theorem made512 : madeCells (Value.int .u8 0).cells (512 * 1) = ((List.replicate 512 (0 : Int)).map (Value.int .u8)).toArray := by kernel_rfl
theorem mk512 (w : World) : ∃ w', (Instr.makeSlice 27 (.int .i64 512) (.int .i64 512)).run Tryz.prog w = .ok (.slice (some ⟨w.heap.size, 0, none⟩) 512 512) w' ∧ Sl .u8 w' (some ⟨w.heap.size, 0, none⟩) 512 512 (List.replicate 512 0) ∧ Below w.heap.size w w' := by
  obtain ⟨i0, hi, hz0, hz1, hz2⟩ := info_parts u8_info
  have h := run_makeSlice (P := Tryz.prog) w 27 5 i0 _ Tryz.underlying27 hi hz0 .i64 .i64 512 512 (by omega) (by omega) (by rw [hz1]; decide) (by rw [hz2]; decide) (by omega)
  rw [hz1] at h
  have s := Sl.new w (List.replicate 512 (0 : Int)) 5 .u8 (by rw [List.length_replicate]; unfold maxLen; omega)
  rw [List.length_replicate, ← made512] at s
  exact ⟨_, h, s, below_alloc w _⟩
theorem zeros512 : IsB (List.replicate 512 0) := fun x hx => by rw [List.eq_of_mem_replicate hx]; omega
end Hj
end Go.Proofs.YtigiiofiajhnlaaGreatDoor
