/-
  Bytes as a string, a string as bytes, at the seat (where package digits is not reached).
-/
import Derived.Test.YtlgeibaejeiemaaDoorDn
import Derived.Test.YtlgeibaejeiemaaDoorWe
import Derived.Laws.BytesString
import Derived.Lib.ConvBytes
import Derived.Lib.AtoiErrMem
import Derived.Test.YtlgeibaejeiemaaDoorWz
namespace Go.Proofs.YtlgeibaejeiemaaDoor
set_option linter.unusedVariables false
open Go.RowKit
namespace Es
open Wd We Dm

theorem conv_bs {w : World} {A : Option Addr} {m c : Nat} {l : List Int} (h : Sl .u8 w A m c l) :
    (convert 48 9 (.slice A m c)).run Tryd.prog w = .ok (.string (bs l)) w := by
  rw [run_convert_bytes_string w 48 9 5 A m c Tryd.underlying48 Tryd.underlying5 Tryd.underlying9, ← bs_push]
  cases A with
  | none =>
    have hc := h.nil rfl
    have hm : m = 0 := by have := h.le; omega
    obtain rfl : l = [] := List.eq_nil_of_length_eq_zero (by rw [h.len]; exact hm)
    simp [Conv.bytesToString, Sem.run_pure]
  | some ad =>
    refine run_bytesToString w ad m c l ?_
    have := run_loadCells_list (P := Tryd.prog) w ad (l.map (Value.int .u8)) h.cells
    rw [List.length_map, h.len] at this
    exact this
theorem Sl.mark (w : World) (l : List Int) (t : TypeId) (fr : Nat × Nat) (h : l.length ≤ maxLen) : Sl .u8 (w.alloc (.cells (l.map (Value.int .u8)).toArray t fr)) (some ⟨w.heap.size, 0, none⟩) l.length l.length l := by
  refine ⟨⟨rfl, fun _ => ⟨_, 0, rfl, fun j x hx => ?_⟩⟩, Nat.le_refl _, h, fun e => by cases e⟩
  rw [cell_of_row _ _ _ _ _ fr (show (w.alloc (.cells (l.map (Value.int .u8)).toArray t fr)).heap[w.heap.size]? = some (.cells (l.map (Value.int .u8)).toArray t fr) by show (w.heap.push _)[w.heap.size]? = _; simp)]
  simp [hx]
theorem isB_all {l : List Int} (h : l.all (fun x => decide (0 ≤ x ∧ x ≤ 255)) = true) : IsB l := fun x hx => of_decide_eq_true (List.all_eq_true.1 h x hx)

theorem lt_of_some {l : List Int} {k : Nat} {x : Int} (h : l[k]? = some x) : k < l.length := by
  rcases Nat.lt_or_ge k l.length with g | g
  · exact g
  · rw [List.getElem?_eq_none g] at h; cases h
/-- []byte(s) -/
theorem conv_back (w : World) {s : ByteArray} {l : List Int} (hs : s = bs l) (hb : IsB l) (hl : l.length ≤ maxLen) : ∃ c w',
    (convert 9 48 (.string s)).run Tryd.prog w = .ok (.slice (some ⟨w.heap.size, 0, none⟩) l.length c) w' ∧ Sl .u8 w' (some ⟨w.heap.size, 0, none⟩) l.length c l ∧ Below w.heap.size w w' := by
  subst hs
  refine ⟨grownCap w l.length 0 5, _, ?_, ⟨⟨rfl, fun _ => ⟨_, 0, rfl, fun j x hx => ?_⟩⟩, ?_, ?_, fun e => by cases e⟩, Lib.bytesWorld_below w 5 (bs l)⟩
  · rw [Lib.run_convert_string_bytes w 9 48 5 (bs l) Tryd.underlying9 Tryd.underlying48 Tryd.underlying5, bs_size]
  · have hj := lt_of_some hx
    rw [Nat.zero_add, Lib.bytesWorld_cell w _ _ j (by rw [bs_size]; exact hj)]
    congr 2
    have : (bs l).data.toList = l.map fun n => UInt8.ofNat n.toNat := by simp [bs]
    rw [this, List.getD, List.getElem?_map, hx]
    exact byte_back (hb.at_ hx)
  · exact grownCap_ge w _ 0 _
  · exact grownCap_le_maxLen w _ 0 _ hl
end Es
end Go.Proofs.YtlgeibaejeiemaaDoor
