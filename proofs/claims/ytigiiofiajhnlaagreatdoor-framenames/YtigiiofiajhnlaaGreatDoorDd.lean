/-
  What the statements' helpers of layer 5 compute: parses, fails, awake.
-/
import Derived.Test.YtigiiofiajhnlaaGreatDoorDc
import Derived.Lib.ConvBytes
import Derived.Lib.SlBytesConst
namespace Go.Proofs.YtigiiofiajhnlaaGreatDoor
set_option linter.unusedVariables false
open Go.RowKit
namespace Dd
open Wd We Dm Da Db It Dc

theorem below_alloc (w : World) (o : Obj) : Below w.heap.size w (w.alloc o) := (Below.refl _ _).alloc (Nat.le_refl _) o
theorem ext_trans {a b c : World} (h : Below a.heap.size a b) (k : Below b.heap.size b c) : Below a.heap.size a c := h.trans (k.mono h.size)

theorem Sl.mark (w : World) (l : List Int) (t : TypeId) (fr : Nat × Nat) (h : l.length ≤ maxLen) : Sl .u8 (w.alloc (.cells (l.map (Value.int .u8)).toArray t fr)) (some ⟨w.heap.size, 0, none⟩) l.length l.length l := by
  refine ⟨⟨rfl, fun _ => ⟨_, 0, rfl, fun j x hx => ?_⟩⟩, Nat.le_refl _, h, fun e => by cases e⟩
  rw [cell_of_row _ _ _ _ _ fr (show (w.alloc (.cells (l.map (Value.int .u8)).toArray t fr)).heap[w.heap.size]? = some (.cells (l.map (Value.int .u8)).toArray t fr) by show (w.heap.push _)[w.heap.size]? = _; simp)]
  simp [hx]
theorem isB_all {l : List Int} (h : l.all (fun x => decide (0 ≤ x ∧ x ≤ 255)) = true) : IsB l := fun x hx => of_decide_eq_true (List.all_eq_true.1 h x hx)

/-- []byte(s) -/
theorem conv_back (w : World) {s : ByteArray} {l : List Int} (hs : s = bs l) (hb : IsB l) (hl : l.length ≤ maxLen) : ∃ c w',
    (convert 9 27 (.string s)).run Tryz.prog w = .ok (.slice (some ⟨w.heap.size, 0, none⟩) l.length c) w' ∧ Sl .u8 w' (some ⟨w.heap.size, 0, none⟩) l.length c l ∧ Below w.heap.size w w' := by
  subst hs
  refine ⟨grownCap w l.length 0 5, _, ?_, ⟨⟨rfl, fun _ => ⟨_, 0, rfl, fun j x hx => ?_⟩⟩, ?_, ?_, fun e => by cases e⟩, Lib.bytesWorld_below w 5 (bs l)⟩
  · rw [Lib.run_convert_string_bytes w 9 27 5 (bs l) Tryz.underlying9 Tryz.underlying27 Tryz.underlying5, bs_size]
  · have hj := lt_of_some hx
    rw [Nat.zero_add, Lib.bytesWorld_cell w _ _ j (by rw [bs_size]; exact hj)]
    congr 2
    have : (bs l).data.toList = l.map fun n => UInt8.ofNat n.toNat := by simp [bs]
    rw [this, List.getD, List.getElem?_map, hx]
    exact byte_back (hb.at_ hx)
  · exact grownCap_ge w _ 0 _
  · exact grownCap_le_maxLen w _ 0 _ hl

theorem decs907 : decs 907 = [57, 48, 55] := by
  rw [decs_more (by omega), decs_more (by omega), decs_one (by omega)]; rfl
theorem decs0 : decs 0 = [48] := by rw [decs_one (by omega)]; rfl

end Dd
end Go.Proofs.YtigiiofiajhnlaaGreatDoor
