/-
  Strings as lists of bytes; the walks of NumberSame and NumberInts, for any strings.
-/
import Derived.Test.YtjgkaccmfdjffaaDoorOa
namespace Go.Proofs.YtjgkaccmfdjffaaDoor
set_option linter.unusedVariables false
set_option linter.unusedSimpArgs false
open Go.RowKit
namespace Nu
open Wd We Es
open Dm (Ds vl decs)
/-- a string's bytes -/
def lof (s : ByteArray) : List Int := s.data.toList.map fun b => (b.toNat : Int)
theorem lof_bs (s : ByteArray) : Dm.bs (lof s) = s := by
  apply ByteArray.ext
  show (List.map (fun n : Int => UInt8.ofNat n.toNat) (lof s)).toArray = s.data
  unfold lof
  rw [List.map_map]
  have : s.data.toList.map ((fun n : Int => UInt8.ofNat n.toNat) ∘ fun b : UInt8 => (b.toNat : Int)) = s.data.toList := by
    conv => rhs; rw [← List.map_id s.data.toList]
    refine List.map_congr_left fun b _ => ?_
    simp
  rw [this]
theorem lof_byte (s : ByteArray) : IsB (lof s) := fun x hx => by
  obtain ⟨b, _, rfl⟩ := List.mem_map.1 hx
  have := b.toNat_lt
  omega
theorem lof_len (s : ByteArray) : (lof s).length = s.size := by unfold lof; rw [List.length_map, Array.length_toList]; rfl
theorem walk_same (s t : ByteArray) (w : World) (hs : s.size ≤ 140737488351232) (ht : t.size ≤ 140737488351232) : Calls Tryd.prog 4 #[.string s, .string t] w fun e w' => e = .returned (.bool true) ∧ Below w.heap.size w w' := by
  have h := core_NumberSame num_ok (lof s) (lof t) w (lof_byte s) (lof_byte t) (by rw [lof_len]; exact hs) (by rw [lof_len]; exact ht)
  rw [lof_bs, lof_bs] at h; exact h
theorem walk_ints (s : ByteArray) (w : World) (hs : s.size ≤ 140737488351232) : Calls Tryd.prog 5 #[.string s] w fun e w' => e = .returned (.bool true) ∧ Below w.heap.size w w' := by
  have h := core_NumberInts num_ok (lof s) w (lof_byte s) (by rw [lof_len]; exact hs)
  rw [lof_bs] at h; exact h
end Nu
end Go.Proofs.YtjgkaccmfdjffaaDoor
