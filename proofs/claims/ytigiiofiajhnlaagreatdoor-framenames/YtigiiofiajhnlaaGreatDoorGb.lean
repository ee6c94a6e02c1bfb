/-
  Bytes of the call's own: one byte read, changed. Nothing of the program is named here.
-/
import Derived.Test.YtigiiofiajhnlaaGreatDoorFo
namespace Go.Proofs.YtigiiofiajhnlaaGreatDoor.Wd
set_option linter.unusedVariables false
open Go.RowKit

theorem Own.byte {e : TypeId} {w : World} {B n c : Nat} {A : Option Addr} {l : List Int} (h : Own .u8 e w B (.slice A n c) l) {j : Nat} (hj : j < l.length) : ∃ g, A = some ⟨g, 0, none⟩ ∧ B ≤ g ∧ w.frozen? ⟨g, j, none⟩ = false ∧ w.cell? ⟨g, j, none⟩ = some (.int .u8 l[j]) := by
  rcases h.2 with ⟨hn, h0⟩ | ⟨g, cap, cur, hv, hg, hh, hn, hm, hs, ht⟩
  · omega
  · injection hv with hv1 hv2 hv3
    refine ⟨g, hv1, hg, by simp [World.frozen?, hh], ?_⟩
    rw [cell_of_row _ _ _ _ _ _ hh]
    have hx : (l.map (Value.int .u8))[j]? = some (.int .u8 l[j]) := by simp [hj]
    rw [← ht, List.getElem?_take] at hx
    split at hx
    · simpa using hx
    · cases hx
/-- a byte xor 90 is one -/
theorem xor_byte {x : Int} (h : 0 ≤ x ∧ x ≤ 255) : 0 ≤ bits .xor .u8 x 90 ∧ bits .xor .u8 x 90 ≤ 255 := by
  have d : ∀ n : Fin 256, 0 ≤ bits .xor .u8 (n.val : Int) 90 ∧ bits .xor .u8 (n.val : Int) 90 ≤ 255 := by decide +kernel
  obtain ⟨n, rfl⟩ : ∃ n : Nat, x = n := ⟨x.toNat, by omega⟩
  exact d ⟨n, by omega⟩
end Go.Proofs.YtigiiofiajhnlaaGreatDoor.Wd
