/-
  How a slice of integers that comes in is opened. Nothing of the program is named here.
-/
import Derived.Test.YtlgeibaejeiemaaDoorWo
import Derived.ProofKit
import Derived.OpenShut
import Derived.ChangeOld
import Derived.SizedLaws
namespace Go.Proofs.YtlgeibaejeiemaaDoor.Wd
set_option linter.unusedVariables false
open Go.RowKit Go.ChangeShapes Go.WideShapes

theorem open_sl {H : Type} {enc : TypeId × Value → H} {P : Program} {W : World} {t e : TypeId} {k : IntKind} {fuel : Nat} {A : Option Addr} {n c : Nat} {d : DataW H} {p : List MemPlace}
    (hu : P.underlying t = some (.slice e)) (he : P.underlying e = some (.int k)) (hc : P.cellsOf e = 1)
    (h : DataW.trod enc P W 0 (fun _ => true) true fuel t [.slice A n c] = some (d, p)) :
    ∃ l, Sl k W A n c l ∧ (∀ x ∈ l, (Lit.int k x).wf = true) ∧ (c = 0 ∨ ∃ elems spare, d = .slice elems spare ∧ elems.length + spare.length = c) := by
  rcases open_ints hu he hc h with ⟨hcs, _⟩ | ⟨x, l, cp, zs, hcs, _, hl, hm, hz, hd, hcell, hwz⟩
  · simp at hcs
    obtain ⟨rfl, rfl, rfl⟩ := hcs
    exact ⟨[], Sl.none_, by simp, .inl rfl⟩
  · simp at hcs
    obtain ⟨rfl, rfl, rfl⟩ := hcs
    simp at hz
    refine ⟨zs.take n, ⟨⟨by rw [List.length_take]; omega, fun hne => ?_⟩, hl, hm, fun e => by cases e⟩, fun y hy => hwz y (List.mem_of_mem_take hy), .inr ⟨_, _, (Prod.mk.inj hd).1, ?_⟩⟩
    · have h0 : 0 < zs.length := by
        rcases zs with _ | ⟨z, zs⟩
        · simp at hne
        · simp
      obtain ⟨b, off, spot⟩ := x
      have hs : spot = none := by
        have := hcell 0 h0
        simpa [Addr.add] using World.cell?_spot this
      subst hs
      refine ⟨b, off, rfl, fun j y hy => ?_⟩
      rw [List.getElem?_take] at hy
      split at hy
      · have hj : j < zs.length := by
          rcases Nat.lt_or_ge j zs.length with g | g
          · exact g
          · rw [List.getElem?_eq_none g] at hy; cases hy
        have hcj := hcell j hj
        have hg : zs.getD j 0 = y := by simp [List.getD, hy]
        rw [hg] at hcj
        by_cases g0 : j = 0
        · subst g0; simpa [Addr.add] using hcj
        · simpa [Addr.add, g0] using hcj
      · cases hy
    · simp [lits]; omega

theorem room {H : Type} {P : Program} {ts : List TypeId} {ds : List (DataW H)} (h : (DataW.weightsEach P ts ds).all (· ≤ reachBytes) = true) {j : Nat} {t e : TypeId} {d : DataW H} {c wide : Nat}
    (hd : c = 0 ∨ ∃ elems spare, d = .slice elems spare ∧ elems.length + spare.length = c) (ht : ts[j]? = some t) (hj : ds[j]? = some d) (hu : P.underlying t = some (.slice e)) (hw : P.bytesOf e = wide) : c * wide ≤ 140737488351232 := by
  rcases hd with rfl | ⟨elems, spare, rfl, hl⟩
  · omega
  · have := sized_slice h ht hj hu
    rw [hl, hw] at this
    exact this

theorem isB_of {l : List Int} (h : ∀ x ∈ l, (Lit.int .u8 x).wf = true) : IsB l := fun x hx => by
  have := h x hx
  simpa [Lit.wf, IntKind.min, IntKind.max, IntKind.signed, IntKind.bits] using this
theorem i64_of {x : Int} (h : (Lit.int .i64 x).wf = true) : -9223372036854775808 ≤ x ∧ x ≤ 9223372036854775807 := by
  simpa [Lit.wf, IntKind.min, IntKind.max, IntKind.signed, IntKind.bits] using h
theorem u8_of {x : Int} (h : (Lit.int .u8 x).wf = true) : 0 ≤ x ∧ x ≤ 255 := by
  simpa [Lit.wf, IntKind.min, IntKind.max, IntKind.signed, IntKind.bits] using h
end Go.Proofs.YtlgeibaejeiemaaDoor.Wd
