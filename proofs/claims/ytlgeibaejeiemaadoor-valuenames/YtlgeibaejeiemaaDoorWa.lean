/-
  Parameters that are structs or arrays of numbers, opened to their numbers. Nothing of the program is named here.
-/
import Derived.Lib.SmallJoins
import Derived.OpenShut
namespace Go.Proofs.YtlgeibaejeiemaaDoor.Wd
set_option linter.unusedVariables false
open Go.Joins Go.ChangeShapes Go.WideShapes Go.RowKit Go.Deep
section
variable {H : Type} {enc : TypeId × Value → H} {P : Program} {w : World} {base b0 : Nat} {spare : Nat → Bool} {held : Bool} {r : Reach} {v : Value} {d : DataW H} {p : List MemPlace} {t e s : TypeId} {k : IntKind}
theorem trod_pair {f0 f1 : Field} {fuel : Nat} {c0 c1 : Value} {x : DataW H × List MemPlace} (ht : P.underlying t = some (.struct #[f0, f1])) (o : f0.offset = 0 ∧ f1.offset = 1 ∧ P.cellsOf f0.type = 1 ∧ P.cellsOf f1.type = 1)
    (u0 : P.underlying f0.type = some (.int k)) (u1 : P.underlying f1.type = some (.int k)) (h : DataW.trod enc P w base spare held fuel t [c0, c1] = some x) : ∃ a b, c0 = .int k a ∧ c1 = .int k b ∧ (Lit.int k a).wf = true ∧ (Lit.int k b).wf = true := by
  obtain ⟨xs, n, _, _, _, hlen, hg⟩ := DataW.trod_struct ht h
  obtain ⟨o0, o1, z0, z1⟩ := o
  have h0 := hg 0 f0 rfl
  have h1 := hg 1 f1 rfl
  match xs, hlen with
  | [y0, y1], _ =>
    rw [o0, z0] at h0
    rw [o1, z1] at h1
    obtain ⟨a, ha, _, wa⟩ := DataW.trod_int (x := y0) u0 h0
    obtain ⟨b, hb, _, wb⟩ := DataW.trod_int (x := y1) u1 h1
    simp at ha hb
    exact ⟨a, b, ha, hb, wa, wb⟩
theorem open_pair {f0 f1 : Field} (ht : P.underlying t = some (.struct #[f0, f1])) (hC : P.cellsOf t = 2) (o : f0.offset = 0 ∧ f1.offset = 1 ∧ P.cellsOf f0.type = 1 ∧ P.cellsOf f1.type = 1)
    (u0 : P.underlying f0.type = some (.int k)) (u1 : P.underlying f1.type = some (.int k)) (hv : Value.okWide P w r b0 t v) (h : DataW.Trod enc P w base spare held t v d p) :
    ∃ a b, v = .agg #[.int k a, .int k b] ∧ (Lit.int k a).wf = true ∧ (Lit.int k b).wf = true := by
  obtain ⟨cs, rfl, hsz⟩ := okWide_struct ht hv
  obtain ⟨c0, c1, rfl⟩ := array2 (hsz.trans hC)
  obtain ⟨fuel, hf⟩ := h
  obtain ⟨a, b, rfl, rfl, wa, wb⟩ := trod_pair ht o u0 u1 hf
  exact ⟨a, b, rfl, wa, wb⟩
theorem open_pairs {g0 g1 f0 f1 : Field} (ht : P.underlying t = some (.struct #[g0, g1])) (hC : P.cellsOf t = 4) (o : g0.offset = 0 ∧ g1.offset = 2 ∧ P.cellsOf g0.type = 2 ∧ P.cellsOf g1.type = 2)
    (s0 : P.underlying g0.type = some (.struct #[f0, f1])) (s1 : P.underlying g1.type = some (.struct #[f0, f1])) (o' : f0.offset = 0 ∧ f1.offset = 1 ∧ P.cellsOf f0.type = 1 ∧ P.cellsOf f1.type = 1)
    (u0 : P.underlying f0.type = some (.int k)) (u1 : P.underlying f1.type = some (.int k)) (hv : Value.okWide P w r b0 t v) (h : DataW.Trod enc P w base spare held t v d p) :
    ∃ a b a' b', v = .agg #[.int k a, .int k b, .int k a', .int k b'] ∧ (Lit.int k a).wf = true ∧ (Lit.int k b).wf = true ∧ (Lit.int k a').wf = true ∧ (Lit.int k b').wf = true := by
  obtain ⟨cs, rfl, hsz⟩ := okWide_struct ht hv
  obtain ⟨c0, c1, c2, c3, rfl⟩ := array4 (hsz.trans hC)
  obtain ⟨fuel, hf⟩ := h
  obtain ⟨xs, n, _, _, _, hlen, hg⟩ := DataW.trod_struct ht hf
  obtain ⟨o0, o1, z0, z1⟩ := o
  have h0 := hg 0 g0 rfl
  have h1 := hg 1 g1 rfl
  match xs, hlen with
  | [y0, y1], _ =>
    rw [o0, z0] at h0
    rw [o1, z1] at h1
    obtain ⟨a, b, rfl, rfl, wa, wb⟩ := trod_pair (c0 := c0) (c1 := c1) (x := y0) s0 o' u0 u1 h0
    obtain ⟨a', b', rfl, rfl, wa', wb'⟩ := trod_pair (c0 := c2) (c1 := c3) (x := y1) s1 o' u0 u1 h1
    exact ⟨a, b, a', b', rfl, wa, wb, wa', wb'⟩
theorem open_arr2 (ht : P.underlying t = some (.array 2 e)) (hC : P.cellsOf t = 2) (hc : P.cellsOf e = 1) (u : P.underlying e = some (.int k)) (hv : Value.okWide P w r b0 t v) (h : DataW.Trod enc P w base spare held t v d p) :
    ∃ a b, v = .agg #[.int k a, .int k b] ∧ (Lit.int k a).wf = true ∧ (Lit.int k b).wf = true := by
  obtain ⟨cs, rfl, hsz⟩ : ∃ cs, v = .agg cs ∧ cs.size = P.cellsOf t := by
    simp only [Value.okWide, ht] at hv
    obtain ⟨cs, h1, h2, _⟩ := hv
    exact ⟨cs, h1, h2⟩
  obtain ⟨c0, c1, rfl⟩ := array2 (hsz.trans hC)
  obtain ⟨fuel, hf⟩ := h
  obtain ⟨xs, n, _, _, _, hlen, hg⟩ := DataW.trod_array ht hf
  have h0 := hg 0 (by omega)
  have h1 := hg 1 (by omega)
  match xs, hlen with
  | [y0, y1], _ =>
    rw [hc] at h0 h1
    obtain ⟨a, ha, _, wa⟩ := DataW.trod_int (x := y0) u h0
    obtain ⟨b, hb, _, wb⟩ := DataW.trod_int (x := y1) u h1
    simp [Value.cells] at ha hb
    subst ha hb
    exact ⟨a, b, rfl, wa, wb⟩
theorem open_arr3 (ht : P.underlying t = some (.array 3 e)) (hC : P.cellsOf t = 3) (hc : P.cellsOf e = 1) (u : P.underlying e = some (.int k)) (hv : Value.okWide P w r b0 t v) (h : DataW.Trod enc P w base spare held t v d p) :
    ∃ a b c, v = .agg #[.int k a, .int k b, .int k c] ∧ (Lit.int k a).wf = true ∧ (Lit.int k b).wf = true ∧ (Lit.int k c).wf = true := by
  obtain ⟨cs, rfl, hsz⟩ : ∃ cs, v = .agg cs ∧ cs.size = P.cellsOf t := by
    simp only [Value.okWide, ht] at hv
    obtain ⟨cs, h1, h2, _⟩ := hv
    exact ⟨cs, h1, h2⟩
  obtain ⟨c0, c1, c2, rfl⟩ := array3 (hsz.trans hC)
  obtain ⟨fuel, hf⟩ := h
  obtain ⟨xs, n, _, _, _, hlen, hg⟩ := DataW.trod_array ht hf
  have h0 := hg 0 (by omega)
  have h1 := hg 1 (by omega)
  have h2 := hg 2 (by omega)
  match xs, hlen with
  | [y0, y1, y2], _ =>
    rw [hc] at h0 h1 h2
    obtain ⟨a, ha, _, wa⟩ := DataW.trod_int (x := y0) u h0
    obtain ⟨b, hb, _, wb⟩ := DataW.trod_int (x := y1) u h1
    obtain ⟨c, hc', _, wc⟩ := DataW.trod_int (x := y2) u h2
    simp [Value.cells] at ha hb hc'
    subst ha hb hc'
    exact ⟨a, b, c, rfl, wa, wb, wc⟩
end
end Go.Proofs.YtlgeibaejeiemaaDoor.Wd
