/-
  EscapeBack answers true, whatever the characters, what stands ahead and what behind (of at most 1048576 elements each), and changes nothing that it is given: what was quoted is told as it was. Condition: the second form's bound on what is handed in.
-/
import Derived.Test.YtjkaccmhpilojaaKEBack
import Derived.Test.YtjkaccmhpilojaaWv
import Derived.Deep.CondSized
import Derived.Test.YtjkaccmhpilojaaWa
namespace Go.Proofs.Ytjkaccmhpilojaa
set_option linter.unusedVariables false
open Go.RowKit Go.ChangeShapes Go.WideShapes
open Wd

namespace escapeBack
theorem own : ownKnob Try.prog.godebug = none := by kernel_rfl
theorem laidOut : laidOutB Try.prog = true := by kernel_rfl
set_option maxRecDepth 100000 in
theorem lifted (os : Os) (started : os.Started) (H : Type) (enc : TypeId × Value → H) (F : Stop.Interp) :
    ReturnsInHanded {} Try.checked os 5 .any ((Rows.OpenSpec.upto Rows.escapeBackSpec).pre6 enc Try.prog Try.f5 Rows.escapeBackUptoRow.domain false) (((Rows.OpenSpec.upto Rows.escapeBackSpec).at F).post enc Try.prog Try.f5 false true false false) := by
  refine returnsInHanded_of_cond_sized (C := Try.checked) (s := Rows.OpenSpec.upto Rows.escapeBackSpec) (k := Rows.uptoSmall) rfl own started (by kernel_rfl) Try.func5
    (OpenSpec.witness (enc := enc) (C := Try.checked) (s := Rows.OpenSpec.upto Rows.escapeBackSpec) (k := Rows.uptoSmall) rfl false ⟨#[], #[.slice none 0 0, .slice none 0 0, .slice none 0 0], []⟩ 8 (by kernel_rfl) (by kernel_rfl) (by kernel_rfl) (x := ([.nil, .nil, .nil], [], [])) (by kernel_rfl) rfl (by kernel_rfl)) ?_
  intro W base args ds gs before hval0 hW hcnd hk hsz _
  show Calls Try.prog 5 args W fun e W' => ∃ v, e = .returned v ∧ Rows.escapeBackSpec.post enc Try.prog Try.f5 false true false false W args v W'
  have hval : ∀ (j : Nat) t v, Try.f5.params[j]? = some t → args[j]? = some v → Value.okWide Try.prog W .any base t v := hval0
  have hW' := hW
  obtain ⟨p, q, hA0, hV, rfl, hfz, hnd⟩ := hW
  have hA : DataW.TrodAll enc Try.prog W 0 (fun _ => true) true Try.f5.params.toList args.toList ds p := hA0
  rw [Try.params5] at hA hval
  obtain ⟨v0, vs0, d0, ds0, p0, q0, hargs, rfl, rfl, h0, r0⟩ := trodAll_cons hA
  obtain ⟨v1, vs1, d1, ds1, p1, q1, rfl, rfl, rfl, h1, r1⟩ := trodAll_cons r0
  obtain ⟨v2, vs2, d2, ds2, p2, q2, rfl, rfl, rfl, h2, r2⟩ := trodAll_cons r1
  obtain ⟨rfl, rfl, rfl⟩ := trodAll_nil r2
  obtain rfl : args = #[v0, v1, v2] := by cases args; simp_all
  obtain ⟨rfl, rfl⟩ := trodVars_none hV
  have hsz : (DataW.weightsEach Try.prog (Try.f5.params.toList ++ []) ([d0, d1, d2] ++ [])).all (· ≤ reachBytes) = true := hsz
  rw [Try.params5] at hsz
  have hk : Rows.uptoSmall H [d0, d1, d2] = true := by simpa using hk
  obtain ⟨A0, n0, c0, rfl⟩ := okWide_slice Try.underlying33 (hval 0 33 v0 rfl rfl)
  have k0 := h0
  have lt0 : ∀ x ∈ p0, x.block < W.heap.size := by obtain ⟨m, hm⟩ := k0; exact DataW.trod_lt m _ _ _ hm
  obtain ⟨l0, s0, b0, g0⟩ : ∃ l, Sl .i64 W A0 n0 c0 l ∧ (∀ x ∈ l, (Lit.int .i64 x).wf = true) ∧ (c0 = 0 ∨ ∃ elems spare, d0 = .slice elems spare ∧ elems.length + spare.length = c0) := by
    obtain ⟨fuel, hf⟩ := h0
    exact open_sl Try.underlying33 Try.underlying3 (by kernel_rfl) hf
  have z0 : c0 * 8 ≤ 140737488351232 := room hsz (j := 0) g0 rfl rfl Try.underlying33 (by kernel_rfl)
  have u0 : c0 ≤ 1048576 := few_slice hk (j := 0) rfl g0
  obtain ⟨A1, n1, c1, rfl⟩ := okWide_slice Try.underlying27 (hval 1 27 v1 rfl rfl)
  have k1 := h1
  have lt1 : ∀ x ∈ p1, x.block < W.heap.size := by obtain ⟨m, hm⟩ := k1; exact DataW.trod_lt m _ _ _ hm
  obtain ⟨l1, s1, b1, g1⟩ : ∃ l, Sl .u8 W A1 n1 c1 l ∧ (∀ x ∈ l, (Lit.int .u8 x).wf = true) ∧ (c1 = 0 ∨ ∃ elems spare, d1 = .slice elems spare ∧ elems.length + spare.length = c1) := by
    obtain ⟨fuel, hf⟩ := h1
    exact open_sl Try.underlying27 Try.underlying5 (by kernel_rfl) hf
  have z1 : c1 * 1 ≤ 140737488351232 := room hsz (j := 1) g1 rfl rfl Try.underlying27 (by kernel_rfl)
  have u1 : c1 ≤ 1048576 := few_slice hk (j := 1) rfl g1
  obtain ⟨A2, n2, c2, rfl⟩ := okWide_slice Try.underlying27 (hval 2 27 v2 rfl rfl)
  have k2 := h2
  have lt2 : ∀ x ∈ p2, x.block < W.heap.size := by obtain ⟨m, hm⟩ := k2; exact DataW.trod_lt m _ _ _ hm
  obtain ⟨l2, s2, b2, g2⟩ : ∃ l, Sl .u8 W A2 n2 c2 l ∧ (∀ x ∈ l, (Lit.int .u8 x).wf = true) ∧ (c2 = 0 ∨ ∃ elems spare, d2 = .slice elems spare ∧ elems.length + spare.length = c2) := by
    obtain ⟨fuel, hf⟩ := h2
    exact open_sl Try.underlying27 Try.underlying5 (by kernel_rfl) hf
  have z2 : c2 * 1 ≤ 140737488351232 := room hsz (j := 2) g2 rfl rfl Try.underlying27 (by kernel_rfl)
  have u2 : c2 ≤ 1048576 := few_slice hk (j := 2) rfl g2
  clear hA0 hval0 hsz
  refine (walk_EscapeBack A0 n0 c0 l0 A1 n1 c1 l1 A2 n2 c2 l2 W s0 b0 z0 u0 s1 b1 z1 u1 s2 b2 z2 u2).mono fun e W' ⟨he, bel⟩ => ?_
  subst he
  exact ⟨_, rfl, _, _, _, [], _, [], hW', trodAll_mk1 (shut_bool Try.underlying4 _), (trodAll_cons_mk (Below.trod laidOut (by kernel_rfl) (of_decide_eq_true (by kernel_rfl)) k0 bel lt0) (trodAll_cons_mk (Below.trod laidOut (by kernel_rfl) (of_decide_eq_true (by kernel_rfl)) k1 bel lt1) (trodAll_cons_mk (Below.trod laidOut (by kernel_rfl) (of_decide_eq_true (by kernel_rfl)) k2 bel lt2) trodAll_mk0))), rfl, bel.frame _, fun h => by cases h⟩
theorem over : Rows.escapeBackUptoRow.holds Try.pinned (Rows.OpenSpec.upto Rows.escapeBackSpec) :=
  OpenClaim.holds_of_cond 5 Try.f5 rfl rfl rfl rfl rfl rfl rfl ⟨rfl, rfl, rfl, rfl, rfl⟩ rfl rfl rfl rfl rfl (by kernel_rfl) Try.func5 (by kernel_rfl)
    (of_decide_eq_true (by kernel_rfl)) (by unfold Func.isWrapper; first | (rw [if_pos (by decide +kernel)]; kernel_rfl) | (rw [if_neg (by decide +kernel)]; exact ⟨rfl, rfl⟩))
    (fun os started H enc _ F => lifted os started H enc F)
end escapeBack
/-- the given statement -/
theorem proved_EscapeBack_upto : Rows.EscapeBackUptoSaid := escapeBack.over
end Go.Proofs.Ytjkaccmhpilojaa
