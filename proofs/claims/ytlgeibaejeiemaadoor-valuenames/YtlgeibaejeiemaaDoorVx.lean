/-
  How the parameters of layer 10's statements are opened: values, lists of values, lists of texts.
-/
import Derived.Test.YtlgeibaejeiemaaDoorVu
import Derived.Test.YtlgeibaejeiemaaDoorWa
namespace Go.Proofs.YtlgeibaejeiemaaDoor
set_option linter.unusedVariables false
set_option linter.unusedSimpArgs false
open Go.RowKit Go.ChangeShapes Go.WideShapes Go.Joins Go.Deep
namespace Vt
open Wd We

theorem dp_no {l : List Tr} (h : dpL l 991 = false) {x : Tr} (hx : x ∈ l) : dep x ≤ 991 := by
  have := List.any_eq_false.1 h x hx
  simp only [decide_eq_true_eq] at this
  omega
theorem alk_trip (a b c : Tr) : (alk a b = true ∧ alk b c = true ∧ alk a c = true) ∨ (alk a b = true ∧ alk b c = false ∧ alk a c = false) ∨ (alk a b = false ∧ alk b c = true ∧ alk a c = false) ∨ (alk a b = false ∧ alk b c = false) := by
  by_cases h : a = b
  · subst h
    by_cases g : a = c
    · subst g; exact .inl ⟨alk_self a, alk_self a, alk_self a⟩
    · exact .inr (.inl ⟨alk_self a, alk_no g, alk_no g⟩)
  · by_cases g : b = c
    · subst g; exact .inr (.inr (.inl ⟨alk_no h, alk_self b, alk_no h⟩))
    · exact .inr (.inr (.inr ⟨alk_no h, alk_no g⟩))
theorem ty_v : ∃ f0 f1 f2 f3 f4, Ty Tryd.prog 25 9 f0 f1 f2 f3 f4 :=
  ⟨_, _, _, _, _, ⟨Tryd.underlying25, ⟨rfl, rfl, rfl, rfl, rfl⟩, ⟨by kernel_rfl, by kernel_rfl, by kernel_rfl, by kernel_rfl, by kernel_rfl⟩, by kernel_rfl, by kernel_rfl, by kernel_rfl, by kernel_rfl, by kernel_rfl, by kernel_rfl, by kernel_rfl, by kernel_rfl, by kernel_rfl, by kernel_rfl⟩⟩
section
variable {H : Type} {enc : TypeId × Value → H} {w : World} {base b0 : Nat} {held : Bool} {r : Reach} {v : Value} {d : DataW H} {p : List MemPlace}
theorem open_v (hv : Value.okWide Tryd.prog w r b0 25 v) (h : DataW.Trod enc Tryd.prog w base (fun _ => true) held 25 v d p) (hw : ∀ m ∈ d.weights Tryd.prog 25, m ≤ reachBytes) : ∃ t, Vl w v t ∧ Sm t := by
  obtain ⟨f0, f1, f2, f3, f4, T⟩ := ty_v
  obtain ⟨cs, rfl, hsz⟩ := okWide_struct T.v hv
  obtain ⟨fuel, hf⟩ := h
  exact vl_of_trod T fuel hf hw
theorem open_vs (hv : ∃ A n c, v = .slice A n c) (h : DataW.Trod enc Tryd.prog w base (fun _ => true) held 22 v d p) (hw : ∀ m ∈ d.weights Tryd.prog 22, m ≤ reachBytes) : ∃ A n c l, v = .slice A n c ∧ VL w A n c l ∧ ∀ x ∈ l, Sm x := by
  obtain ⟨f0, f1, f2, f3, f4, T⟩ := ty_v
  obtain ⟨A, n, c, rfl⟩ := hv
  obtain ⟨fuel, hf⟩ := h
  have ht : Tryd.prog.underlying 22 = some (.slice 25) := Tryd.underlying22
  have hf' : DataW.trod enc Tryd.prog w base (fun _ => true) held fuel 22 [.slice A n c] = some (d, p) := hf
  rcases DataW.trod_slice (x := (d, p)) ht hf' with ⟨hc, _⟩ | ⟨a, len, cap, elems, rest, n', hn', hc, hy3, hb, hle, hmx, hel, hge, hsp, _⟩
  · simp at hc
    obtain ⟨rfl, rfl, rfl⟩ := hc
    exact ⟨none, 0, 0, [], rfl, VL.none_ w, fun x hx => by cases hx⟩
  · simp at hc
    obtain ⟨rfl, rfl, rfl⟩ := hc
    obtain ⟨hr, _⟩ := hsp rfl
    have hy4 : d = .slice (elems.map (·.1)) (rest.map (·.1)) := (Prod.mk.inj hy3).1
    subst hy4
    have hwd : ∀ m, (m = (elems.length + rest.length) * 80 ∨ m ∈ DataW.weightsAll Tryd.prog 25 (elems.map (·.1))) → m ≤ reachBytes := fun m hm => by
      refine hw m ?_
      unfold DataW.weights
      rw [ht]
      show m ∈ ((elems.map (·.1)).length + (rest.map (·.1)).length) * Tryd.prog.bytesOf 25 :: (DataW.weightsAll Tryd.prog 25 (elems.map (·.1)) ++ DataW.weightsAll Tryd.prog 25 (rest.map (·.1)))
      rw [List.length_map, List.length_map, T.bv]
      rcases hm with hm | hm
      · rw [hm]; exact List.mem_cons_self
      · exact List.mem_cons_of_mem _ (List.mem_append_left _ hm)
    have hcap := hwd _ (.inl rfl)
    unfold reachBytes at hcap
    have each : ∀ i, i < n → ∃ y : Tr, Sm y ∧ ∃ v, Vl w v y ∧ ∃ ci, v = .agg ci ∧ ∃ c0 c1 c2 c3 c4, ci = #[c0, c1, c2, c3, c4] ∧ w.cell? ((a.add (i * 5)).add 0) = some c0 ∧ w.cell? ((a.add (i * 5)).add 1) = some c1 ∧ w.cell? ((a.add (i * 5)).add 2) = some c2 ∧ w.cell? ((a.add (i * 5)).add 3) = some c3 ∧ w.cell? ((a.add (i * 5)).add 4) = some c4 := by
      intro i hi
      have g1 := hge i hi
      have hie : i < elems.length := by omega
      rw [List.getElem?_eq_getElem hie, T.cv] at g1
      obtain ⟨ci, hci, g2⟩ := Option.bind_eq_some_iff.1 g1
      obtain ⟨e0, e1, e2, e3, e4, rfl, k0, k1, k2, k3, k4⟩ := cells5 hci
      obtain ⟨y, hy, hsy⟩ := vl_of_trod T n' g2 (fun m hm => hwd m (.inr (weights_mem (List.mem_map.2 ⟨elems[i], List.getElem_mem hie, rfl⟩) _ hm)))
      exact ⟨y, hsy, _, hy, _, rfl, e0, e1, e2, e3, e4, rfl, k0, k1, k2, k3, k4⟩
    obtain ⟨f, hf2⟩ := pick (α := Tr) (by exact each)
    refine ⟨some a, n, c, (List.range n).map f, rfl, ⟨by simp, hle, hmx, (fun e => by cases e), by omega, fun hm => ?_⟩, fun x hx => ?_⟩
    · obtain ⟨_, _, _, _, _, _, _, _, _, _, _, p0, _⟩ := hf2 0 (by omega)
      rw [Nat.zero_mul] at p0
      obtain ⟨g, o, rfl⟩ := spot_of p0
      refine ⟨g, o, rfl, fun i t hi => ?_⟩
      have hil : i < n := by
        rcases Nat.lt_or_ge i n with g | g
        · exact g
        · rw [List.getElem?_eq_none (by simpa using g)] at hi; cases hi
      obtain ⟨_, v, hv, ci, rfl, e0, e1, e2, e3, e4, rfl, k0, k1, k2, k3, k4⟩ := hf2 i hil
      simp [hil] at hi
      subst hi
      rw [add_none, add_none] at k0 k1 k2 k3 k4
      refine ⟨_, ?_, hv⟩
      obtain ⟨A', m', c', B', q', d', he, _⟩ := hv.open_
      simp only [Value.agg.injEq, Array.mk.injEq, List.cons.injEq, and_true] at he
      obtain ⟨rfl, rfl, rfl, rfl, rfl⟩ := he
      exact ⟨_, _, _, _, _, rfl, by rw [Nat.add_zero] at k0; exact k0, k1, k2, k3, k4⟩
    · obtain ⟨i, hi, rfl⟩ := List.mem_map.1 hx
      exact (hf2 i (List.mem_range.1 hi)).1
theorem open_nm (h : DataW.Trod enc Tryd.prog w base (fun _ => true) held 23 v d p) (hv : ∃ A n c, v = .slice A n c) (hw : ∀ m ∈ d.weights Tryd.prog 23, m ≤ reachBytes) : ∃ A n c l, v = .slice A n c ∧ Nm w A n c l ∧ ∀ x ∈ l, x.size ≤ 140737488351232 := by
  obtain ⟨f0, f1, f2, f3, f4, T⟩ := ty_v
  obtain ⟨A, n, c, rfl⟩ := hv
  obtain ⟨fuel, hf⟩ := h
  obtain ⟨A', m, d', l, he, h1, h2⟩ := nm_of_trod (x := (d, p)) Tryd.underlying23 T.us T.cs T.bs hf hw
  exact ⟨A', m, d', l, he, h1, h2⟩
end
end Vt
end Go.Proofs.YtlgeibaejeiemaaDoor
