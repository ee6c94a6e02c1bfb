/-
  How a slice of slices of bytes that comes in is opened. Nothing of the program is named here.
-/
import Derived.Test.YtjgkaccmfdjffaaDoorFo
import Derived.Test.YtjgkaccmfdjffaaDoorWp
import Derived.Deep.Matrix
namespace Go.Proofs.YtjgkaccmfdjffaaDoor.Wd
set_option linter.unusedVariables false
open Go.RowKit Go.ChangeShapes Go.WideShapes Go.Deep

theorem lt_at {α : Type} {l : List α} {i : Nat} {x : α} (h : l[i]? = some x) : i < l.length := (List.getElem?_eq_some_iff.1 h).1
theorem weights_all {H : Type} {P : Program} {e : TypeId} : ∀ {ds : List (DataW H)} {d : DataW H}, d ∈ ds → ∀ m ∈ d.weights P e, m ∈ DataW.weightsAll P e ds
  | [], _, h, _, _ => by simp at h
  | x :: ds, d, h, m, hm => by
    rw [DataW.weightsAll]
    rcases List.mem_cons.1 h with rfl | h
    · exact List.mem_append_left _ hm
    · exact List.mem_append_right _ (weights_all h m hm)

theorem open_ll {H : Type} {enc : TypeId × Value → H} {P : Program} {W : World} {t e q : TypeId} {fuel : Nat} {A : Option Addr} {n c : Nat} {d : DataW H} {p : List MemPlace}
    (hu : P.underlying t = some (.slice e)) (he : P.underlying e = some (.slice q)) (hq : P.underlying q = some (.int .u8)) (ce : P.cellsOf e = 1) (cq : P.cellsOf q = 1) (bq : P.bytesOf q = 1)
    (h : DataW.trod enc P W 0 (fun _ => true) true fuel t [.slice A n c] = some (d, p)) :
    ∃ ls, LL W A n c ls ∧ (∀ l ∈ ls, IsB l) ∧ ((∀ m ∈ d.weights P t, m ≤ reachBytes) → ∀ l ∈ ls, l.length ≤ 140737488351232) := by
  rcases open_int_rows hu he hq ce cq h with ⟨hcs, _⟩ | ⟨a, len, cap, Ar, L, C, Z, hcs, _, hl, hm, hx, hr⟩
  · simp at hcs
    obtain ⟨rfl, rfl, rfl⟩ := hcs
    exact ⟨[], LL.nil_, by simp, fun _ => by simp⟩
  · simp at hcs
    obtain ⟨rfl, rfl, rfl⟩ := hcs
    have hd : d = _ := (Prod.mk.inj hx).1
    have hat : ∀ r, r < n → Sl .u8 W (Ar r) (L r) (C r) ((Z r).take (L r)) := fun r hrn => by
      obtain ⟨_, h2, h3, h4, _, h6, h7⟩ := hr r (by omega)
      refine ⟨⟨by rw [List.length_take]; omega, fun hne => ?_⟩, h2, h3, h6⟩
      have h0 : 0 < (Z r).length := by
        rcases hz : Z r with _ | ⟨z, zs⟩
        · rw [hz] at hne; simp at hne
        · simp
      cases hA : Ar r with
      | none => have := h6 hA; omega
      | some x =>
        obtain ⟨_, hc⟩ := h7 x hA
        obtain ⟨b, off, spot⟩ := x
        have hs : spot = none := by
          have := hc 0 (by omega)
          simpa [Addr.add] using World.cell?_spot this
        subst hs
        refine ⟨b, off, rfl, fun j y hy => ?_⟩
        rw [List.getElem?_take] at hy
        split at hy
        · have hj := lt_at hy
          have hcj := hc j (by omega)
          have hg : (Z r).getD j 0 = y := by simp [List.getD, hy]
          rw [hg] at hcj
          by_cases g0 : j = 0
          · subst g0; simpa [Addr.add] using hcj
          · simpa [Addr.add, g0] using hcj
        · cases hy
    refine ⟨(List.range n).map fun r => (Z r).take (L r), ⟨by simp, hl, hm, (fun e => by cases e), fun i l hi => ?_⟩, fun l hlm => ?_, fun hw l hlm => ?_⟩
    · have hin : i < n := by have := lt_at hi; simpa using this
      simp [hin] at hi
      subst hi
      have hc := (hr i (by omega)).1
      obtain ⟨b, off, spot⟩ := a
      have hs : spot = none := by
        have := (hr 0 (by omega)).1
        simpa [Addr.add] using World.cell?_spot this
      subst hs
      refine ⟨b, off, Ar i, L i, C i, rfl, ?_, hat i hin⟩
      by_cases g0 : i = 0
      · subst g0; simpa [Addr.add] using hc
      · simpa [Addr.add, g0] using hc
    · obtain ⟨r, hrn, rfl⟩ := List.mem_map.1 hlm
      have hrn := List.mem_range.1 hrn
      exact isB_of fun y hy => (hr r (by omega)).2.2.2.2.1 y (List.mem_of_mem_take hy)
    · obtain ⟨r, hrn, rfl⟩ := List.mem_map.1 hlm
      have hrn := List.mem_range.1 hrn
      obtain ⟨_, h2, h3, h4, _, h6, h7⟩ := hr r (by omega)
      rw [List.length_take]
      cases hA : Ar r with
      | none => have := h6 hA; omega
      | some x =>
        have hmem : (intRow .u8 (Ar r) (L r) (Z r) : DataW H) ∈ ((List.range n).map fun r => intRow .u8 (Ar r) (L r) (Z r)) := List.mem_map.2 ⟨r, List.mem_range.2 hrn, rfl⟩
        have hwr := weights_all (P := P) (e := e) hmem (((lits .u8 ((Z r).take (L r)) : List (DataW H)).length + (lits .u8 ((Z r).drop (L r)) : List (DataW H)).length) * P.bytesOf q) (by
          rw [hA]
          simp only [intRow]
          rw [DataW.weights, he]
          exact List.mem_cons_self)
        have := hw _ (by
          rw [hd, DataW.weights, hu]
          exact List.mem_cons_of_mem _ (List.mem_append_left _ hwr))
        rw [bq] at this
        simp [lits, reachBytes] at this
        omega
end Go.Proofs.YtjgkaccmfdjffaaDoor.Wd
