/-
  How a value that comes in is opened: a tree of structs with a list of such, and a list of texts. Nothing of the program is named here.
-/
import Derived.Test.YtlgeibaejeiemaaDoorVb
import Derived.Test.YtlgeibaejeiemaaDoorWp
namespace Go.Proofs.YtlgeibaejeiemaaDoor.Vt
set_option linter.unusedVariables false
set_option linter.unusedSimpArgs false
open Go.RowKit Go.ChangeShapes Go.WideShapes Wd

/-- what is asked of the types -/
structure Ty (P : Program) (tv ts : TypeId) (f0 f1 f2 f3 f4 : Field) : Prop where
  v : P.underlying tv = some (.struct #[f0, f1, f2, f3, f4])
  o : f0.offset = 0 ∧ f1.offset = 1 ∧ f2.offset = 2 ∧ f3.offset = 3 ∧ f4.offset = 4
  z : P.cellsOf f0.type = 1 ∧ P.cellsOf f1.type = 1 ∧ P.cellsOf f2.type = 1 ∧ P.cellsOf f3.type = 1 ∧ P.cellsOf f4.type = 1
  cv : P.cellsOf tv = 5
  bv : P.bytesOf tv = 80
  u0 : P.underlying f0.type = some (.int .i64)
  u1 : P.underlying f1.type = some .bool
  u2 : P.underlying f2.type = some .string
  u3 : P.underlying f3.type = some (.slice tv)
  u4 : P.underlying f4.type = some (.slice ts)
  us : P.underlying ts = some .string
  cs : P.cellsOf ts = 1
  bs : P.bytesOf ts = 16
section
variable {H : Type} {enc : TypeId × Value → H} {P : Program} {w : World} {base : Nat} {held : Bool} {tv ts : TypeId} {f0 f1 f2 f3 f4 : Field}
theorem pick {α : Type} [Nonempty α] {n : Nat} {p : Nat → α → Prop} (h : ∀ r, r < n → ∃ y, p r y) : ∃ f : Nat → α, ∀ r, r < n → p r (f r) := by
  refine ⟨fun r => if hr : r < n then (h r hr).choose else Classical.ofNonempty, fun r hr => ?_⟩
  simp only [dif_pos hr]
  exact (h r hr).choose_spec
theorem cells1 {a : Addr} {cs : List Value} (h : w.cells? base a 1 = some cs) : ∃ c, cs = [c] ∧ w.cell? (a.add 0) = some c := by
  unfold World.cells? at h
  split at h
  · cases h0 : w.cell? (a.add 0) with
    | none => simp [List.range, List.range.loop, h0] at h
    | some c => simp [List.range, List.range.loop, h0] at h; exact ⟨c, h.symm, rfl⟩
  · cases h
theorem cells5 {a : Addr} {cs : List Value} (h : w.cells? base a 5 = some cs) : ∃ c0 c1 c2 c3 c4, cs = [c0, c1, c2, c3, c4] ∧ w.cell? (a.add 0) = some c0 ∧ w.cell? (a.add 1) = some c1 ∧ w.cell? (a.add 2) = some c2 ∧ w.cell? (a.add 3) = some c3 ∧ w.cell? (a.add 4) = some c4 := by
  unfold World.cells? at h
  split at h
  · cases h0 : w.cell? (a.add 0) with
    | none => simp [List.range, List.range.loop, h0] at h
    | some c0 =>
    cases h1 : w.cell? (a.add 1) with
    | none => simp [List.range, List.range.loop, h0, h1] at h
    | some c1 =>
    cases h2 : w.cell? (a.add 2) with
    | none => simp [List.range, List.range.loop, h0, h1, h2] at h
    | some c2 =>
    cases h3 : w.cell? (a.add 3) with
    | none => simp [List.range, List.range.loop, h0, h1, h2, h3] at h
    | some c3 =>
    cases h4 : w.cell? (a.add 4) with
    | none => simp [List.range, List.range.loop, h0, h1, h2, h3, h4] at h
    | some c4 => simp [List.range, List.range.loop, h0, h1, h2, h3, h4] at h; exact ⟨c0, c1, c2, c3, c4, h.symm, rfl, rfl, rfl, rfl, rfl⟩
  · cases h
theorem add_none (b o i : Nat) : (⟨b, o, none⟩ : Addr).add i = ⟨b, o + i, none⟩ := by
  by_cases h : i = 0
  · subst h; simp [Addr.add]
  · simp [Addr.add, h]
theorem spot_of {a : Addr} {v : Value} (h : w.cell? ((a.add 0).add 0) = some v) : ∃ b o, a = ⟨b, o, none⟩ := by
  obtain ⟨b, o, s⟩ := a
  have h2 : ((⟨b, o, s⟩ : Addr).add 0).add 0 = ⟨b, o, s⟩ := by simp [Addr.add]
  rw [h2] at h
  have hs : s = none := by simpa using World.cell?_spot h
  exact ⟨b, o, by rw [hs]⟩
theorem weights_mem {e : TypeId} : ∀ {ds : List (DataW H)} {d : DataW H}, d ∈ ds → ∀ m ∈ d.weights P e, m ∈ DataW.weightsAll P e ds
  | [], _, h, _, _ => by simp at h
  | x :: ds, d, h, m, hm => by
    rw [DataW.weightsAll]
    rcases List.mem_cons.1 h with rfl | h
    · exact List.mem_append_left _ hm
    · exact List.mem_append_right _ (weights_mem h m hm)
/-- a list of texts -/
theorem nm_of_trod {tn : TypeId} (ht : P.underlying tn = some (.slice ts)) (us : P.underlying ts = some .string) (cs1 : P.cellsOf ts = 1) (bs1 : P.bytesOf ts = 16) {fuel : Nat} {c : Value} {x : DataW H × List MemPlace}
    (h : DataW.trod enc P w base (fun _ => true) held fuel tn [c] = some x) (hw : ∀ m ∈ x.1.weights P tn, m ≤ reachBytes) : ∃ A m d n, c = .slice A m d ∧ Nm w A m d n ∧ ∀ x ∈ n, x.size ≤ 140737488351232 := by
  rcases DataW.trod_slice ht h with ⟨hc, _⟩ | ⟨a, len, cap, elems, rest, k, rfl, hc, rfl, hb, hle, hmx, hel, hg, hsp, _⟩
  · simp at hc; exact ⟨none, 0, 0, [], hc, Nm.none_ w, fun x hx => by cases hx⟩
  · simp at hc
    obtain ⟨hr, _⟩ := hsp rfl
    simp only [DataW.weights, ht, List.length_map, hel, hr] at hw
    have hw0 := hw ((len + (cap - len)) * P.bytesOf ts) (by simp)
    rw [bs1] at hw0
    unfold reachBytes at hw0
    have each : ∀ i, i < len → ∃ s : ByteArray, w.cell? ((a.add (i * 1)).add 0) = some (.string s) ∧ s.size ≤ 140737488351232 := by
      intro i hi
      have h1 := hg i hi
      have hie : i < elems.length := by omega
      rw [List.getElem?_eq_getElem hie, cs1] at h1
      obtain ⟨ci, hci, h2⟩ := Option.bind_eq_some_iff.1 h1
      obtain ⟨c0, rfl, h3⟩ := cells1 hci
      obtain ⟨s, hs, hx, _⟩ := DataW.trod_string us h2
      simp at hs
      subst hs
      refine ⟨s, h3, ?_⟩
      have hm := hw s.size (by
        refine List.mem_cons_of_mem _ (List.mem_append_left _ (weights_mem (List.mem_map.2 ⟨elems[i], List.getElem_mem hie, rfl⟩) _ ?_))
        rw [hx]
        show s.size ∈ DataW.weights P ts (.lit (.string s.data.toList))
        unfold DataW.weights
        exact List.mem_singleton.2 (by rw [Array.length_toList]; rfl))
      unfold reachBytes at hm
      omega
    obtain ⟨f, hf⟩ := pick (α := ByteArray) each
    refine ⟨some a, len, cap, (List.range len).map f, hc, ⟨by simp, hle, hmx, (fun e => by cases e), by omega, fun hm => ?_⟩, fun s hs => ?_⟩
    rotate_left
    · obtain ⟨i, hi, rfl⟩ := List.mem_map.1 hs
      exact (hf i (List.mem_range.1 hi)).2
    · have h0 := (hf 0 (by omega)).1
      rw [Nat.zero_mul] at h0
      obtain ⟨b, o, rfl⟩ := spot_of h0
      refine ⟨b, o, rfl, fun i s hi => ?_⟩
      have hil : i < len := by
        rcases Nat.lt_or_ge i len with g | g
        · exact g
        · rw [List.getElem?_eq_none (by simpa using g)] at hi; cases hi
      have h1 := (hf i hil).1
      rw [add_none, add_none, Nat.mul_one, Nat.add_zero] at h1
      rw [h1]
      simp [hil] at hi
      rw [hi]
/-- a value -/
theorem vl_of_trod (T : Ty P tv ts f0 f1 f2 f3 f4) : ∀ (fuel : Nat) {cs : List Value} {x : DataW H × List MemPlace},
    DataW.trod enc P w base (fun _ => true) held fuel tv cs = some x → (∀ m ∈ x.1.weights P tv, m ≤ reachBytes) → ∃ t, Vl w (.agg cs.toArray) t ∧ Sm t := by
  intro fuel
  induction fuel using Nat.strongRecOn with
  | _ fuel ih =>
    intro cs x h hw
    obtain ⟨xs, n, rfl, rfl, hlen, hxl, hg⟩ := DataW.trod_struct T.v h
    rw [T.cv] at hlen
    obtain ⟨o0, o1, o2, o3, o4⟩ := T.o
    obtain ⟨z0, z1, z2, z3, z4⟩ := T.z
    match cs, hlen with
    | [c0, c1, c2, c3, c4], _ =>
    match xs, hxl with
    | [y0, y1, y2, y3, y4], _ =>
    have h0 := hg 0 f0 rfl
    have h1 := hg 1 f1 rfl
    have h2 := hg 2 f2 rfl
    have h3 := hg 3 f3 rfl
    have h4 := hg 4 f4 rfl
    rw [o0, z0] at h0
    rw [o1, z1] at h1
    rw [o2, z2] at h2
    rw [o3, z3] at h3
    rw [o4, z4] at h4
    obtain ⟨k, hk, _, wk⟩ := DataW.trod_int (x := y0) T.u0 h0
    obtain ⟨b, hb, _⟩ := DataW.trod_bool (x := y1) T.u1 h1
    obtain ⟨s, hs, hsx, _⟩ := DataW.trod_string (x := y2) T.u2 h2
    simp at hk hb hs
    subst hk; subst hb; subst hs
    have hww : ∀ m, (m ∈ y2.1.weights P f2.type ∨ m ∈ y3.1.weights P f3.type ∨ m ∈ y4.1.weights P f4.type) → m ≤ reachBytes := fun m hm => by
      refine hw m ?_
      show m ∈ DataW.weights P tv (.agg [y0.1, y1.1, y2.1, y3.1, y4.1])
      unfold DataW.weights
      rw [T.v]
      show m ∈ DataW.weightsEach P [f0.type, f1.type, f2.type, f3.type, f4.type] [y0.1, y1.1, y2.1, y3.1, y4.1]
      simp only [DataW.weightsEach, List.mem_append]
      rcases hm with hm | hm | hm
      · exact .inr (.inr (.inl hm))
      · exact .inr (.inr (.inr (.inl hm)))
      · exact .inr (.inr (.inr (.inr (.inl hm))))
    have hss : s.size ≤ 140737488351232 := by
      have := hww s.size (.inl (by
        rw [hsx]
        show s.size ∈ DataW.weights P f2.type (.lit (.string s.data.toList))
        unfold DataW.weights
        exact List.mem_singleton.2 (by rw [Array.length_toList]; rfl)))
      unfold reachBytes at this; omega
    obtain ⟨B, q, d, nm, rfl, hnm, hsm⟩ := nm_of_trod (x := y4) T.u4 T.us T.cs T.bs h4 (fun m hm => hww m (.inr (.inr hm)))
    have hkk : -9223372036854775808 ≤ k ∧ k ≤ 9223372036854775807 := i64_of wk
    rcases DataW.trod_slice (x := y3) T.u3 h3 with ⟨hc, _⟩ | ⟨a, len, cap, elems, rest, n', hn', hc, hy3, hb, hle, hmx, hel, hge, hsp, _⟩
    · simp at hc
      subst hc
      exact ⟨.mk k b s [] nm, Vl.shut (t := .mk k b s [] nm) (VL.none_ w) hnm hkk hss, Sm.mk hsm (fun x hx => by cases hx)⟩
    · simp at hc
      subst hc
      obtain ⟨hr, _⟩ := hsp rfl
      have hw3 : ∀ m ∈ y3.1.weights P f3.type, m ≤ reachBytes := fun m hm => hww m (.inr (.inl hm))
      rw [hy3] at hw3
      have hwd : ∀ m, (m = (elems.length + rest.length) * 80 ∨ m ∈ DataW.weightsAll P tv (elems.map (·.1))) → m ≤ reachBytes := fun m hm => by
        refine hw3 m ?_
        show m ∈ DataW.weights P f3.type (.slice (elems.map (·.1)) (rest.map (·.1)))
        unfold DataW.weights
        rw [T.u3]
        show m ∈ ((elems.map (·.1)).length + (rest.map (·.1)).length) * P.bytesOf tv :: (DataW.weightsAll P tv (elems.map (·.1)) ++ DataW.weightsAll P tv (rest.map (·.1)))
        rw [List.length_map, List.length_map, T.bv]
        rcases hm with hm | hm
        · rw [hm]; exact List.mem_cons_self
        · exact List.mem_cons_of_mem _ (List.mem_append_left _ hm)
      have hcap := hwd _ (.inl rfl)
      unfold reachBytes at hcap
      have each : ∀ i, i < len → ∃ y : Tr, Sm y ∧ ∃ v, Vl w v y ∧ ∃ ci, v = .agg ci ∧ ∃ c0 c1 c2 c3 c4, ci = #[c0, c1, c2, c3, c4] ∧ w.cell? ((a.add (i * 5)).add 0) = some c0 ∧ w.cell? ((a.add (i * 5)).add 1) = some c1 ∧ w.cell? ((a.add (i * 5)).add 2) = some c2 ∧ w.cell? ((a.add (i * 5)).add 3) = some c3 ∧ w.cell? ((a.add (i * 5)).add 4) = some c4 := by
        intro i hi
        have g1 := hge i hi
        have hie : i < elems.length := by omega
        rw [List.getElem?_eq_getElem hie, T.cv] at g1
        obtain ⟨ci, hci, g2⟩ := Option.bind_eq_some_iff.1 g1
        obtain ⟨e0, e1, e2, e3, e4, rfl, k0, k1, k2, k3, k4⟩ := cells5 hci
        obtain ⟨y, hy, hsy⟩ := ih n' (by omega) g2 (fun m hm => hwd m (.inr (weights_mem (List.mem_map.2 ⟨elems[i], List.getElem_mem hie, rfl⟩) m hm)))
        exact ⟨y, hsy, _, hy, _, rfl, e0, e1, e2, e3, e4, rfl, k0, k1, k2, k3, k4⟩
      obtain ⟨f, hf⟩ := pick (α := Tr) (by exact each)
      refine ⟨.mk k b s ((List.range len).map f) nm, Vl.shut (t := .mk k b s ((List.range len).map f) nm) ⟨by simp [Tr.list], hle, hmx, (fun e => by cases e), by omega, fun hm => ?_⟩ hnm hkk hss, Sm.mk hsm (fun x hx => by obtain ⟨i, hi, rfl⟩ := List.mem_map.1 hx; exact (hf i (List.mem_range.1 hi)).1)⟩
      obtain ⟨_, _, _, _, _, _, _, _, _, _, _, p0, _⟩ := hf 0 (by omega)
      rw [Nat.zero_mul] at p0
      obtain ⟨g, o, rfl⟩ := spot_of p0
      refine ⟨g, o, rfl, fun i t hi => ?_⟩
      have hil : i < len := by
        rcases Nat.lt_or_ge i len with g | g
        · exact g
        · rw [List.getElem?_eq_none (by simpa [Tr.list] using g)] at hi; cases hi
      obtain ⟨_, v, hv, ci, rfl, e0, e1, e2, e3, e4, rfl, k0, k1, k2, k3, k4⟩ := hf i hil
      simp [Tr.list, hil] at hi
      subst hi
      rw [add_none, add_none] at k0 k1 k2 k3 k4
      refine ⟨_, ?_, hv⟩
      obtain ⟨A', m', c', B', q', d', he, _⟩ := hv.open_
      simp only [Value.agg.injEq, Array.mk.injEq, List.cons.injEq, and_true] at he
      obtain ⟨rfl, rfl, rfl, rfl, rfl⟩ := he
      exact ⟨_, _, _, _, _, rfl, by rw [Nat.add_zero] at k0; exact k0, k1, k2, k3, k4⟩
end
end Go.Proofs.YtlgeibaejeiemaaDoor.Vt
