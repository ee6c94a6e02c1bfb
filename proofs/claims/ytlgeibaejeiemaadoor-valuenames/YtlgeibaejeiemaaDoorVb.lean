/-
  Trees of values in memory. Nothing of the program is named here.
-/
import Derived.Test.YtlgeibaejeiemaaDoorVa
import Derived.Test.YtlgeibaejeiemaaDoorWo
namespace Go.Proofs.YtlgeibaejeiemaaDoor.Vt
set_option linter.unusedVariables false
set_option linter.unusedSimpArgs false
open Go.RowKit Wd

/-- a list of texts in memory -/
structure Nm (w : World) (A : Option Addr) (m c : Nat) (n : List ByteArray) : Prop where
  len : n.length = m
  le : m ≤ c
  max : c ≤ maxLen
  nil : A = none → c = 0
  small : m * 16 ≤ 140737488351232
  row : m ≠ 0 → ∃ g off, A = some ⟨g, off, none⟩ ∧ ∀ (i : Nat) (s : ByteArray), n[i]? = some s → w.cell? ⟨g, off + i, none⟩ = some (.string s)
/-- the five cells of a value in a list -/
def Cel (w : World) (g o : Nat) (v : Value) : Prop := ∃ (k : Int) (b : Bool) (s : ByteArray) (x y : Value), v = .agg #[.int .i64 k, .bool b, .string s, x, y] ∧
  w.cell? ⟨g, o, none⟩ = some (.int .i64 k) ∧ w.cell? ⟨g, o + 1, none⟩ = some (.bool b) ∧ w.cell? ⟨g, o + 2, none⟩ = some (.string s) ∧ w.cell? ⟨g, o + 3, none⟩ = some x ∧ w.cell? ⟨g, o + 4, none⟩ = some y
/-- a value in memory reads as a tree -/
inductive Vl (w : World) : Value → Tr → Prop
  | mk {k : Int} {b : Bool} {s : ByteArray} {A : Option Addr} {m c : Nat} {B : Option Addr} {q d : Nat} {l : List Tr} {n : List ByteArray} (g off : Nat) (V : Nat → Value) (hk : -9223372036854775808 ≤ k ∧ k ≤ 9223372036854775807) (hs : s.size ≤ 140737488351232)
    (hl : l.length = m) (hmc : m ≤ c) (hc : c ≤ maxLen) (hA : A = none → c = 0) (hz : m * 80 ≤ 140737488351232)
    (hat : m ≠ 0 → A = some ⟨g, off, none⟩) (hcel : ∀ i, i < m → Cel w g (off + i * 5) (V i)) (hel : ∀ (i : Nat) (t : Tr), l[i]? = some t → Vl w (V i) t)
    (hn : Nm w B q d n) : Vl w (.agg #[.int .i64 k, .bool b, .string s, .slice A m c, .slice B q d]) (.mk k b s l n)
/-- a list of values in memory reads as a list of trees -/
structure VL (w : World) (A : Option Addr) (m c : Nat) (l : List Tr) : Prop where
  len : l.length = m
  le : m ≤ c
  max : c ≤ maxLen
  nil : A = none → c = 0
  small : m * 80 ≤ 140737488351232
  row : m ≠ 0 → ∃ g off, A = some ⟨g, off, none⟩ ∧ ∀ (i : Nat) (t : Tr), l[i]? = some t → ∃ v, Cel w g (off + i * 5) v ∧ Vl w v t
theorem row_of {w : World} {A : Option Addr} {m g off : Nat} {l : List Tr} {V : Nat → Value} (hl : l.length = m) (hat : m ≠ 0 → A = some ⟨g, off, none⟩) (hcel : ∀ i, i < m → Cel w g (off + i * 5) (V i)) (hel : ∀ (i : Nat) (t : Tr), l[i]? = some t → Vl w (V i) t) :
    m ≠ 0 → ∃ g off, A = some ⟨g, off, none⟩ ∧ ∀ (i : Nat) (t : Tr), l[i]? = some t → ∃ v, Cel w g (off + i * 5) v ∧ Vl w v t := fun hm =>
  ⟨g, off, hat hm, fun i t ht => ⟨V i, hcel i (by
    rcases Nat.lt_or_ge i l.length with h | h
    · omega
    · rw [List.getElem?_eq_none h] at ht; cases ht), hel i t ht⟩⟩
theorem row_to {w : World} {A : Option Addr} {m : Nat} {l : List Tr} (hl : l.length = m) (h : m ≠ 0 → ∃ g off, A = some ⟨g, off, none⟩ ∧ ∀ (i : Nat) (t : Tr), l[i]? = some t → ∃ v, Cel w g (off + i * 5) v ∧ Vl w v t) :
    ∃ (g off : Nat) (V : Nat → Value), (m ≠ 0 → A = some ⟨g, off, none⟩) ∧ (∀ i, i < m → Cel w g (off + i * 5) (V i)) ∧ ∀ (i : Nat) (t : Tr), l[i]? = some t → Vl w (V i) t := by
  by_cases hm : m = 0
  · subst hm
    obtain rfl : l = [] := List.eq_nil_of_length_eq_zero hl
    exact ⟨0, 0, fun _ => .nilIface, fun g => absurd rfl g, fun i hi => absurd hi (Nat.not_lt_zero i), fun i t ht => by cases ht⟩
  · obtain ⟨g, off, hA, hc⟩ := h hm
    have hch : ∀ i, ∃ v, ∀ t, l[i]? = some t → Cel w g (off + i * 5) v ∧ Vl w v t := fun i => by
      cases ht : l[i]? with
      | none => exact ⟨.nilIface, fun t h => by cases h⟩
      | some t =>
        obtain ⟨v, hv⟩ := hc i t ht
        exact ⟨v, fun t' h => by injection h with h; subst h; exact hv⟩
    refine ⟨g, off, fun i => (hch i).choose, fun _ => hA, fun i hi => ?_, fun i t ht => ((hch i).choose_spec t ht).2⟩
    have hil : i < l.length := by omega
    exact ((hch i).choose_spec l[i] (List.getElem?_eq_getElem hil)).1
theorem Vl.list {w : World} {k : Int} {b : Bool} {s : ByteArray} {A : Option Addr} {m c : Nat} {B : Option Addr} {q d : Nat} {t : Tr} (h : Vl w (.agg #[.int .i64 k, .bool b, .string s, .slice A m c, .slice B q d]) t) :
    ∃ l n, t = .mk k b s l n ∧ VL w A m c l ∧ Nm w B q d n ∧ (-9223372036854775808 ≤ k ∧ k ≤ 9223372036854775807) ∧ s.size ≤ 140737488351232 := by
  cases h with
  | mk g off V hk hs hl hmc hc hA hz hat hcel hel hn => exact ⟨_, _, rfl, ⟨hl, hmc, hc, hA, hz, row_of hl hat hcel hel⟩, hn, hk, hs⟩
theorem Vl.open_ {w : World} {v : Value} {t : Tr} (h : Vl w v t) : ∃ A m c B q d, v = .agg #[.int .i64 t.kind, .bool t.isB, .string t.text, .slice A m c, .slice B q d] ∧ VL w A m c t.list ∧ Nm w B q d t.names ∧
    (-9223372036854775808 ≤ t.kind ∧ t.kind ≤ 9223372036854775807) ∧ t.text.size ≤ 140737488351232 := by
  cases h with
  | mk g off V hk hs hl hmc hc hA hz hat hcel hel hn => exact ⟨_, _, _, _, _, _, rfl, ⟨hl, hmc, hc, hA, hz, row_of hl hat hcel hel⟩, hn, hk, hs⟩
theorem Vl.shut {w : World} {t : Tr} {A : Option Addr} {m c : Nat} {B : Option Addr} {q d : Nat} (h1 : VL w A m c t.list) (h2 : Nm w B q d t.names) (h3 : -9223372036854775808 ≤ t.kind ∧ t.kind ≤ 9223372036854775807) (h4 : t.text.size ≤ 140737488351232) :
    Vl w (.agg #[.int .i64 t.kind, .bool t.isB, .string t.text, .slice A m c, .slice B q d]) t := by
  cases t with
  | mk k b s l n =>
    obtain ⟨g, off, V, hat, hcel, hel⟩ := row_to h1.len h1.row
    exact Vl.mk g off V h3 h4 h1.len h1.le h1.max h1.nil h1.small hat hcel hel h2
theorem Nm.below {w w' : World} {A : Option Addr} {m c : Nat} {n : List ByteArray} (h : Nm w A m c n) (hb : Below w.heap.size w w') : Nm w' A m c n := by
  refine ⟨h.len, h.le, h.max, h.nil, h.small, fun hm => ?_⟩
  obtain ⟨g, off, rfl, hc⟩ := h.row hm
  exact ⟨g, off, rfl, fun i s hs => (hb.cell (p := ⟨g, off + i, none⟩) (lt_of_cell (hc i s hs))).trans (hc i s hs)⟩
theorem Cel.below {w w' : World} {g o : Nat} {v : Value} (h : Cel w g o v) (hb : Below w.heap.size w w') : Cel w' g o v := by
  obtain ⟨k, b, s, x, y, rfl, h0, h1, h2, h3, h4⟩ := h
  exact ⟨k, b, s, x, y, rfl, (hb.cell (p := ⟨g, o, none⟩) (lt_of_cell h0)).trans h0, (hb.cell (p := ⟨g, o + 1, none⟩) (lt_of_cell h1)).trans h1, (hb.cell (p := ⟨g, o + 2, none⟩) (lt_of_cell h2)).trans h2,
    (hb.cell (p := ⟨g, o + 3, none⟩) (lt_of_cell h3)).trans h3, (hb.cell (p := ⟨g, o + 4, none⟩) (lt_of_cell h4)).trans h4⟩
theorem Vl.up {w w' : World} (hb : Below w.heap.size w w') : ∀ (t : Tr) {v : Value}, Vl w v t → Vl w' v t := by
  refine Tr.ind ?_
  intro k b s l n ih v h
  cases h with
  | mk g off V hk hs hl hmc hc hA hz hat hcel hel hn =>
    exact Vl.mk g off V hk hs hl hmc hc hA hz hat (fun i hi => (hcel i hi).below hb) (fun i t ht => ih t (List.mem_of_getElem? ht) (hel i t ht)) (hn.below hb)
theorem VL.below {w w' : World} {A : Option Addr} {m c : Nat} {l : List Tr} (h : VL w A m c l) (hb : Below w.heap.size w w') : VL w' A m c l := by
  refine ⟨h.len, h.le, h.max, h.nil, h.small, fun hm => ?_⟩
  obtain ⟨g, off, rfl, hc⟩ := h.row hm
  exact ⟨g, off, rfl, fun i t ht => by
    obtain ⟨v, h1, h2⟩ := hc i t ht
    exact ⟨v, h1.below hb, Vl.up hb t h2⟩⟩
theorem Nm.none_ (w : World) : Nm w none 0 0 [] := ⟨rfl, Nat.le_refl _, Nat.zero_le _, fun _ => rfl, by omega, fun h => absurd rfl h⟩
theorem VL.none_ (w : World) : VL w none 0 0 [] := ⟨rfl, Nat.le_refl _, Nat.zero_le _, fun _ => rfl, by omega, fun h => absurd rfl h⟩
/-- the i-th value of a list: its five cells, and what it reads as -/
theorem VL.look {w : World} {A : Option Addr} {m c : Nat} {l : List Tr} (h : VL w A m c l) {i : Nat} (hi : i < m) : ∃ g off t A' m' c' B' q' d', A = some ⟨g, off, none⟩ ∧ l[i]? = some t ∧
    w.cell? ⟨g, off + i * 5, none⟩ = some (.int .i64 t.kind) ∧ w.cell? ⟨g, off + i * 5 + 1, none⟩ = some (.bool t.isB) ∧ w.cell? ⟨g, off + i * 5 + 2, none⟩ = some (.string t.text) ∧ w.cell? ⟨g, off + i * 5 + 3, none⟩ = some (.slice A' m' c') ∧ w.cell? ⟨g, off + i * 5 + 4, none⟩ = some (.slice B' q' d') ∧
    Vl w (.agg #[.int .i64 t.kind, .bool t.isB, .string t.text, .slice A' m' c', .slice B' q' d']) t := by
  obtain ⟨g, off, rfl, hc⟩ := h.row (by omega)
  have hil : i < l.length := by rw [h.len]; exact hi
  have ht : l[i]? = some l[i] := List.getElem?_eq_getElem hil
  obtain ⟨v, hcel, hv⟩ := hc i _ ht
  obtain ⟨A', m', c', B', q', d', rfl, _⟩ := hv.open_
  obtain ⟨k, b, s, x, y, he, h0, h1, h2, h3, h4⟩ := hcel
  simp only [Value.agg.injEq, Array.mk.injEq, List.cons.injEq, and_true] at he
  obtain ⟨e0, e1, e2, e3, e4⟩ := he
  rw [← e0] at h0; rw [← e1] at h1; rw [← e2] at h2; rw [← e3] at h3; rw [← e4] at h4
  exact ⟨g, off, l[i], A', m', c', B', q', d', rfl, ht, h0, h1, h2, h3, h4, hv⟩
theorem Nm.look {w : World} {A : Option Addr} {m c : Nat} {n : List ByteArray} (h : Nm w A m c n) {i : Nat} (hi : i < m) : ∃ g off s, A = some ⟨g, off, none⟩ ∧ n[i]? = some s ∧ w.cell? ⟨g, off + i, none⟩ = some (.string s) := by
  obtain ⟨g, off, rfl, hc⟩ := h.row (by omega)
  have hil : i < n.length := by rw [h.len]; exact hi
  exact ⟨g, off, n[i], rfl, List.getElem?_eq_getElem hil, hc i _ (List.getElem?_eq_getElem hil)⟩
end Go.Proofs.YtlgeibaejeiemaaDoor.Vt
