/-
  A value whose lists all lie in blocks of their own. Nothing of the program is named here.
-/
import Derived.Test.YtlgeibaejeiemaaDoorVc
namespace Go.Proofs.YtlgeibaejeiemaaDoor.Vt
set_option linter.unusedVariables false
set_option linter.unusedSimpArgs false
open Go.RowKit Wd

/-- a value of which each list lies in a block of its own, one of these -/
inductive OV (e es : TypeId) (w : World) : (Nat → Prop) → Value → Tr → Prop
  | mk {S : Nat → Prop} {k : Int} {b : Bool} {s : ByteArray} {A : Option Addr} {m c : Nat} {B : Option Addr} {q d : Nat} {l : List Tr} {n : List ByteArray} (g h : Nat) (cu ch : Array Value) (V : Nat → Value) (D : Nat → Nat → Prop)
    (hk : -9223372036854775808 ≤ k ∧ k ≤ 9223372036854775807) (hs : s.size ≤ 140737488351232)
    (hl : l.length = m) (hmc : m ≤ c) (hc : c ≤ maxLen) (hA : A = none → c = 0) (hz : m * 80 ≤ 140737488351232)
    (hat : m ≠ 0 → A = some ⟨g, 0, none⟩ ∧ S g ∧ w.heap[g]? = some (.cells cu e (0, 0))) (hcel : ∀ i, i < m → Cel w g (0 + i * 5) (V i))
    (hel : ∀ (i : Nat) (t : Tr), l[i]? = some t → OV e es w (D i) (V i) t)
    (hD : ∀ i, i < m → ∀ x, D i x → S x ∧ x ≠ g ∧ x ≠ h) (hdis : ∀ i j, i < j → j < m → ∀ x, D i x → ¬ D j x)
    (hn : Nm w B q d n) (hnat : q ≠ 0 → B = some ⟨h, 0, none⟩ ∧ S h ∧ h ≠ g ∧ w.heap[h]? = some (.cells ch es (0, 0))) : OV e es w S (.agg #[.int .i64 k, .bool b, .string s, .slice A m c, .slice B q d]) (.mk k b s l n)
theorem OV.vl {e es : TypeId} {w : World} : ∀ (t : Tr) {S : Nat → Prop} {v : Value}, OV e es w S v t → Vl w v t := by
  refine Tr.ind ?_
  intro k b s l n ih S v h
  cases h with
  | mk g h cu ch V D hk hs hl hmc hc hA hz hat hcel hel hD hdis hn hnat =>
    exact Vl.mk g 0 V hk hs hl hmc hc hA hz (fun hm => (hat hm).1) hcel (fun i t ht => ih t (List.mem_of_getElem? ht) (hel i t ht)) hn
theorem cell_same {w w' : World} {b : Nat} (h : w'.heap[b]? = w.heap[b]?) (o : Nat) : w'.cell? ⟨b, o, none⟩ = w.cell? ⟨b, o, none⟩ := World.cell?_of_block (a := ⟨b, o, none⟩) h
theorem Cel.same {w w' : World} {g o : Nat} {v : Value} (h : Cel w g o v) (hg : w'.heap[g]? = w.heap[g]?) : Cel w' g o v := by
  obtain ⟨k, b, s, x, y, rfl, h0, h1, h2, h3, h4⟩ := h
  exact ⟨k, b, s, x, y, rfl, (cell_same hg _).trans h0, (cell_same hg _).trans h1, (cell_same hg _).trans h2, (cell_same hg _).trans h3, (cell_same hg _).trans h4⟩
theorem Nm.same {w w' : World} {A : Option Addr} {m c : Nat} {n : List ByteArray} (h : Nm w A m c n) (hg : ∀ g off, A = some ⟨g, off, none⟩ → m ≠ 0 → w'.heap[g]? = w.heap[g]?) : Nm w' A m c n := by
  refine ⟨h.len, h.le, h.max, h.nil, h.small, fun hm => ?_⟩
  obtain ⟨g, off, hA, hc⟩ := h.row hm
  exact ⟨g, off, hA, fun i s hs => (cell_same (hg g off hA hm) _).trans (hc i s hs)⟩
/-- what its blocks hold is all that it hangs on -/
theorem OV.kept {e es : TypeId} {w w' : World} : ∀ (t : Tr) {S : Nat → Prop} {v : Value}, OV e es w S v t → (∀ x, S x → w'.heap[x]? = w.heap[x]?) → OV e es w' S v t := by
  refine Tr.ind ?_
  intro k b s l n ih S v h hw
  cases h with
  | mk g h cu ch V D hk hs hl hmc hc hA hz hat hcel hel hD hdis hn hnat =>
    refine OV.mk g h cu ch V D hk hs hl hmc hc hA hz (fun hm => ?_) (fun i hi => ?_) (fun i t ht => ?_) hD hdis (hn.same fun g' off' hB hq => ?_) (fun hq => ?_)
    · obtain ⟨h1, h2, h3⟩ := hat hm
      exact ⟨h1, h2, (hw g h2).trans h3⟩
    · exact (hcel i hi).same (hw g (hat (by omega)).2.1)
    · have hi := Nat.lt_of_lt_of_eq (List.getElem?_eq_some_iff.1 ht).1 hl
      exact ih t (List.mem_of_getElem? ht) (hel i t ht) (fun x hx => hw x (hD i hi x hx).1)
    · obtain ⟨h1, h2, _⟩ := hnat hq
      rw [h1] at hB
      injection hB with hB
      injection hB with hB _
      rw [← hB]; exact hw h h2
    · obtain ⟨h1, h2, h3, h4⟩ := hnat hq
      exact ⟨h1, h2, h3, (hw h h2).trans h4⟩
theorem OV.mono {e es : TypeId} {w : World} {S T : Nat → Prop} {v : Value} {t : Tr} (h : OV e es w S v t) (hST : ∀ x, S x → T x) : OV e es w T v t := by
  cases h with
  | mk g h cu ch V D hk hs hl hmc hc hA hz hat hcel hel hD hdis hn hnat =>
    exact OV.mk g h cu ch V D hk hs hl hmc hc hA hz (fun hm => ⟨(hat hm).1, hST _ (hat hm).2.1, (hat hm).2.2⟩) hcel hel (fun i hi x hx => ⟨hST x (hD i hi x hx).1, (hD i hi x hx).2⟩) hdis hn
      (fun hq => ⟨(hnat hq).1, hST _ (hnat hq).2.1, (hnat hq).2.2⟩)
end Go.Proofs.YtlgeibaejeiemaaDoor.Vt
