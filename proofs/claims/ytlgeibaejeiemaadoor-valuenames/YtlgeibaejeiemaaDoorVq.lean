/-
  What the program's Copy of layer 10 computes: a list that is taken over whole, then put right one by one.
-/
import Derived.Test.YtlgeibaejeiemaaDoorVp
import Derived.Test.YtlgeibaejeiemaaDoorVj
namespace Go.Proofs.YtlgeibaejeiemaaDoor
set_option linter.unusedVariables false
set_option linter.unusedSimpArgs false
open Go.RowKit
namespace Vt
open Wd We

/-- the cells of a list, one behind the other -/
theorem VL.flat {w : World} {g off m c : Nat} {l : List Tr} (h : VL w (some ⟨g, off, none⟩) m c l) :
    ∃ xs : List Value, xs.length = m * 5 ∧ (∀ j u, xs[j]? = some u → w.cell? ⟨g, off + j, none⟩ = some u) ∧ ∀ u ∈ xs, u.oneCell' = true := by
  have each : ∀ j, j < m * 5 → ∃ u, w.cell? ⟨g, off + j, none⟩ = some u ∧ u.oneCell' = true := by
    intro j hj
    have hi : j / 5 < m := by omega
    obtain ⟨g', off', t, A', m', c', B', q', d', hA, _, k0, k1, k2, k3, k4, _⟩ := h.look hi
    injection hA with hA
    injection hA with e1 e2
    subst e1 e2
    rcases (by omega : j % 5 = 0 ∨ j % 5 = 1 ∨ j % 5 = 2 ∨ j % 5 = 3 ∨ j % 5 = 4) with r | r | r | r | r
    · exact ⟨_, by rw [show off + j = off + j / 5 * 5 by omega]; exact k0, rfl⟩
    · exact ⟨_, by rw [show off + j = off + j / 5 * 5 + 1 by omega]; exact k1, rfl⟩
    · exact ⟨_, by rw [show off + j = off + j / 5 * 5 + 2 by omega]; exact k2, rfl⟩
    · exact ⟨_, by rw [show off + j = off + j / 5 * 5 + 3 by omega]; exact k3, rfl⟩
    · exact ⟨_, by rw [show off + j = off + j / 5 * 5 + 4 by omega]; exact k4, rfl⟩
  obtain ⟨f, hf⟩ := pick (α := Value) each
  refine ⟨(List.range (m * 5)).map f, by simp, fun j u hu => ?_, fun u hu => ?_⟩
  · have hj : j < m * 5 := by
      have := (List.getElem?_eq_some_iff.1 hu).1
      simpa using this
    simp [hj] at hu
    rw [← hu]
    exact (hf j hj).1
  · obtain ⟨j, hj, rfl⟩ := List.mem_map.1 hu
    exact (hf j (List.mem_range.1 hj)).2
/-- a list taken over into a block of its own: the values still are those of the old list -/
def LI (e : TypeId) (w0 w w' : World) (v' : Value) (m : Nat) (l : List Tr) : Prop := Below w.heap.size w w' ∧ ∃ (A' : Option Addr) (cap G : Nat) (V : Nat → Value), v' = .slice A' m cap ∧ m ≤ cap ∧ cap ≤ maxLen ∧ (A' = none → cap = 0) ∧ G < w'.heap.size ∧
  (m ≠ 0 → A' = some ⟨G, 0, none⟩ ∧ w.heap.size ≤ G ∧ ∃ cu, w'.heap[G]? = some (.cells cu e (0, 0))) ∧ (∀ i, i < m → Cel w' G (0 + i * 5) (V i)) ∧ ∀ (i : Nat) (t : Tr), l[i]? = some t → Vl w0 (V i) t
theorem below_grown {w w' : World} (h : w.grownBy w' none) : Below w.heap.size w w' := by
  obtain ⟨g1, g2, g3, g4, g5⟩ := h
  exact ⟨g1, g2, g3, g4, fun k hk => g5 k hk (by simp)⟩
theorem LI.none_ {e : TypeId} {w0 w : World} (h0 : 0 < w.heap.size) : LI e w0 w w (.slice none 0 0) 0 [] :=
  ⟨Below.refl _ _, none, 0, 0, fun _ => .nilIface, rfl, Nat.le_refl _, Nat.zero_le _, fun _ => rfl, h0, fun g => absurd rfl g, fun i hi => absurd hi (Nat.not_lt_zero i), fun i t ht => by cases ht⟩
theorem li_own {e : TypeId} {w0 w w' : World} {v' : Value} {m g0 off0 : Nat} {l : List Tr} {xs : List Value} {V : Nat → Value} (h0 : 0 < w.heap.size) (hl : l.length = m) (hown : w'.ownsRow w.heap.size e 5 v' m xs) (hg : w.grownBy w' none)
    (hxs : ∀ j u, xs[j]? = some u → w.cell? ⟨g0, off0 + j, none⟩ = some u) (hcel : ∀ i, i < m → Cel w g0 (off0 + i * 5) (V i)) (hel : ∀ (i : Nat) (t : Tr), l[i]? = some t → Vl w0 (V i) t) : LI e w0 w w' v' m l := by
  obtain ⟨hxl, ⟨rfl, rfl⟩ | ⟨g, cap, cu, rfl, hPg, hgc, hnc, hcm, hcs, htk⟩⟩ := hown
  · have hs := (below_grown hg).size
    exact ⟨below_grown hg, none, 0, 0, V, rfl, Nat.le_refl _, Nat.zero_le _, fun _ => rfl, by omega, fun g => absurd rfl g, fun i hi => absurd hi (Nat.not_lt_zero i), hel⟩
  · have hmv : ∀ j u, j < m * 5 → w.cell? ⟨g0, off0 + j, none⟩ = some u → w'.cell? ⟨g, 0 + j, none⟩ = some u := fun j u hj hu => by
      have hjx : j < xs.length := by omega
      have h1 := hxs j _ (List.getElem?_eq_getElem hjx)
      rw [hu] at h1
      injection h1 with h1
      have h2 : xs[j]? = some u := by rw [List.getElem?_eq_getElem hjx, ← h1]
      rw [← htk, List.getElem?_take, if_pos hj] at h2
      simp only [World.cell?, hgc]
      rw [Nat.zero_add]
      simpa using h2
    refine ⟨below_grown hg, some ⟨g, 0, none⟩, cap, g, V, rfl, hnc, hcm, (fun e => by cases e), (Array.getElem?_eq_some_iff.1 hgc).1, fun _ => ⟨rfl, hPg, cu, hgc⟩, fun i hi => ?_, hel⟩
    obtain ⟨k, b, s, x, y, he, h0, h1, h2, h3, h4⟩ := hcel i hi
    exact ⟨k, b, s, x, y, he, hmv _ _ (by omega) h0, hmv (i * 5 + 1) _ (by omega) h1, hmv (i * 5 + 2) _ (by omega) h2, hmv (i * 5 + 3) _ (by omega) h3, hmv (i * 5 + 4) _ (by omega) h4⟩
/-- values appended to none -/
theorem wp_appV {P : Program} {w : World} {ops : Array Oper} {rest : List Oper} {o : Oper} {a : Act} {Q : Exit → Act → World → Prop} (hgd : o.guard = none) (s x : Operand) (t : TypeId)
    (ho : o.op = .call { callee := .builtin .append, args := #[s, x], argTypes := #[t, t] }) {e : TypeId} {i : TypeInfo} {z : Value} (ht : P.underlying t = some (.slice e)) (hi : P.info? e = some i) (hz : i.zero = some z) (hs1 : i.size = 5) (hby : i.bytes = 80) (hzc : z.cells.size = 5)
    (hs : a.eval s = .slice none 0 0) {A : Option Addr} {m c : Nat} {l : List Tr} (hx : a.eval x = .slice A m c) {w0 : World} (hr0 : VL w0 A m c l) (hb0 : Below w0.heap.size w0 w) (h0 : 0 < w.heap.size)
    (h : ∀ v' w', LI e w0 w w' v' m l → wpList P ops Q rest (a.put o.dst v') w') : wpList P ops Q (o :: rest) a w := by
  have hr := hr0.below hb0
  have hl := hr.len
  rcases A with _ | ad
  · have hc := hr.nil rfl
    subst hc
    obtain rfl : m = 0 := by have := hr.le; omega
    obtain rfl : l = [] := List.eq_nil_of_length_eq_zero hl
    exact wpList_append_own_none hgd s x t ho w.heap.size e i 5 ht hi _ 0 [] hs (World.ownsRow_nil _ _ _ _) hx (h _ w (LI.none_ h0))
  · by_cases hm : m = 0
    · subst hm
      obtain rfl : l = [] := List.eq_nil_of_length_eq_zero hl
      refine wpList_append_own_at (P := P) w hgd s x t ho w.heap.size e i z 5 80 ht hi hz hs1 hby hzc (by omega) _ 0 [] hs (World.ownsRow_nil _ _ _ _) ad 0 c [] hx rfl (fun j u hu => by simp at hu) (fun u hu => by cases hu) (by omega) (by omega) (Nat.le_refl _) ?_
      intro v' w' ho' hg _ hat
      exact h v' w' (li_own (g0 := 0) (off0 := 0) (V := fun _ => .nilIface) h0 rfl ho' hg (fun j u hu => by simp at hu) (fun i hi => absurd hi (Nat.not_lt_zero i)) (fun i t ht => by cases ht))
    · obtain ⟨g, off, V, hat, hcel, hel⟩ := row_to hl hr0.row
      have had := hat hm
      injection had with had
      subst had
      obtain ⟨xs, hxl, hxs, hone⟩ := hr.flat
      refine wpList_append_own_at (P := P) w hgd s x t ho w.heap.size e i z 5 80 ht hi hz hs1 hby hzc (by omega) _ 0 [] hs (World.ownsRow_nil _ _ _ _) _ m c xs hx hxl ?_ hone ?_ ?_ (Nat.le_refl _) ?_
      · intro j u hu
        have h1 := hxs j u hu
        by_cases h0 : j = 0
        · subst h0; simpa [Addr.add] using h1
        · simpa [Addr.add, h0] using h1
      · have := hr.le; have := hr.max; omega
      · have := hr.small; omega
      · intro v' w' ho' hg _ _
        rw [Nat.zero_add, List.nil_append] at ho'
        exact h v' w' (li_own h0 hl ho' hg hxs (fun i hi => (hcel i hi).below hb0) hel)
/-- five cells of a block, stored one by one -/
def put5o (w : World) (G o : Nat) (a b s x y : Value) : World := ((((w.setCell ⟨G, o, none⟩ a).setCell ⟨G, o + 1, none⟩ b).setCell ⟨G, o + 2, none⟩ s).setCell ⟨G, o + 3, none⟩ x).setCell ⟨G, o + 4, none⟩ y
section
variable {w : World} {G o : Nat} {a b s x y : Value}
theorem put5o_heap (z : Nat) (hz : z ≠ G) : (put5o w G o a b s x y).heap[z]? = w.heap[z]? := by
  unfold put5o
  rw [Below.heap_setCell _ _ _ _ hz, Below.heap_setCell _ _ _ _ hz, Below.heap_setCell _ _ _ _ hz, Below.heap_setCell _ _ _ _ hz, Below.heap_setCell _ _ _ _ hz]
theorem put5o_size : (put5o w G o a b s x y).heap.size = w.heap.size := by unfold put5o; simp [World.setCell]
theorem put5o_below {w0 : World} {B : Nat} (h : Below B w0 w) (hG : B ≤ G) : Below B w0 (put5o w G o a b s x y) :=
  ((((h.setCell (p := ⟨G, o, none⟩) hG a).setCell (p := ⟨G, o + 1, none⟩) hG b).setCell (p := ⟨G, o + 2, none⟩) hG s).setCell (p := ⟨G, o + 3, none⟩) hG x).setCell (p := ⟨G, o + 4, none⟩) hG y
theorem set_cellsV {cur : Array Value} {e : TypeId} {fr : Nat × Nat} {p : Addr} (h : w.heap[p.block]? = some (.cells cur e fr)) (u : Value) : ∃ cur', (w.setCell p u).heap[p.block]? = some (.cells cur' e fr) := by
  refine ⟨if p.spot.isSome then cur else cur.setIfInBounds p.off u, ?_⟩
  simp only [World.setCell, Array.getElem?_modify, h]
  simp
theorem put5o_cells {cur : Array Value} {e : TypeId} {fr : Nat × Nat} (h : w.heap[G]? = some (.cells cur e fr)) : ∃ cur', (put5o w G o a b s x y).heap[G]? = some (.cells cur' e fr) := by
  obtain ⟨_, h1⟩ := set_cellsV (p := ⟨G, o, none⟩) h a
  obtain ⟨_, h2⟩ := set_cellsV (p := ⟨G, o + 1, none⟩) h1 b
  obtain ⟨_, h3⟩ := set_cellsV (p := ⟨G, o + 2, none⟩) h2 s
  obtain ⟨_, h4⟩ := set_cellsV (p := ⟨G, o + 3, none⟩) h3 x
  exact set_cellsV (p := ⟨G, o + 4, none⟩) h4 y
theorem ad_ne {p q : Nat} (h : p ≠ q) : (⟨G, p, none⟩ : Addr) ≠ ⟨G, q, none⟩ := fun e => h (by injection e)
theorem cs_other {p q : Nat} (v : Value) (h : p ≠ q) : (w.setCell ⟨G, p, none⟩ v).cell? ⟨G, q, none⟩ = w.cell? ⟨G, q, none⟩ := World.cell?_setCell_other _ _ _ _ (ad_ne h)
theorem cs_same {p : Addr} {u : Value} (v : Value) (h : w.cell? p = some u) : (w.setCell p v).cell? p = some v := World.cell?_setCell_same _ _ _ h
theorem put5o_other {p : Nat} (h : p < o ∨ o + 5 ≤ p) : (put5o w G o a b s x y).cell? ⟨G, p, none⟩ = w.cell? ⟨G, p, none⟩ :=
  (cs_other _ (show o + 4 ≠ p by omega)).trans ((cs_other _ (show o + 3 ≠ p by omega)).trans ((cs_other _ (show o + 2 ≠ p by omega)).trans ((cs_other _ (show o + 1 ≠ p by omega)).trans ((cs_other _ (show o ≠ p by omega)).trans (rfl)))))
theorem put5o_at {v : Value} {k : Int} {bb : Bool} {ss : ByteArray} (h : Cel w G o v) : Cel (put5o w G o (.int .i64 k) (.bool bb) (.string ss) x y) G o (.agg #[.int .i64 k, .bool bb, .string ss, x, y]) := by
  obtain ⟨_, _, _, _, _, _, h0, h1, h2, h3, h4⟩ := h
  refine ⟨k, bb, ss, x, y, rfl, ?_, ?_, ?_, ?_, ?_⟩
  · exact (cs_other _ (show o + 4 ≠ o by omega)).trans ((cs_other _ (show o + 3 ≠ o by omega)).trans ((cs_other _ (show o + 2 ≠ o by omega)).trans ((cs_other _ (show o + 1 ≠ o by omega)).trans (cs_same _ (h0)))))
  · exact (cs_other _ (show o + 4 ≠ o + 1 by omega)).trans ((cs_other _ (show o + 3 ≠ o + 1 by omega)).trans ((cs_other _ (show o + 2 ≠ o + 1 by omega)).trans (cs_same _ ((cs_other _ (show o ≠ o + 1 by omega)).trans (h1)))))
  · exact (cs_other _ (show o + 4 ≠ o + 2 by omega)).trans ((cs_other _ (show o + 3 ≠ o + 2 by omega)).trans (cs_same _ ((cs_other _ (show o + 1 ≠ o + 2 by omega)).trans ((cs_other _ (show o ≠ o + 2 by omega)).trans (h2)))))
  · exact (cs_other _ (show o + 4 ≠ o + 3 by omega)).trans (cs_same _ ((cs_other _ (show o + 2 ≠ o + 3 by omega)).trans ((cs_other _ (show o + 1 ≠ o + 3 by omega)).trans ((cs_other _ (show o ≠ o + 3 by omega)).trans (h3)))))
  · exact cs_same _ ((cs_other _ (show o + 3 ≠ o + 4 by omega)).trans ((cs_other _ (show o + 2 ≠ o + 4 by omega)).trans ((cs_other _ (show o + 1 ≠ o + 4 by omega)).trans ((cs_other _ (show o ≠ o + 4 by omega)).trans (h4)))))
theorem Cel.off {w' : World} {g p : Nat} {v : Value} (h : Cel w g p v) (hc : ∀ r, r < 5 → w'.cell? ⟨g, p + r, none⟩ = w.cell? ⟨g, p + r, none⟩) : Cel w' g p v := by
  obtain ⟨k, bb, ss, x, y, rfl, h0, h1, h2, h3, h4⟩ := h
  exact ⟨k, bb, ss, x, y, rfl, (hc 0 (by omega)).trans h0, (hc 1 (by omega)).trans h1, (hc 2 (by omega)).trans h2, (hc 3 (by omega)).trans h3, (hc 4 (by omega)).trans h4⟩
end
/-- the first i values of a list are put right, each in blocks of its own -/
structure CO (e es : TypeId) (w : World) (P G m i : Nat) (l : List Tr) (V : Nat → Value) (lo hi : Nat → Nat) : Prop where
  blk : ∃ cu, m ≠ 0 → w.heap[G]? = some (.cells cu e (0, 0))
  cel : ∀ j, j < m → Cel w G (0 + j * 5) (V j)
  el : ∀ j t, j < i → l[j]? = some t → OV e es w (fun x => lo j ≤ x ∧ x < hi j) (V j) t
  inn : ∀ j, j < i → P ≤ lo j ∧ hi j ≤ w.heap.size
  asc : ∀ j j', j < j' → j' < i → hi j ≤ lo j'
theorem CO.below {e es : TypeId} {w w' : World} {P G m i : Nat} {l : List Tr} {V : Nat → Value} {lo hi : Nat → Nat} (h : CO e es w P G m i l V lo hi) (hG : G < w.heap.size) (hb : Below w.heap.size w w') : CO e es w' P G m i l V lo hi := by
  obtain ⟨cu, hcu⟩ := h.blk
  exact ⟨⟨cu, fun hm => by rw [hb.block G hG]; exact hcu hm⟩, fun j hj => (h.cel j hj).below hb, fun j t hj ht => (h.el j t hj ht).kept t fun x hx => hb.block x (by have := (h.inn j hj).2; omega), fun j hj => ⟨(h.inn j hj).1, Nat.le_trans (h.inn j hj).2 hb.size⟩, h.asc⟩
theorem CO.step {e es : TypeId} {w w8 : World} {P G m i : Nat} {l : List Tr} {V : Nat → Value} {lo hi : Nat → Nat} {t : Tr} {k : Int} {b : Bool} {s : ByteArray} {x y : Value} (h : CO e es w P G m i l V lo hi) (hG : G < P) (hP : P ≤ w.heap.size)
    (him : i < m) (hb : Below w.heap.size w w8) (ht : l[i]? = some t) (hu : OV e es w8 (fun z => w.heap.size ≤ z ∧ z < w8.heap.size) (.agg #[.int .i64 k, .bool b, .string s, x, y]) t) :
    CO e es (put5o w8 G (0 + i * 5) (.int .i64 k) (.bool b) (.string s) x y) P G m (i + 1) l (fun j => if j = i then .agg #[.int .i64 k, .bool b, .string s, x, y] else V j) (fun j => if j = i then w.heap.size else lo j) (fun j => if j = i then w8.heap.size else hi j) := by
  have hs8 := hb.size
  obtain ⟨cu, hcu⟩ := h.blk
  refine ⟨?_, fun j hj => ?_, fun j t' hj ht' => ?_, fun j hj => ?_, fun j j' hjj hj' => ?_⟩
  · obtain ⟨cu', hcu'⟩ := put5o_cells (o := 0 + i * 5) (a := .int .i64 k) (b := .bool b) (s := .string s) (x := x) (y := y) (show w8.heap[G]? = some (.cells cu e (0, 0)) by rw [hb.block G (by omega)]; exact hcu (by omega))
    exact ⟨cu', fun _ => hcu'⟩
  · have hc := (h.cel j hj).below hb
    by_cases hji : j = i
    · subst hji
      simp only [if_true]
      exact put5o_at hc
    · simp only [if_neg hji]
      exact hc.off fun r hr => put5o_other (by omega)
  · by_cases hji : j = i
    · subst hji
      simp only [if_true]
      obtain rfl : t' = t := by rw [ht] at ht'; injection ht' with ht'; exact ht'.symm
      exact hu.kept t' fun z hz => put5o_heap z (by omega)
    · simp only [if_neg hji]
      have hi2 := h.inn j (by omega)
      refine (h.el j t' (by omega) ht').kept t' fun z hz => ?_
      rw [put5o_heap z (by omega)]
      exact hb.block z (by omega)
  · by_cases hji : j = i
    · simp only [if_pos hji, put5o_size]; omega
    · simp only [if_neg hji, put5o_size]
      have := h.inn j (by omega)
      omega
  · by_cases hji : j' = i
    · have hne : ¬ j = i := by omega
      simp only [if_pos hji, if_neg hne]
      exact (h.inn j (by omega)).2
    · have hne : ¬ j = i := by omega
      simp only [if_neg hji, if_neg hne]
      exact h.asc j j' hjj (by omega)
/-- all are put right: the value -/
theorem CO.fin {e es : TypeId} {w : World} {P G H m : Nat} {k : Int} {b : Bool} {s : ByteArray} {l : List Tr} {n : List ByteArray} {V : Nat → Value} {lo hi : Nat → Nat} {T : Nat → Prop} {A : Option Addr} {c : Nat} {B : Option Addr} {q d : Nat} (h : CO e es w P G m m l V lo hi)
    (hk : -9223372036854775808 ≤ k ∧ k ≤ 9223372036854775807) (hs : s.size ≤ 140737488351232) (hl : l.length = m) (hmc : m ≤ c) (hcm : c ≤ maxLen) (hA : A = none → c = 0) (hz : m * 80 ≤ 140737488351232) (hat : m ≠ 0 → A = some ⟨G, 0, none⟩ ∧ T G)
    (hT : ∀ x, P ≤ x → x < w.heap.size → T x) (hGP : G < P) (hHP : H < P) (hn : Nm w B q d n) (hB : ∃ ch, q ≠ 0 → B = some ⟨H, 0, none⟩ ∧ T H ∧ (m ≠ 0 → H ≠ G) ∧ w.heap[H]? = some (.cells ch es (0, 0))) :
    OV e es w T (.agg #[.int .i64 k, .bool b, .string s, .slice A m c, .slice B q d]) (.mk k b s l n) := by
  obtain ⟨cu, hcu⟩ := h.blk
  obtain ⟨ch, hch⟩ := hB
  by_cases hm : m = 0
  · subst hm
    obtain rfl : l = [] := List.eq_nil_of_length_eq_zero hl
    refine OV.mk (H + 1) H #[] ch (fun _ => .nilIface) (fun _ _ => False) hk hs rfl hmc hcm hA hz (fun g => absurd rfl g) (fun i hi => absurd hi (Nat.not_lt_zero i)) (fun i t ht => by cases ht) (fun i hi => absurd hi (Nat.not_lt_zero i)) (fun i j _ hj => absurd hj (Nat.not_lt_zero j)) hn (fun hq => ?_)
    obtain ⟨h1, h2, h3, h4⟩ := hch hq
    exact ⟨h1, h2, by omega, h4⟩
  · refine OV.mk G H cu ch V (fun j x => lo j ≤ x ∧ x < hi j) hk hs hl hmc hcm hA hz (fun g => ⟨(hat g).1, (hat g).2, hcu g⟩) h.cel (fun i t ht => h.el i t ?_ ht) (fun i hi x hx => ?_) (fun i j hij hj x hx hx' => ?_) hn (fun hq => ?_)
    · have := (List.getElem?_eq_some_iff.1 ht).1; omega
    · have := h.inn i hi
      exact ⟨hT x (by omega) (by omega), by omega, by omega⟩
    · have := h.asc i j hij hj
      omega
    · obtain ⟨h1, h2, h3, h4⟩ := hch hq
      exact ⟨h1, h2, h3 hm, h4⟩
/-- names of the call's own, in the block H -/
structure NK (es : TypeId) (w : World) (B : Option Addr) (q d : Nat) (n : List ByteArray) (H : Nat) : Prop where
  nm : Nm w B q d n
  at_ : q ≠ 0 → B = some ⟨H, 0, none⟩
  blk : ∃ ch, q ≠ 0 → w.heap[H]? = some (.cells ch es (0, 0))
theorem NK.same {es : TypeId} {w w' : World} {B : Option Addr} {q d : Nat} {n : List ByteArray} {H : Nat} (h : NK es w B q d n H) (e : w'.heap[H]? = w.heap[H]?) : NK es w' B q d n H := by
  obtain ⟨ch, hch⟩ := h.blk
  refine ⟨h.nm.same fun g off hB hq => ?_, h.at_, ch, fun hq => by rw [e]; exact hch hq⟩
  rw [h.at_ hq] at hB
  injection hB with hB
  injection hB with e1 e2
  rw [← e1]; exact e
theorem nk_own {es : TypeId} {w : World} {B R : Nat} {A : Option Addr} {m c : Nat} {n : List ByteArray} (h : Nm w A m c n) (ha : m ≠ 0 → ∃ g ch, A = some ⟨g, 0, none⟩ ∧ w.heap[g]? = some (.cells ch es (0, 0))) (hb : ∀ g, (Value.slice A m c).ownBlock = some g → B ≤ g ∧ g < w.heap.size) (hR : R < w.heap.size) (hRB : R < B) :
    ∃ H, NK es w A m c n H ∧ R ≤ H ∧ H < w.heap.size ∧ (m ≠ 0 → R < H) := by
  by_cases hm : m = 0
  · exact ⟨R, ⟨h, fun g => absurd hm g, #[], fun g => absurd hm g⟩, Nat.le_refl _, hR, fun g => absurd hm g⟩
  · obtain ⟨g, ch, rfl, hg⟩ := ha hm
    have := hb g rfl
    exact ⟨g, ⟨h, fun _ => rfl, ch, fun _ => hg⟩, by omega, this.2, fun _ => by omega⟩
/-- none is put right yet -/
theorem CO.start {e es : TypeId} {w7 : World} {P G Q m : Nat} {l : List Tr} {V : Nat → Value} {u : Value} (hG : m ≠ 0 → G ≠ Q ∧ ∃ cu, w7.heap[G]? = some (.cells cu e (0, 0))) (hc : ∀ i, i < m → Cel w7 G (0 + i * 5) (V i)) :
    CO e es (w7.setCell ⟨Q, 3, none⟩ u) P G m 0 l V (fun _ => 0) (fun _ => 0) := by
  have hcu : ∃ cu, m ≠ 0 → w7.heap[G]? = some (.cells cu e (0, 0)) := by
    by_cases hm : m = 0
    · exact ⟨#[], fun g => absurd hm g⟩
    · obtain ⟨_, cu, h⟩ := hG hm
      exact ⟨cu, fun _ => h⟩
  obtain ⟨cu, hcu⟩ := hcu
  have hst : ∀ z, z ≠ Q → (w7.setCell ⟨Q, 3, none⟩ u).heap[z]? = w7.heap[z]? := fun z hz => Below.heap_setCell _ _ _ _ hz
  exact ⟨⟨cu, fun hm => by rw [hst G (hG hm).1]; exact hcu hm⟩, fun j hj => (hc j hj).same (hst G (hG (by omega)).1), fun j t hj => absurd hj (Nat.not_lt_zero j), fun j hj => absurd hj (Nat.not_lt_zero j), fun j j' _ hj => absurd hj (Nat.not_lt_zero j')⟩

set_option maxRecDepth 100000 in
set_option maxHeartbeats 16000000 in
theorem vcopy_any : ∀ (t : Tr) (v : Value) (w : World), Vl w v t → Calls Tryd.prog 21 #[v] w (CpP t w) := by
  refine Tr.ind ?_
  intro k b s l n ih v w hv
  obtain ⟨i0, hif, hz0, hz1, hz2⟩ := info_parts v_info
  obtain ⟨i1, si, sz0, sz1, sz2⟩ := info_parts s_info
  obtain ⟨A, m, c, B, q, d, rfl, hl, hn, hk, hs⟩ := hv.open_
  show Calls _ _ #[.agg #[.int .i64 k, .bool b, .string s, .slice A m c, .slice B q d]] w _
  have IH := Lib.hid (fun (x : Tr) (hx : x ∈ l) (vx : Value) (wx : World) (hvx : Vl wx vx x) => ih x hx vx wx hvx)
  have HL : Hid (VL w A m c l) := Lib.hid hl
  have HN : Hid (Nm w B q d n) := Lib.hid hn
  have hlen : l.length = m := hl.len
  have hmx : m ≤ 1759218604390 := by have := hl.small; omega
  obtain ⟨W1, hW1⟩ : ∃ W1, w.alloc (.cells #[.int .i64 k, .bool b, .string s, .slice A m c, .slice B q d] 25) = W1 := ⟨_, rfl⟩
  obtain ⟨W2, hW2⟩ : ∃ W2, W1.alloc (.cells #[.int .i64 0, .bool false, .string ⟨#[]⟩, .slice none 0 0, .slice none 0 0] 25) = W2 := ⟨_, rfl⟩
  obtain ⟨Q, hQ⟩ : ∃ Q, w.heap.size = Q := ⟨_, rfl⟩
  obtain ⟨R, hR⟩ : ∃ R, Q + 1 = R := ⟨_, rfl⟩
  have z1 : W1.heap.size = R := by rw [← hW1, World.size_alloc, hQ, hR]
  have z2 : W2.heap.size = R + 1 := by rw [← hW2, World.size_alloc, z1]
  have b1 : Below Q w W1 := by rw [← hW1, ← hQ]; exact below_allocV w _
  have b2 : Below R W1 W2 := by rw [← hW2, ← z1]; exact below_allocV W1 _
  have q1 : Bx W1 Q (.int .i64 k) (.bool b) (.string s) (.slice A m c) (.slice B q d) := by rw [← hW1, ← hQ]; exact heap_alloc_new w _
  have r2 : Bx W2 R (.int .i64 0) (.bool false) (.string ⟨#[]⟩) (.slice none 0 0) (.slice none 0 0) := by rw [← hW2, ← z1]; exact heap_alloc_new W1 _
  have q2 := q1.below b2 (by omega)
  have BW := Lib.hid (b1.trans (b2.mono (by omega)))
  have Q2 := Lib.hid q2
  have R2 := Lib.hid r2
  have HW1 := Lib.hid hW1
  have HW2 := Lib.hid hW2
  have HQ := Lib.hid hQ
  have HR := Lib.hid hR
  have Z2 := Lib.hid z2
  have HK := Lib.hid hk
  have HSS0 := Lib.hid hs
  have hQR : Q < R := by omega
  have a3 := q2.c3
  have a4 := q2.c4
  have hq1 : q * 16 ≤ 140737488351232 := hn.small
  have HQ1 := Lib.hid hq1
  have NM2 := Lib.hid (hn.below (show Below w.heap.size w W2 by rw [hQ]; exact BW.out))
  clear ih hv hl hn hk hs hW1 hW2 hQ hR z1 z2 b1 b2 q1 r2 q2
  go_enter Tryd.func21, Tryd.ntmps21
  go_upto_region 1 with fail
  rw [HW1.out, HW2.out, HQ.out, HR.out]
  go_upto_region 2 with (at_builtin; refine wp_appN rfl _ _ _ rfl W2.heap.size Tryd.underlying23 si sz0 sz1 sz2 rfl rfl rfl NM2.out (Nat.le_refl _) ?_; intro Y w5 hown' hgrow hat; obtain ⟨YA, YC, rfl, hnm, hna⟩ := nm_own hown' HN.out.len HQ1.out; have NM5 := Lib.hid hnm; have NA5 := Lib.hid hna; have NB5 := Lib.hid (World.ownsRow.lt hown'); have hb5 := below_grown hgrow; have P5 := Q2.out.below hb5 Q2.out.lt; have R5 := Lib.hid (R2.out.below hb5 R2.out.lt); have B5 := Lib.hid hb5; have fz := P5.fz 4; have cl := P5.c4; have P6 := Lib.hid P5; clear hown' hgrow hat hnm hna hb5 P5)
  have BQ5 : Below Q w w5 := BW.out.trans (B5.out.mono (by have := Z2.out; omega))
  have hs5 := B5.out.size
  obtain ⟨Hh, nk5, hH1, hH2, hH3⟩ := nk_own (R := R) NM5.out NA5.out NB5.out (by have := Z2.out; omega) (by have := Z2.out; omega)
  have P7 := Lib.hid (P6.out.set4 (.slice YA q YC))
  have hst6 : ∀ z, z ≠ Q → (w5.setCell ⟨Q, 4, none⟩ (.slice YA q YC)).heap[z]? = w5.heap[z]? := fun z hz => Below.heap_setCell _ _ _ _ hz
  have R7 := Lib.hid (R5.out.same (hst6 R (by omega)))
  have B7 := Lib.hid (BQ5.setCell (p := ⟨Q, 4, none⟩) (Nat.le_refl Q) (.slice YA q YC))
  have K7 := Lib.hid (nk5.same (hst6 Hh (by omega)))
  have z7 : (w5.setCell ⟨Q, 4, none⟩ (.slice YA q YC)).heap.size = w5.heap.size := by simp [World.setCell]
  have Z7 := Lib.hid z7
  clear a3 a4 fz cl hst6 nk5 BQ5 P6 NM5 NA5 NB5
  generalize w5.setCell ⟨Q, 4, none⟩ (.slice YA q YC) = w6 at *
  have LL : Hid (Below w.heap.size w w6) := Lib.hid (by rw [HQ.out]; exact B7.out)
  have h06 : 0 < w6.heap.size := by have := Z7.out; omega
  have a3 := P7.out.c3
  have HH := Lib.hid (And.intro hH1 (And.intro hH2 hH3))
  have HZ5 := Lib.hid hs5
  clear hs5 z7 hH1 hH2 hH3
  go_upto_region 3 with (at_builtin; refine wp_appV rfl _ _ _ rfl Tryd.underlying22 hif hz0 hz1 hz2 rfl rfl rfl HL.out LL.out h06 ?_; intro Y w7 hli; obtain ⟨hb7, A', cap, G, V, rfl, hmc, hcm, hA', hG, hat, hcel, hel⟩ := hli; have P8 := P7.out.below hb7 P7.out.lt; have fz := P8.fz 3; have cl := P8.c3; have P9 := Lib.hid P8; have B8 := Lib.hid hb7; have HC8 := Lib.hid hcel; have HE8 := Lib.hid hel; have HA8 := Lib.hid hat; have HG8 := Lib.hid hG; have HN8 := Lib.hid hA'; have HM8 := Lib.hid (And.intro hmc hcm); clear hb7 hcel hel hat hG hA' hmc hcm P8)
  have hQ7 : Q < w6.heap.size := P7.out.lt
  have hst8 : ∀ z, z ≠ Q → (w7.setCell ⟨Q, 3, none⟩ (.slice A' m cap)).heap[z]? = w7.heap[z]? := fun z hz => Below.heap_setCell _ _ _ _ hz
  have z8 : (w7.setCell ⟨Q, 3, none⟩ (.slice A' m cap)).heap.size = w7.heap.size := by simp [World.setCell]
  have hs7 := B8.out.size
  have hRQ : R < w6.heap.size := R7.out.lt
  have hHQ : Hh ≠ Q := by have := HH.out.1; omega
  have hH6 : Hh < w6.heap.size := by have := HH.out.2.1; have := Z7.out; omega
  have C0 : Hid (CO 25 9 (w7.setCell ⟨Q, 3, none⟩ (.slice A' m cap)) (w7.heap.size) G m 0 l V (fun _ => 0) (fun _ => 0)) := Lib.hid (CO.start (fun hm => ⟨by have := (HA8.out hm).2.1; omega, (HA8.out hm).2.2⟩) HC8.out)
  have P10 := Lib.hid (P9.out.set3 (.slice A' m cap))
  have R10 := Lib.hid ((R7.out.below B8.out hRQ).same (hst8 R (by omega)))
  have K10 := Lib.hid ((K7.out.same (B8.out.block Hh hH6)).same (hst8 Hh hHQ))
  have B10 := Lib.hid ((B7.out.trans (B8.out.mono (by omega))).setCell (p := ⟨Q, 3, none⟩) (Nat.le_refl Q) (.slice A' m cap))
  have HP : Hid (w7.heap.size ≤ (w7.setCell ⟨Q, 3, none⟩ (.slice A' m cap)).heap.size) := Lib.hid (by rw [z8]; exact Nat.le_refl _)
  have HGP : Hid (G < w7.heap.size ∧ Hh < w7.heap.size ∧ Q < w7.heap.size ∧ R < w7.heap.size) := Lib.hid ⟨HG8.out, by omega, by omega, by omega⟩
  have HAT : Hid (m ≠ 0 → A' = some ⟨G, 0, none⟩ ∧ w6.heap.size ≤ G) := Lib.hid (fun hm => ⟨(HA8.out hm).1, (HA8.out hm).2.1⟩)
  have HV0 : Hid (∀ (j : Nat) (t : Tr), 0 ≤ j → l[j]? = some t → Vl w (V j) t) := Lib.hid (fun j t _ h => HE8.out j t h)
  have H6 := Lib.hid hQ7
  clear fz cl hst8 a3 HA8 HC8 P9 z8 hs7 hRQ hHQ hH6
  generalize w7.setCell ⟨Q, 3, none⟩ (.slice A' m cap) = w8 at *
  have a3 := P10.out.c3
  go_wp2_with fail
  go_loopw [16] (fun iv wr => ∃ (i : Nat) (V : Nat → Value) (lo hi : Nat → Nat), iv = .int .i64 i ∧ i ≤ m ∧ Hid (CO 25 9 wr (w7.heap.size) G m i l V lo hi) ∧ Hid (∀ (j : Nat) (t : Tr), i ≤ j → l[j]? = some t → Vl w (V j) t) ∧ Hid (Bx wr Q (.int .i64 k) (.bool b) (.string s) (.slice A' m cap) (.slice YA q YC)) ∧ Hid (Bx wr R (.int .i64 0) (.bool false) (.string ⟨#[]⟩) (.slice none 0 0) (.slice none 0 0)) ∧ Hid (NK 9 wr YA q YC n Hh) ∧ Hid (Below Q w wr) ∧ Hid (w7.heap.size ≤ wr.heap.size)) (fun iv _ => m - (intOf iv).toNat)
  case atStart => exact ⟨0, V, _, _, rfl, by omega, C0, HV0, P10, R10, K10, B10, HP⟩
  case round =>
    clear C0 HV0 P10 R10 K10 B10 HP a3
    obtain ⟨i, V, lo, hi, rfl, hi', HC, HV, HBQ, HBR, HNK, HBW, HP⟩ := hrel
    by_cases him : i < m
    · have i1 : (i : Int) < (m : Int) := by omega
      obtain rfl := (HAT.out (by omega)).1
      have hil : i < l.length := by omega
      obtain ⟨x, hx⟩ : ∃ x, l[i]? = some x := ⟨_, List.getElem?_eq_getElem hil⟩
      have hvx := HV.out i x (Nat.le_refl _) hx
      have hcel := HC.out.cel i him
      obtain ⟨X1, x2, x3, X4, x5, x6, hve, _⟩ := hvx.open_
      rw [hve] at hcel hvx
      obtain ⟨_, _, _, _, _, he, k0, k1, k2, k3, k4⟩ := hcel
      simp only [Value.agg.injEq, Array.mk.injEq, List.cons.injEq, and_true, Value.int.injEq, Value.bool.injEq, Value.string.injEq, true_and] at he
      obtain ⟨e0, e1, e2, e3, e4⟩ := he
      subst e0 e1 e2 e3 e4
      rw [Nat.zero_add] at k0 k1 k2 k3 k4
      have HX := Lib.hid hx
      have HVX := Lib.hid hvx
      obtain ⟨xk, hxk⟩ : ∃ v, x.kind = v := ⟨_, rfl⟩
      obtain ⟨xb, hxb⟩ : ∃ v, x.isB = v := ⟨_, rfl⟩
      obtain ⟨xt, hxt⟩ : ∃ v, x.text = v := ⟨_, rfl⟩
      rw [hxk] at k0 HVX
      rw [hxb] at k1 HVX
      rw [hxt] at k2 HVX
      have HXK := Lib.hid (And.intro hxk (And.intro hxb hxt))
      clear hx hvx hve hxk hxb hxt
      obtain ⟨R1, hR1⟩ : ∃ R, wr.heap.size = R := ⟨_, rfl⟩
      obtain ⟨U1, hU1⟩ : ∃ U, wr.alloc (.cells #[.int .i64 0, .bool false, .string ⟨#[]⟩, .slice none 0 0, .slice none 0 0] 25) = U := ⟨_, rfl⟩
      obtain ⟨nb, nb2⟩ := newbox hR1 hU1
      obtain ⟨nb3, nb4, nb5⟩ := nb2 (.int .i64 xk) (.bool xb) (.string xt) (.slice X1 x2 x3) (.slice X4 x5 x6)
      have e0 := nb.c0; have e1 := nb.c1; have e2 := nb.c2; have e3 := nb.c3; have e4 := nb.c4
      have f0 := nb.fz 0; have f1 := nb.fz 1; have f2 := nb.fz 2; have f3 := nb.fz 3; have f4 := nb.fz 4
      obtain ⟨V1, hV1⟩ : ∃ V, put5 U1 R1 (.int .i64 xk) (.bool xb) (.string xt) (.slice X1 x2 x3) (.slice X4 x5 x6) = V := ⟨_, rfl⟩
      rw [hV1] at nb3 nb4 nb5
      have HV1 := Lib.hid hV1
      have HR1 := Lib.hid hR1
      have N1 := Lib.hid nb3
      have NB1 := Lib.hid nb4
      have NS1 := Lib.hid nb5
      clear hV1 nb nb2 nb3 nb4 nb5
      go_upto_region 6 with fail
      rw [show ((((U1.setCell ⟨R1, 0, none⟩ (.int .i64 xk)).setCell ⟨R1, 1, none⟩ (.bool xb)).setCell ⟨R1, 2, none⟩ (.string xt)).setCell ⟨R1, 3, none⟩ (.slice X1 x2 x3)).setCell ⟨R1, 4, none⟩ (.slice X4 x5 x6) = V1 from HV1.out]
      clear e0 e1 e2 e3 e4 f0 f1 f2 f3 f4 hU1
      have hd0 : Below V1.heap.size V1 V1.drew := ⟨rfl, rfl, rfl, Nat.le_refl _, fun _ _ => rfl⟩
      have hww : Below w.heap.size w wr := by rw [HQ.out]; exact HBW.out
      have CT := IH.out x (List.mem_of_getElem? HX.out) _ V1.drew (Vl.up (extV (extV hww NB1.out) hd0) x HVX.out)
      have q3 := (HBQ.out.below NB1.out HBQ.out.lt).c3
      have g0 := N1.out.c0; have g1 := N1.out.c1; have g2 := N1.out.c2; have g3 := N1.out.c3; have g4 := N1.out.c4
      have HSS : V1.drew.cell? ⟨Q, 3, none⟩ = some (.slice (some ⟨G, 0, none⟩) m cap) ∧ V1.drew.cell? ⟨R1, 0, none⟩ = some (.int .i64 xk) ∧ V1.drew.cell? ⟨R1, 1, none⟩ = some (.bool xb) ∧ V1.drew.cell? ⟨R1, 2, none⟩ = some (.string xt) ∧ V1.drew.cell? ⟨R1, 3, none⟩ = some (.slice X1 x2 x3) ∧ V1.drew.cell? ⟨R1, 4, none⟩ = some (.slice X4 x5 x6) := ⟨q3, g0, g1, g2, g3, g4⟩
      refine region_calm (fun w' => w'.cell? ⟨Q, 3, none⟩ = some (.slice (some ⟨G, 0, none⟩) m cap) ∧ w'.cell? ⟨R1, 0, none⟩ = some (.int .i64 xk) ∧ w'.cell? ⟨R1, 1, none⟩ = some (.bool xb) ∧ w'.cell? ⟨R1, 2, none⟩ = some (.string xt) ∧ w'.cell? ⟨R1, 3, none⟩ = some (.slice X1 x2 x3) ∧ w'.cell? ⟨R1, 4, none⟩ = some (.slice X4 x5 x6)) [0, 1, 2, 3] (by kernel_rfl) ?_
      refine any_takeD 0 21 (.pointer (some ⟨Q, 3, none⟩)) rfl rfl (by kernel_rfl) (by kernel_rfl) (by kernel_rfl) (by kernel_rfl) (fun _ _ _ h => h) (by rfl) ?_ HSS ?_
      · rintro w' ⟨q1, q2, q3, q4, q5, q6⟩; go_simp
      simp only [Act.put, List.setIfInBounds_toArray, List.set_cons_zero, List.set_cons_succ]
      refine any_takeD 1 22 (.slice (some ⟨G, 0, none⟩) m cap) rfl rfl (by kernel_rfl) (by kernel_rfl) (by kernel_rfl) (by kernel_rfl) (fun _ _ _ h => h) (by rfl) ?_ HSS ?_
      · rintro w' ⟨q1, q2, q3, q4, q5, q6⟩; go_simp
      simp only [Act.put, List.setIfInBounds_toArray, List.set_cons_zero, List.set_cons_succ]
      refine any_takeD 2 23 (.int .i64 (i : Int)) rfl rfl (by kernel_rfl) (by kernel_rfl) (by kernel_rfl) (by kernel_rfl) (fun _ _ _ h => h) (by rfl) ?_ HSS ?_
      · rintro w' ⟨q1, q2, q3, q4, q5, q6⟩; go_simp
      simp only [Act.put, List.setIfInBounds_toArray, List.set_cons_zero, List.set_cons_succ]
      refine any_takeD 3 24 (.agg #[.int .i64 xk, .bool xb, .string xt, .slice X1 x2 x3, .slice X4 x5 x6]) rfl rfl (by kernel_rfl) (by kernel_rfl) (by kernel_rfl) (by kernel_rfl) (fun _ _ _ h => h) (by rfl) ?_ HSS ?_
      · rintro w' ⟨q1, q2, q3, q4, q5, q6⟩; go_simp
      simp only [Act.put, List.setIfInBounds_toArray, List.set_cons_zero, List.set_cons_succ]
      refine any_callV 4 25 (by kernel_rfl) rfl rfl (by rfl) (fn := 21) (args := #[.agg #[.int .i64 xk, .bool xb, .string xt, .slice X1 x2 x3, .slice X4 x5 x6]]) ?_ CT ?_
      · go_simp
      rintro e w8' ⟨A8, m8, c8, B8', q8, d8, rfl, hb8, ho8⟩
      rw [HXK.out.1, HXK.out.2.1, HXK.out.2.2] at ho8 ⊢
      have hb9 : Below wr.heap.size wr w8' := extV NB1.out (extV hd0 hb8)
      have hbV : Below V1.heap.size V1 w8' := extV hd0 hb8
      have Q8 := HBQ.out.below hb9 HBQ.out.lt
      have M8 := N1.out.below hbV N1.out.lt
      have HS8 : w8'.cell? ⟨Q, 3, none⟩ = some (.slice (some ⟨G, 0, none⟩) m cap) ∧ w8'.cell? ⟨R1, 0, none⟩ = some (.int .i64 xk) ∧ w8'.cell? ⟨R1, 1, none⟩ = some (.bool xb) ∧ w8'.cell? ⟨R1, 2, none⟩ = some (.string xt) ∧ w8'.cell? ⟨R1, 3, none⟩ = some (.slice X1 x2 x3) ∧ w8'.cell? ⟨R1, 4, none⟩ = some (.slice X4 x5 x6) := ⟨Q8.c3, M8.c0, M8.c1, M8.c2, M8.c3, M8.c4⟩
      refine ⟨_, rfl, .inr HS8, ?_⟩
      simp only [Act.put, List.setIfInBounds_toArray, List.set_cons_zero, List.set_cons_succ]
      refine any_runD 5 26 (.pointer (some ⟨G, i * 5, none⟩)) w8' (by kernel_rfl) rfl rfl (by rfl) ?_ (.inr HS8) ?_
      · go_simp
      simp only [Act.put, List.setIfInBounds_toArray, List.set_cons_zero, List.set_cons_succ]
      have hGw : G < wr.heap.size := by have := HGP.out.1; have := HP.out; omega
      have C9 := HC.out.below hGw hb9
      have hc9 := C9.cel i him
      obtain ⟨_, _, _, _, _, _, j0, j1, j2, j3, j4⟩ := hc9
      rw [Nat.zero_add] at j0 j1 j2 j3 j4
      obtain ⟨cu, hcu⟩ := C9.blk
      have hg9 := hcu (by omega)
      have fz0 : ∀ o, w8'.frozen? ⟨G, o, none⟩ = false := fun o => by simp [World.frozen?, hg9]
      have ff0 := fz0 (i * 5); have ff1 := fz0 (i * 5 + 1); have ff2 := fz0 (i * 5 + 2); have ff3 := fz0 (i * 5 + 3); have ff4 := fz0 (i * 5 + 4)
      refine any_run0 6 (((((w8'.setCell ⟨G, i * 5, none⟩ (.int .i64 xk)).setCell ⟨G, i * 5 + 1, none⟩ (.bool xb)).setCell ⟨G, i * 5 + 2, none⟩ (.string xt)).setCell ⟨G, i * 5 + 3, none⟩ (.slice A8 m8 c8)).setCell ⟨G, i * 5 + 4, none⟩ (.slice B8' q8 d8)) (by kernel_rfl) rfl rfl (by rfl) ?_ (.inl (late_of (by kernel_rfl))) ?_
      · go_simp
      refine any_done (by kernel_rfl) ?_ _
      refine calm_normal ?_
      have hsV : V1.heap.size ≤ w8'.heap.size := hbV.size
      have C10 := CO.step (y := .slice B8' q8 d8) HC.out HGP.out.1 HP.out him hb9 HX.out (ho8.mono fun z hz => ⟨by have := NB1.out.size; have : V1.drew.heap.size = V1.heap.size := rfl; omega, hz.2⟩)
      rw [Nat.zero_add] at C10
      rw [show ((((w8'.setCell ⟨G, i * 5, none⟩ (.int .i64 xk)).setCell ⟨G, i * 5 + 1, none⟩ (.bool xb)).setCell ⟨G, i * 5 + 2, none⟩ (.string xt)).setCell ⟨G, i * 5 + 3, none⟩ (.slice A8 m8 c8)).setCell ⟨G, i * 5 + 4, none⟩ (.slice B8' q8 d8) = put5o w8' G (i * 5) (.int .i64 xk) (.bool xb) (.string xt) (.slice A8 m8 c8) (.slice B8' q8 d8) from rfl]
      have hst : ∀ z, z ≠ G → (put5o w8' G (i * 5) (.int .i64 xk) (.bool xb) (.string xt) (.slice A8 m8 c8) (.slice B8' q8 d8)).heap[z]? = w8'.heap[z]? := fun z hz => put5o_heap z hz
      have hsz : (put5o w8' G (i * 5) (.int .i64 xk) (.bool xb) (.string xt) (.slice A8 m8 c8) (.slice B8' q8 d8)).heap.size = w8'.heap.size := put5o_size
      have hG6 := (HAT.out (by omega)).2
      have HC1 := Lib.hid C10
      have HV1 : Hid (∀ (j : Nat) (t : Tr), i + 1 ≤ j → l[j]? = some t → Vl w ((fun j => if j = i then .agg #[.int .i64 xk, .bool xb, .string xt, .slice A8 m8 c8, .slice B8' q8 d8] else V j) j) t) := Lib.hid (fun j t hj ht => by
        have hne : ¬ j = i := by omega
        simp only [if_neg hne]
        exact HV.out j t (by omega) ht)
      have Q9 := Lib.hid (Q8.same (hst Q (by have := H6.out; omega)))
      have R9 := Lib.hid ((HBR.out.below hb9 HBR.out.lt).same (hst R (by have := R7.out.lt; omega)))
      have K9 := Lib.hid ((HNK.out.same (hb9.block Hh (by have := HGP.out.2.1; have := HP.out; omega))).same (hst Hh (by have := HH.out.2.1; have := Z7.out; omega)))
      have B9 := Lib.hid (put5o_below (o := i * 5) (a := .int .i64 xk) (b := .bool xb) (s := .string xt) (x := .slice A8 m8 c8) (y := .slice B8' q8 d8) (HBW.out.trans (hb9.mono (by have := HBQ.out.lt; omega))) (show Q ≤ G by have := H6.out; omega))
      have HP9 : Hid (w7.heap.size ≤ (put5o w8' G (i * 5) (.int .i64 xk) (.bool xb) (.string xt) (.slice A8 m8 c8) (.slice B8' q8 d8)).heap.size) := Lib.hid (by rw [hsz]; have := HP.out; have := hb9.size; omega)
      clear j0 j1 j2 j3 j4 k0 k1 k2 k3 k4 ff0 ff1 ff2 ff3 ff4 fz0 hg9 hcu C9 C10 hst hsz HS8 Q8 M8 HSS q3 g0 g1 g2 g3 g4 ho8 hb8 hb9 hbV
      generalize put5o w8' G (i * 5) (.int .i64 xk) (.bool xb) (.string xt) (.slice A8 m8 c8) (.slice B8' q8 d8) = w9 at *
      go_wp2_with fail
      exact ⟨⟨i + 1, _, _, _, by go_num, by omega, HC1, HV1, Q9, R9, K9, B9, HP9⟩, by simp [intOf]; omega⟩
    · obtain rfl : m = i := by omega
      have e0 := HBQ.out.c0; have e1 := HBQ.out.c1; have e2 := HBQ.out.c2; have e3 := HBQ.out.c3; have e4 := HBQ.out.c4
      have f0 := HBR.out.fz 0; have f1 := HBR.out.fz 1; have f2 := HBR.out.fz 2; have f3 := HBR.out.fz 3; have f4 := HBR.out.fz 4
      have d0 := HBR.out.c0; have d1 := HBR.out.c1; have d2 := HBR.out.c2; have d3 := HBR.out.c3; have d4 := HBR.out.c4
      have hsm : m * 80 ≤ 140737488351232 := HL.out.small
      obtain ⟨ch, hch⟩ := HNK.out.blk
      have hfin := CO.fin (k := k) (b := b) (s := s) (A := A') (c := cap) (T := fun x => R < x ∧ x < wr.heap.size) HC.out HK.out HSS0.out hlen HM8.out.1 HM8.out.2 HN8.out hsm (fun hm => ⟨(HAT.out hm).1, by have := (HAT.out hm).2; have := R7.out.lt; omega, by have := HGP.out.1; have := HP.out; omega⟩) (fun x h1 h2 => ⟨by have := HGP.out; omega, h2⟩) HGP.out.1 HGP.out.2.1 HNK.out.nm
        ⟨ch, fun hq => ⟨HNK.out.at_ hq, ⟨HH.out.2.2 hq, by have := HGP.out.2.1; have := HP.out; omega⟩, (fun hm => by have := (HAT.out hm).2; have := HH.out.2.1; have := Z7.out; omega), hch hq⟩⟩
      have HF := Lib.hid hfin
      clear hfin hch hsm
      go_wp2_with fail
      rw [show ((((wr.setCell ⟨R, 0, none⟩ (.int .i64 k)).setCell ⟨R, 1, none⟩ (.bool b)).setCell ⟨R, 2, none⟩ (.string s)).setCell ⟨R, 3, none⟩ (.slice A' m cap)).setCell ⟨R, 4, none⟩ (.slice YA q YC) = put5 wr R (.int .i64 k) (.bool b) (.string s) (.slice A' m cap) (.slice YA q YC) from rfl]
      have RZ := put5_bx (a := .int .i64 k) (b := .bool b) (s := .string s) (x := .slice A' m cap) (y := .slice YA q YC) HBR.out
      have BZ := put5_below (a := .int .i64 k) (b := .bool b) (s := .string s) (x := .slice A' m cap) (y := .slice YA q YC) (R := R) HBW.out (by omega)
      have hstz : ∀ z, z ≠ R → (put5 wr R (.int .i64 k) (.bool b) (.string s) (.slice A' m cap) (.slice YA q YC)).heap[z]? = wr.heap[z]? := fun z hz => put5_heap z hz
      have hszz : (put5 wr R (.int .i64 k) (.bool b) (.string s) (.slice A' m cap) (.slice YA q YC)).heap.size = wr.heap.size := put5_size
      clear e0 e1 e2 e3 e4 f0 f1 f2 f3 f4 d0 d1 d2 d3 d4
      generalize put5 wr R (.int .i64 k) (.bool b) (.string s) (.slice A' m cap) (.slice YA q YC) = w9 at *
      have e0 := RZ.c0
      have e1 := RZ.c1
      have e2 := RZ.c2
      have e3 := RZ.c3
      have e4 := RZ.c4
      refine bodyPost_ret (v := .agg #[.int .i64 k, .bool b, .string s, .slice A' m cap, .slice YA q YC]) ?_ rfl ⟨A', m, cap, YA, q, YC, rfl, by rw [HQ.out]; exact BZ, ?_⟩
      · simp only [results]
        go_simp
      · refine (HF.out.kept (.mk k b s l n) fun x hx => hstz x (by omega)).mono fun x hx => ?_
        have := HQ.out
        omega
end Vt
end Go.Proofs.YtlgeibaejeiemaaDoor
