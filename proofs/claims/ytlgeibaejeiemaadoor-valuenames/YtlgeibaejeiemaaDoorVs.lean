/-
  What the statements' spoil of layer 10 does: a value's lists are spoilt, and nothing else.
-/
import Derived.Test.YtlgeibaejeiemaaDoorVr
namespace Go.Proofs.YtlgeibaejeiemaaDoor
set_option linter.unusedVariables false
set_option linter.unusedSimpArgs false
open Go.RowKit
namespace Vt
open Wd We

/-- one more, as the machine reckons -/
def bk (k : Int) : Int := IntKind.i64.wrap (k + 1)
theorem bk_in (k : Int) : -9223372036854775808 ≤ bk k ∧ bk k ≤ 9223372036854775807 := by unfold bk; rw [IntKind.wrap_i64]; omega
theorem bk_ne {k : Int} (h : -9223372036854775808 ≤ k ∧ k ≤ 9223372036854775807) : bk k ≠ k := by unfold bk; rw [IntKind.wrap_i64]; omega
def bump : Tr → Tr | .mk k b s l n => .mk (bk k) b s l n
mutual
/-- a value whose lists are spoilt -/
def spT : Tr → Tr
  | .mk k b s l n => .mk k b s (spL l) (n.map (· ++ ⟨#[120]⟩))
def spL : List Tr → List Tr
  | [] => []
  | t :: l => bump (spT t) :: spL l
end
theorem spL_map (l : List Tr) : spL l = l.map (fun t => bump (spT t)) := by
  induction l with
  | nil => rw [spL]; rfl
  | cons a l ih => rw [spL, ih]; rfl
theorem spT_mk (k : Int) (b : Bool) (s : ByteArray) (l : List Tr) (n : List ByteArray) : spT (.mk k b s l n) = .mk k b s (l.map (fun t => bump (spT t))) (n.map (· ++ ⟨#[120]⟩)) := by rw [spT, spL_map]
theorem spT_kind (t : Tr) : (spT t).kind = t.kind := by cases t; rw [spT_mk]; rfl
theorem spT_isB (t : Tr) : (spT t).isB = t.isB := by cases t; rw [spT_mk]; rfl
theorem spT_text (t : Tr) : (spT t).text = t.text := by cases t; rw [spT_mk]; rfl
/-- what was spoilt is another value, if there was something to spoil -/
theorem spT_ne {t : Tr} (hk : ∀ x ∈ t.list, -9223372036854775808 ≤ x.kind ∧ x.kind ≤ 9223372036854775807) (h : t.list ≠ [] ∨ t.names ≠ []) : spT t ≠ t := by
  cases t with | mk k b s l n =>
  rw [spT_mk]
  intro g
  injection g with _ _ _ g1 g2
  rcases h with h | h
  · cases l with
    | nil => exact h rfl
    | cons a l =>
      rw [List.map_cons] at g1
      injection g1 with g1 _
      have h1 := congrArg Tr.kind g1
      have h2 : (bump (spT a)).kind = bk a.kind := by rw [← spT_kind a]; cases spT a; rfl
      rw [h2] at h1
      exact bk_ne (hk a List.mem_cons_self) h1
  · cases n with
    | nil => exact h rfl
    | cons a n =>
      rw [List.map_cons] at g2
      injection g2 with g2 _
      have h1 := congrArg ByteArray.size g2
      rw [ByteArray.size_append] at h1
      have h2 : (⟨#[120]⟩ : ByteArray).size = 1 := rfl
      omega
/-- a value with another kind -/
theorem OV.kind {e es : TypeId} {w : World} {S : Nat → Prop} {t : Tr} {k' k : Int} {b s x y : Value} (h : OV e es w S (.agg #[.int .i64 k', b, s, x, y]) t) (hk : -9223372036854775808 ≤ k ∧ k ≤ 9223372036854775807) :
    OV e es w S (.agg #[.int .i64 k, b, s, x, y]) (.mk k t.isB t.text t.list t.names) := by
  cases h with
  | mk g h cu ch V D _ hs hl hmc hc hA hz hat hcel hel hD hdis hn hnat => exact OV.mk g h cu ch V D hk hs hl hmc hc hA hz hat hcel hel hD hdis hn hnat
theorem bump_eq (t : Tr) : bump t = .mk (bk t.kind) t.isB t.text t.list t.names := by cases t; rfl
/-- a list of which the first i values are spoilt -/
structure SI (e es : TypeId) (w : World) (g m i : Nat) (l : List Tr) (V : Nat → Value) (D : Nat → Nat → Prop) : Prop where
  blk : ∃ cu, m ≠ 0 → w.heap[g]? = some (.cells cu e (0, 0))
  cel : ∀ j, j < m → Cel w g (0 + j * 5) (V j)
  done : ∀ j t, j < i → l[j]? = some t → OV e es w (D j) (V j) (bump (spT t))
  todo : ∀ j t, i ≤ j → l[j]? = some t → OV e es w (D j) (V j) t
/-- where a spoilt value's blocks may lie, and what else stays -/
def Keeps (S : Nat → Prop) (w w' : World) : Prop := Below 0 w w' ∧ ∀ x, x < w.heap.size → ¬ S x → w'.heap[x]? = w.heap[x]?
theorem Keeps.refl (S : Nat → Prop) (w : World) : Keeps S w w := ⟨Below.refl _ _, fun _ _ _ => rfl⟩
theorem Keeps.trans {S : Nat → Prop} {a b c : World} (h : Keeps S a b) (k : Keeps S b c) : Keeps S a c := ⟨h.1.trans k.1, fun x h1 h2 => by rw [k.2 x (by have := h.1.size; omega) h2, h.2 x h1 h2]⟩
theorem Keeps.mono {S T : Nat → Prop} {a b : World} (h : Keeps S a b) (hST : ∀ x, S x → T x) : Keeps T a b := ⟨h.1, fun x h1 h2 => h.2 x h1 (fun g => h2 (hST x g))⟩
theorem Keeps.below {S : Nat → Prop} {a b : World} {B : Nat} (h : Keeps S a b) (hB : B ≤ a.heap.size) (hS : ∀ x, x < B → ¬ S x) : Below B a b := by
  obtain ⟨⟨h1, h2, h3, h4, _⟩, h5⟩ := h
  exact ⟨h1, h2, h3, h4, fun k hk => h5 k (by omega) (hS k hk)⟩
theorem keeps_below {S : Nat → Prop} {a b : World} (h : Below a.heap.size a b) : Keeps S a b := ⟨h.mono (Nat.zero_le _), fun x h1 _ => h.block x h1⟩
theorem keeps_set {S : Nat → Prop} (w : World) (p : Addr) (u : Value) (hS : S p.block) : Keeps S w (w.setCell p u) :=
  ⟨(Below.refl 0 w).setCell (Nat.zero_le _) u, fun x _ h2 => Below.heap_setCell _ _ _ _ (fun e => h2 (by rw [e]; exact hS))⟩
/-- one more value is spoilt -/
theorem SI.step {e es : TypeId} {w w1 : World} {g m i : Nat} {l : List Tr} {V : Nat → Value} {D : Nat → Nat → Prop} {t : Tr} {k : Int} {b : Bool} {s : ByteArray} {x y : Value} (h : SI e es w g m i l V D) (him : i < m) (ht : l[i]? = some t) (hl : l.length = m) (hg : g < w.heap.size)
    (hD : ∀ i, i < m → ∀ x, D i x → x < w.heap.size ∧ x ≠ g) (hdis : ∀ i j, i < j → j < m → ∀ x, D i x → ¬ D j x) (hV : V i = .agg #[.int .i64 k, .bool b, .string s, x, y]) (hkt : t.kind = k)
    (hk : Keeps (D i) w w1) (hu : OV e es w1 (D i) (V i) (spT t)) :
    SI e es (w1.setCell ⟨g, 0 + i * 5, none⟩ (.int .i64 (bk k))) g m (i + 1) l (fun j => if j = i then .agg #[.int .i64 (bk k), .bool b, .string s, x, y] else V j) D := by
  have hset : ∀ z, z ≠ g → (w1.setCell ⟨g, 0 + i * 5, none⟩ (.int .i64 (bk k))).heap[z]? = w1.heap[z]? := fun z hz => Below.heap_setCell _ _ _ _ hz
  have hg1 : w1.heap[g]? = w.heap[g]? := hk.2 g hg (fun q => (hD i him g q).2 rfl)
  obtain ⟨cu, hcu⟩ := h.blk
  have hoth : ∀ j, j < m → j ≠ i → ∀ z, D j z → (w1.setCell ⟨g, 0 + i * 5, none⟩ (.int .i64 (bk k))).heap[z]? = w.heap[z]? := fun j hj hji z hz => by
    rw [hset z (hD j hj z hz).2]
    refine hk.2 z (hD j hj z hz).1 fun q => ?_
    rcases Nat.lt_or_ge i j with h1 | h1
    · exact hdis i j h1 hj z q hz
    · exact hdis j i (by omega) him z hz q
  have hlt : ∀ (j : Nat) (t : Tr), l[j]? = some t → j < m := fun j t h => by have := (List.getElem?_eq_some_iff.1 h).1; omega
  refine ⟨?_, fun j hj => ?_, fun j t' hj ht' => ?_, fun j t' hj ht' => ?_⟩
  · obtain ⟨cu', h'⟩ := set_cellsV (p := ⟨g, 0 + i * 5, none⟩) (show w1.heap[g]? = some (.cells cu e (0, 0)) by rw [hg1]; exact hcu (by omega)) (.int .i64 (bk k))
    exact ⟨cu', fun _ => h'⟩
  · have hc := (h.cel j hj).same hg1
    by_cases hji : j = i
    · subst hji
      simp only [if_true]
      rw [hV] at hc
      obtain ⟨k0, b0, s0, x0, y0, he, h0, h1, h2, h3, h4⟩ := hc
      simp only [Value.agg.injEq, Array.mk.injEq, List.cons.injEq, and_true, Value.int.injEq, Value.bool.injEq, Value.string.injEq, true_and] at he
      obtain ⟨e0, e1, e2, e3, e4⟩ := he
      subst e0 e1 e2 e3 e4
      exact ⟨bk k, b, s, x, y, rfl, cs_same _ h0, (cs_other _ (by omega)).trans h1, (cs_other _ (by omega)).trans h2, (cs_other _ (by omega)).trans h3, (cs_other _ (by omega)).trans h4⟩
    · simp only [if_neg hji]
      exact hc.off fun r hr => cs_other _ (by omega)
  · by_cases hji : j = i
    · subst hji
      simp only [if_true]
      obtain rfl : t' = t := by rw [ht] at ht'; injection ht' with ht'; exact ht'.symm
      rw [hV] at hu
      have h1 := OV.kind (k := bk k) hu (bk_in k)
      rw [bump_eq, spT_kind, hkt]
      exact h1.kept _ fun z hz => hset z (hD j him z hz).2
    · simp only [if_neg hji]
      exact (h.done j t' (by omega) ht').kept _ fun z hz => hoth j (hlt j t' ht') hji z hz
  · have hji : ¬ j = i := by omega
    simp only [if_neg hji]
    exact (h.todo j t' (by omega) ht').kept _ fun z hz => hoth j (hlt j t' ht') hji z hz
/-- names of which the first i are spoilt -/
structure NI (es : TypeId) (w : World) (h q i : Nat) (n : List ByteArray) : Prop where
  blk : ∃ ch, q ≠ 0 → w.heap[h]? = some (.cells ch es (0, 0))
  done : ∀ (j : Nat) (s : ByteArray), j < i → n[j]? = some s → w.cell? ⟨h, 0 + j, none⟩ = some (.string (s ++ ⟨#[120]⟩))
  todo : ∀ (j : Nat) (s : ByteArray), i ≤ j → n[j]? = some s → w.cell? ⟨h, 0 + j, none⟩ = some (.string s)
theorem NI.step {es : TypeId} {w : World} {h q i : Nat} {n : List ByteArray} {s : ByteArray} (H : NI es w h q i n) (hq : q ≠ 0) (hs : n[i]? = some s) : NI es (w.setCell ⟨h, 0 + i, none⟩ (.string (s ++ ⟨#[120]⟩))) h q (i + 1) n := by
  obtain ⟨ch, hch⟩ := H.blk
  refine ⟨?_, fun j s' hj hs' => ?_, fun j s' hj hs' => ?_⟩
  · obtain ⟨ch', h'⟩ := set_cellsV (p := ⟨h, 0 + i, none⟩) (hch hq) (.string (s ++ ⟨#[120]⟩))
    exact ⟨ch', fun _ => h'⟩
  · by_cases hji : j = i
    · subst hji
      obtain rfl : s' = s := by rw [hs] at hs'; injection hs' with hs'; exact hs'.symm
      exact cs_same _ (H.todo j s' (Nat.le_refl _) hs')
    · exact (cs_other _ (by omega)).trans (H.done j s' (by omega) hs')
  · exact (cs_other _ (by omega)).trans (H.todo j s' (by omega) hs')
/-- all are spoilt: the value -/
theorem spoilt {e es : TypeId} {w : World} {S : Nat → Prop} {k : Int} {b : Bool} {s : ByteArray} {A : Option Addr} {m c : Nat} {B : Option Addr} {q d : Nat} {l : List Tr} {n : List ByteArray} {g h : Nat} {V : Nat → Value} {D : Nat → Nat → Prop}
    (hk : -9223372036854775808 ≤ k ∧ k ≤ 9223372036854775807) (hs : s.size ≤ 140737488351232) (hl : l.length = m) (hmc : m ≤ c) (hc : c ≤ maxLen) (hA : A = none → c = 0) (hz : m * 80 ≤ 140737488351232)
    (hat : m ≠ 0 → A = some ⟨g, 0, none⟩ ∧ S g) (hI : SI e es w g m m l V D) (hD : ∀ i, i < m → ∀ x, D i x → S x ∧ x ≠ g ∧ x ≠ h) (hdis : ∀ i j, i < j → j < m → ∀ x, D i x → ¬ D j x)
    (hN : NI es w h q q n) (hnl : n.length = q) (hqd : q ≤ d) (hdm : d ≤ maxLen) (hB : B = none → d = 0) (hqz : q * 16 ≤ 140737488351232) (hnat : q ≠ 0 → B = some ⟨h, 0, none⟩ ∧ S h ∧ h ≠ g) :
    OV e es w S (.agg #[.int .i64 k, .bool b, .string s, .slice A m c, .slice B q d]) (spT (.mk k b s l n)) := by
  obtain ⟨cu, hcu⟩ := hI.blk
  obtain ⟨ch, hch⟩ := hN.blk
  rw [spT_mk]
  refine OV.mk g h cu ch V D hk hs (by rw [List.length_map]; exact hl) hmc hc hA hz (fun hm => ⟨(hat hm).1, (hat hm).2, hcu hm⟩) hI.cel (fun i t ht => ?_) hD hdis ⟨by rw [List.length_map]; exact hnl, hqd, hdm, hB, hqz, fun hq => ⟨h, 0, (hnat hq).1, fun i s' hs' => ?_⟩⟩ (fun hq => ⟨(hnat hq).1, (hnat hq).2.1, (hnat hq).2.2, hch hq⟩)
  · rw [List.getElem?_map] at ht
    obtain ⟨t', ht', rfl⟩ := Option.map_eq_some_iff.1 ht
    exact hI.done i t' (by have := (List.getElem?_eq_some_iff.1 ht').1; omega) ht'
  · rw [List.getElem?_map] at hs'
    obtain ⟨s0, hs0, rfl⟩ := Option.map_eq_some_iff.1 hs'
    exact hN.done i s0 (by have := (List.getElem?_eq_some_iff.1 hs0).1; omega) hs0
theorem NI.same {es : TypeId} {w w' : World} {h q i : Nat} {n : List ByteArray} (H : NI es w h q i n) (hnl : n.length = q) (e : q ≠ 0 → w'.heap[h]? = w.heap[h]?) : NI es w' h q i n := by
  obtain ⟨ch, hch⟩ := H.blk
  have hc : ∀ (j : Nat) (s : ByteArray), n[j]? = some s → w'.cell? ⟨h, 0 + j, none⟩ = w.cell? ⟨h, 0 + j, none⟩ := fun j s hs => cell_same (e (by have := (List.getElem?_eq_some_iff.1 hs).1; omega)) _
  exact ⟨⟨ch, fun hq => by rw [e hq]; exact hch hq⟩, fun j s hj hs => by rw [hc j s hs]; exact H.done j s hj hs, fun j s hj hs => by rw [hc j s hs]; exact H.todo j s hj hs⟩
theorem SI.apart {e es : TypeId} {w w' : World} {g m i : Nat} {l : List Tr} {V : Nat → Value} {D : Nat → Nat → Prop} (H : SI e es w g m i l V D) (hl : l.length = m) (hg : m ≠ 0 → w'.heap[g]? = w.heap[g]?) (hD : ∀ j, j < m → ∀ z, D j z → w'.heap[z]? = w.heap[z]?) : SI e es w' g m i l V D := by
  obtain ⟨cu, hcu⟩ := H.blk
  have hlt : ∀ (j : Nat) (t : Tr), l[j]? = some t → j < m := fun j t h => by have := (List.getElem?_eq_some_iff.1 h).1; omega
  exact ⟨⟨cu, fun hm => by rw [hg hm]; exact hcu hm⟩, fun j hj => (H.cel j hj).same (hg (by omega)), fun j t hj ht => (H.done j t hj ht).kept _ (hD j (hlt j t ht)), fun j t hj ht => (H.todo j t hj ht).kept _ (hD j (hlt j t ht))⟩
set_option maxRecDepth 100000 in
set_option maxHeartbeats 16000000 in
theorem spoil_any : ∀ (t : Tr) (S : Nat → Prop) (v : Value) (w : World), OV 25 9 w S v t → (∀ x, S x → x < w.heap.size) → Sm t →
    Calls Tryd.prog 23 #[v] w fun e w' => (∃ r, e = .returned r) ∧ Keeps S w w' ∧ OV 25 9 w' S v (spT t) := by
  refine Tr.ind ?_
  intro k b s l n ih S v w hov hSw hsm
  have HSM := Lib.hid hsm
  clear hsm
  cases hov with
  | @mk _ _ _ _ A m c B q d _ _ g h cu ch V D hk hs hl hmc hc hA hz hat hcel hel hD hdis hn hnat =>
  have IH := Lib.hid ih
  have hq1 : q * 16 ≤ 140737488351232 := hn.small
  have hnl : n.length = q := hn.len
  have HI0 : Hid (SI 25 9 w g m 0 l V D) := Lib.hid ⟨⟨cu, fun hm => (hat hm).2.2⟩, hcel, fun j t hj => absurd hj (Nat.not_lt_zero j), fun j t _ ht => hel j t ht⟩
  have HN0 : Hid (NI 9 w h q 0 n) := Lib.hid ⟨⟨ch, fun hq => (hnat hq).2.2.2⟩, fun j t hj => absurd hj (Nat.not_lt_zero j), fun j s' _ hs' => by
    have hq : q ≠ 0 := by have := (List.getElem?_eq_some_iff.1 hs').1; omega
    obtain ⟨g1, off, e1, hc1⟩ := hn.row hq
    rw [(hnat hq).1] at e1
    injection e1 with e1
    injection e1 with e1 e2
    subst e1 e2
    exact hc1 j s' hs'⟩
  have HD := Lib.hid hD
  have HDIS := Lib.hid hdis
  have HAT : Hid (m ≠ 0 → A = some ⟨g, 0, none⟩ ∧ S g) := Lib.hid (fun hm => ⟨(hat hm).1, (hat hm).2.1⟩)
  have HNAT : Hid (q ≠ 0 → B = some ⟨h, 0, none⟩ ∧ S h ∧ h ≠ g) := Lib.hid (fun hq => ⟨(hnat hq).1, (hnat hq).2.1, (hnat hq).2.2.1⟩)
  have HNM := Lib.hid hn
  have HC := Lib.hid (And.intro hk (And.intro hs (And.intro hmc (And.intro hc (And.intro hA hz)))))
  have HSW := Lib.hid hSw
  have HL := Lib.hid hl
  have hmx : m ≤ 1759218604390 := by omega
  obtain ⟨Q, hQ⟩ : ∃ Q, w.heap.size = Q := ⟨_, rfl⟩
  obtain ⟨W1, hW1⟩ : ∃ W1, w.alloc (.cells #[.int .i64 k, .bool b, .string s, .slice A m c, .slice B q d] 25) = W1 := ⟨_, rfl⟩
  have b1 : Below w.heap.size w W1 := by rw [← hW1]; exact below_allocV w _
  have Q1 : Hid (Bx W1 Q (.int .i64 k) (.bool b) (.string s) (.slice A m c) (.slice B q d)) := Lib.hid (by rw [← hW1, ← hQ]; exact heap_alloc_new w _)
  have K1 : Hid (Keeps S w W1) := Lib.hid (keeps_below b1)
  have HI1 : Hid (SI 25 9 W1 g m 0 l V D) := Lib.hid (HI0.out.apart hl (fun hm => b1.block g (hSw g (hat hm).2.1)) (fun j hj z hz => b1.block z (hSw z (hD j hj z hz).1)))
  have HN1 : Hid (NI 9 W1 h q 0 n) := Lib.hid (HN0.out.same hnl (fun hq => b1.block h (hSw h (hnat hq).2.1)))
  have HQ := Lib.hid hQ
  have HW1 := Lib.hid hW1
  clear ih hk hs hl hmc hc hA hz hat hcel hel hD hdis hn hnat hSw hQ hW1 b1
  go_enter Tryd.func23, Tryd.ntmps23
  go_upto_region 1 with fail
  rw [HW1.out, HQ.out]
  go_wp2_with fail
  go_loopw [2] (fun iv wr => ∃ (i : Nat) (V : Nat → Value), iv = .int .i64 i ∧ i ≤ m ∧ Hid (SI 25 9 wr g m i l V D) ∧ Hid (NI 9 wr h q 0 n) ∧ Hid (Bx wr Q (.int .i64 k) (.bool b) (.string s) (.slice A m c) (.slice B q d)) ∧ Hid (Keeps S w wr)) (fun iv _ => m - (intOf iv).toNat)
  case atStart => exact ⟨0, V, rfl, by omega, HI1, HN1, Q1, K1⟩
  case round =>
    clear HI0 HN0 HI1 HN1 Q1 K1 HW1
    obtain ⟨i, V, rfl, hi', HI, HN, HBQ, HK⟩ := hrel
    have a3 := HBQ.out.c3
    by_cases him : i < m
    · have i1 : (i : Int) < (m : Int) := by omega
      obtain rfl := (HAT.out (by omega)).1
      have hil : i < l.length := by have := HL.out; omega
      obtain ⟨x, hx⟩ : ∃ x, l[i]? = some x := ⟨_, List.getElem?_eq_getElem hil⟩
      have hox := HI.out.todo i x (Nat.le_refl _) hx
      have hcel := HI.out.cel i him
      obtain ⟨X1, x2, x3, X4, x5, x6, hve, _⟩ := (hox.vl x).open_
      rw [hve] at hcel
      obtain ⟨_, _, _, _, _, he, k0, k1, k2, k3, k4⟩ := hcel
      simp only [Value.agg.injEq, Array.mk.injEq, List.cons.injEq, and_true, Value.int.injEq, Value.bool.injEq, Value.string.injEq, true_and] at he
      obtain ⟨e0, e1, e2, e3, e4⟩ := he
      subst e0 e1 e2 e3 e4
      rw [Nat.zero_add] at k0 k1 k2 k3 k4
      have hws := HK.out.1.size
      have CT := Lib.hid (IH.out x (List.mem_of_getElem? hx) (D i) (V i) wr hox (fun z hz => by have := HSW.out z (HD.out i him z hz).1; omega) (HSM.out.list x (List.mem_of_getElem? hx)))
      rw [hve] at CT
      obtain ⟨xk, hxk⟩ : ∃ v, x.kind = v := ⟨_, rfl⟩
      obtain ⟨xb, hxb⟩ : ∃ v, x.isB = v := ⟨_, rfl⟩
      obtain ⟨xt, hxt⟩ : ∃ v, x.text = v := ⟨_, rfl⟩
      rw [hxk] at k0 CT hve
      rw [hxb] at k1 CT hve
      rw [hxt] at k2 CT hve
      have HX := Lib.hid hx
      have HVE := Lib.hid hve
      have HXK := Lib.hid hxk
      have hSg : S g := (HAT.out (by omega)).2
      have hgw : g < wr.heap.size := by have := HSW.out g hSg; omega
      have HGW := Lib.hid (And.intro hSg hgw)
      clear hx hve hxk hxb hxt hox hSg hgw
      go_wp2_with fail
      refine CT.out.mono ?_
      rintro e w1 ⟨⟨r, rfl⟩, hk1, hu1⟩
      have hd0 : Below w1.heap.size w1 w1.drew := ⟨rfl, rfl, rfl, Nat.le_refl _, fun _ _ => rfl⟩
      have hk2 : Keeps (D i) wr w1.drew := hk1.trans (keeps_below hd0)
      have hu2 : OV 25 9 w1.drew (D i) (V i) (spT x) := by rw [HVE.out]; exact hu1.kept _ fun z _ => rfl
      have hQD : Q < wr.heap.size ∧ ¬ D i Q := ⟨HBQ.out.lt, fun q => by have := HSW.out Q (HD.out i him Q q).1; have := HQ.out; omega⟩
      have hB2 := HBQ.out.same (hk2.2 Q hQD.1 hQD.2)
      have hg2 : w1.drew.heap[g]? = wr.heap[g]? := hk2.2 g HGW.out.2 (fun q => (HD.out i him g q).2.1 rfl)
      have q3 := hB2.c3
      have j0 : w1.drew.cell? ⟨g, i * 5, none⟩ = some (.int .i64 xk) := by rw [cell_same hg2]; exact k0
      have HK2 := Lib.hid hk2
      have HU2 := Lib.hid hu2
      have HB2 := Lib.hid hB2
      clear hk1 hu1 hk2 hu2 hB2 k0 k1 k2 k3 k4
      go_upto_region 5 with fail
      have HSS : w1.drew.cell? ⟨Q, 3, none⟩ = some (.slice (some ⟨g, 0, none⟩) m c) ∧ w1.drew.cell? ⟨g, i * 5, none⟩ = some (.int .i64 xk) := ⟨q3, j0⟩
      refine region_calm (fun w' => w'.cell? ⟨Q, 3, none⟩ = some (.slice (some ⟨g, 0, none⟩) m c) ∧ w'.cell? ⟨g, i * 5, none⟩ = some (.int .i64 xk)) [0, 1, 2, 3, 4, 5, 6, 7, 8, 9] (by kernel_rfl) ?_
      refine any_takeD 0 17 (.pointer (some ⟨Q, 3, none⟩)) rfl rfl (by kernel_rfl) (by kernel_rfl) (by kernel_rfl) (by kernel_rfl) (fun _ _ _ h => h) (by rfl) ?_ HSS ?_
      · rintro w' ⟨q1, q2⟩; go_simp
      simp only [Act.put, List.setIfInBounds_toArray, List.set_cons_zero, List.set_cons_succ]
      refine any_takeD 1 18 (.slice (some ⟨g, 0, none⟩) m c) rfl rfl (by kernel_rfl) (by kernel_rfl) (by kernel_rfl) (by kernel_rfl) (fun _ _ _ h => h) (by rfl) ?_ HSS ?_
      · rintro w' ⟨q1, q2⟩; go_simp
      simp only [Act.put, List.setIfInBounds_toArray, List.set_cons_zero, List.set_cons_succ]
      refine any_takeD 2 19 (.int .i64 (i : Int)) rfl rfl (by kernel_rfl) (by kernel_rfl) (by kernel_rfl) (by kernel_rfl) (fun _ _ _ h => h) (by rfl) ?_ HSS ?_
      · rintro w' ⟨q1, q2⟩; go_simp
      simp only [Act.put, List.setIfInBounds_toArray, List.set_cons_zero, List.set_cons_succ]
      refine any_takeD 3 20 (.pointer (some ⟨Q, 3, none⟩)) rfl rfl (by kernel_rfl) (by kernel_rfl) (by kernel_rfl) (by kernel_rfl) (fun _ _ _ h => h) (by rfl) ?_ HSS ?_
      · rintro w' ⟨q1, q2⟩; go_simp
      simp only [Act.put, List.setIfInBounds_toArray, List.set_cons_zero, List.set_cons_succ]
      refine any_takeD 4 21 (.slice (some ⟨g, 0, none⟩) m c) rfl rfl (by kernel_rfl) (by kernel_rfl) (by kernel_rfl) (by kernel_rfl) (fun _ _ _ h => h) (by rfl) ?_ HSS ?_
      · rintro w' ⟨q1, q2⟩; go_simp
      simp only [Act.put, List.setIfInBounds_toArray, List.set_cons_zero, List.set_cons_succ]
      refine any_takeD 5 22 (.int .i64 (i : Int)) rfl rfl (by kernel_rfl) (by kernel_rfl) (by kernel_rfl) (by kernel_rfl) (fun _ _ _ h => h) (by rfl) ?_ HSS ?_
      · rintro w' ⟨q1, q2⟩; go_simp
      simp only [Act.put, List.setIfInBounds_toArray, List.set_cons_zero, List.set_cons_succ]
      refine any_takeD 6 23 (.pointer (some ⟨g, i * 5, none⟩)) rfl rfl (by kernel_rfl) (by kernel_rfl) (by kernel_rfl) (by kernel_rfl) (fun _ _ _ h => h) (by rfl) ?_ HSS ?_
      · rintro w' ⟨q1, q2⟩; go_simp
      simp only [Act.put, List.setIfInBounds_toArray, List.set_cons_zero, List.set_cons_succ]
      refine any_takeD 7 24 (.pointer (some ⟨g, i * 5, none⟩)) rfl rfl (by kernel_rfl) (by kernel_rfl) (by kernel_rfl) (by kernel_rfl) (fun _ _ _ h => h) (by rfl) ?_ HSS ?_
      · rintro w' ⟨q1, q2⟩; go_simp
      simp only [Act.put, List.setIfInBounds_toArray, List.set_cons_zero, List.set_cons_succ]
      refine any_takeD 8 25 (.int .i64 xk) rfl rfl (by kernel_rfl) (by kernel_rfl) (by kernel_rfl) (by kernel_rfl) (fun _ _ _ h => h) (by rfl) ?_ HSS ?_
      · rintro w' ⟨q1, q2⟩; go_simp
      simp only [Act.put, List.setIfInBounds_toArray, List.set_cons_zero, List.set_cons_succ]
      refine any_takeD 9 26 (.int .i64 (bk xk)) rfl rfl (by kernel_rfl) (by kernel_rfl) (by kernel_rfl) (by kernel_rfl) (fun _ _ _ h => h) (by rfl) ?_ HSS ?_
      · rintro w' ⟨q1, q2⟩; go_simp; rfl
      simp only [Act.put, List.setIfInBounds_toArray, List.set_cons_zero, List.set_cons_succ]
      refine any_runD 10 27 (.pointer (some ⟨g, i * 5, none⟩)) w1.drew (by kernel_rfl) rfl rfl (by rfl) ?_ (.inr HSS) ?_
      · go_simp
      simp only [Act.put, List.setIfInBounds_toArray, List.set_cons_zero, List.set_cons_succ]
      refine any_runD 11 28 (.pointer (some ⟨g, i * 5, none⟩)) w1.drew (by kernel_rfl) rfl rfl (by rfl) ?_ (.inr HSS) ?_
      · go_simp
      simp only [Act.put, List.setIfInBounds_toArray, List.set_cons_zero, List.set_cons_succ]
      obtain ⟨cu, hcu⟩ := HI.out.blk
      have hg9 := hcu (by omega)
      have ff0 : w1.drew.frozen? ⟨g, i * 5, none⟩ = false := by simp [World.frozen?, hg2, hg9]
      refine any_run0 12 (w1.drew.setCell ⟨g, i * 5, none⟩ (.int .i64 (bk xk))) (by kernel_rfl) rfl rfl (by rfl) ?_ (.inl (late_of (by kernel_rfl))) ?_
      · go_simp
      refine any_done (by kernel_rfl) ?_ _
      refine calm_normal ?_
      have hst := SI.step HI.out him HX.out HL.out HGW.out.2 (fun j hj z hz => ⟨by have := HSW.out z (HD.out j hj z hz).1; omega, (HD.out j hj z hz).2.1⟩) HDIS.out HVE.out HXK.out HK2.out HU2.out
      rw [Nat.zero_add] at hst
      have HI2 := Lib.hid hst
      have hset : ∀ z, z ≠ g → (w1.drew.setCell ⟨g, i * 5, none⟩ (.int .i64 (bk xk))).heap[z]? = w1.drew.heap[z]? := fun z hz => Below.heap_setCell _ _ _ _ hz
      have hQg : Q ≠ g := by have := HSW.out g HGW.out.1; have := HQ.out; omega
      have HBQ2 := Lib.hid (HB2.out.same (hset Q hQg))
      have HN2 := Lib.hid (HN.out.same HNM.out.len (fun hq => by
        have hh := HNAT.out hq
        rw [hset h hh.2.2]
        exact HK2.out.2 h (by have := HSW.out h hh.2.1; omega) (fun q => (HD.out i him h q).2.2 rfl)))
      have HK3 := Lib.hid ((HK.out.trans (HK2.out.mono (fun z hz => (HD.out i him z hz).1))).trans (keeps_set w1.drew ⟨g, i * 5, none⟩ (.int .i64 (bk xk)) HGW.out.1))
      clear hst hset hQg hg9 hcu ff0 HSS q3 j0 hg2
      generalize w1.drew.setCell ⟨g, i * 5, none⟩ (.int .i64 (bk xk)) = w2 at *
      go_wp2_with fail
      exact ⟨⟨i + 1, _, by go_num, by omega, HI2, HN2, HBQ2, HK3⟩, by simp [intOf]; omega⟩
    · obtain rfl : m = i := by omega
      have hSI := HI
      have hqx : q ≤ 8796093022208 := by omega
      go_wp2_with fail
      go_loopw [3] (fun iv wr => ∃ (i : Nat), iv = .int .i64 i ∧ i ≤ q ∧ Hid (SI 25 9 wr g m m l V D) ∧ Hid (NI 9 wr h q i n) ∧ Hid (Bx wr Q (.int .i64 k) (.bool b) (.string s) (.slice A m c) (.slice B q d)) ∧ Hid (Keeps S w wr)) (fun iv _ => q - (intOf iv).toNat)
      case atStart => exact ⟨0, rfl, by omega, HI, HN, HBQ, HK⟩
      case round =>
        clear HI HN HBQ HK a3 hSI
        rename_i wr0 _ _
        obtain ⟨i, rfl, hi2, HI, HN, HBQ, HK⟩ := hrel
        have a4 := HBQ.out.c4
        by_cases hiq : i < q
        · have i1 : (i : Int) < (q : Int) := by omega
          obtain rfl := (HNAT.out (by omega)).1
          have hil : i < n.length := by omega
          obtain ⟨x, hx⟩ : ∃ x, n[i]? = some x := ⟨_, List.getElem?_eq_getElem hil⟩
          have j0 := HN.out.todo i x (Nat.le_refl _) hx
          rw [Nat.zero_add] at j0
          have HX := Lib.hid hx
          have hxs : x.size ≤ 9223372036854775806 := by have := HSM.out.names x (List.mem_of_getElem? hx); omega
          clear hx
          go_upto_region 9 with fail
          have HSS : wr.drew.cell? ⟨Q, 4, none⟩ = some (.slice (some ⟨h, 0, none⟩) q d) ∧ wr.drew.cell? ⟨h, i, none⟩ = some (.string x) := ⟨a4, j0⟩
          refine region_calm (fun w' => w'.cell? ⟨Q, 4, none⟩ = some (.slice (some ⟨h, 0, none⟩) q d) ∧ w'.cell? ⟨h, i, none⟩ = some (.string x)) [0, 1, 2, 3, 4, 5, 6, 7, 8] (by kernel_rfl) ?_
          refine any_takeD 0 36 (.pointer (some ⟨Q, 4, none⟩)) rfl rfl (by kernel_rfl) (by kernel_rfl) (by kernel_rfl) (by kernel_rfl) (fun _ _ _ h => h) (by rfl) ?_ HSS ?_
          · rintro w' ⟨q1, q2⟩; go_simp
          simp only [Act.put, List.setIfInBounds_toArray, List.set_cons_zero, List.set_cons_succ]
          refine any_takeD 1 37 (.slice (some ⟨h, 0, none⟩) q d) rfl rfl (by kernel_rfl) (by kernel_rfl) (by kernel_rfl) (by kernel_rfl) (fun _ _ _ h => h) (by rfl) ?_ HSS ?_
          · rintro w' ⟨q1, q2⟩; go_simp
          simp only [Act.put, List.setIfInBounds_toArray, List.set_cons_zero, List.set_cons_succ]
          refine any_takeD 2 38 (.int .i64 (i : Int)) rfl rfl (by kernel_rfl) (by kernel_rfl) (by kernel_rfl) (by kernel_rfl) (fun _ _ _ h => h) (by rfl) ?_ HSS ?_
          · rintro w' ⟨q1, q2⟩; go_simp
          simp only [Act.put, List.setIfInBounds_toArray, List.set_cons_zero, List.set_cons_succ]
          refine any_takeD 3 39 (.pointer (some ⟨Q, 4, none⟩)) rfl rfl (by kernel_rfl) (by kernel_rfl) (by kernel_rfl) (by kernel_rfl) (fun _ _ _ h => h) (by rfl) ?_ HSS ?_
          · rintro w' ⟨q1, q2⟩; go_simp
          simp only [Act.put, List.setIfInBounds_toArray, List.set_cons_zero, List.set_cons_succ]
          refine any_takeD 4 40 (.slice (some ⟨h, 0, none⟩) q d) rfl rfl (by kernel_rfl) (by kernel_rfl) (by kernel_rfl) (by kernel_rfl) (fun _ _ _ h => h) (by rfl) ?_ HSS ?_
          · rintro w' ⟨q1, q2⟩; go_simp
          simp only [Act.put, List.setIfInBounds_toArray, List.set_cons_zero, List.set_cons_succ]
          refine any_takeD 5 41 (.int .i64 (i : Int)) rfl rfl (by kernel_rfl) (by kernel_rfl) (by kernel_rfl) (by kernel_rfl) (fun _ _ _ h => h) (by rfl) ?_ HSS ?_
          · rintro w' ⟨q1, q2⟩; go_simp
          simp only [Act.put, List.setIfInBounds_toArray, List.set_cons_zero, List.set_cons_succ]
          refine any_takeD 6 42 (.pointer (some ⟨h, i, none⟩)) rfl rfl (by kernel_rfl) (by kernel_rfl) (by kernel_rfl) (by kernel_rfl) (fun _ _ _ h => h) (by rfl) ?_ HSS ?_
          · rintro w' ⟨q1, q2⟩; go_simp
          simp only [Act.put, List.setIfInBounds_toArray, List.set_cons_zero, List.set_cons_succ]
          refine any_takeD 7 43 (.string x) rfl rfl (by kernel_rfl) (by kernel_rfl) (by kernel_rfl) (by kernel_rfl) (fun _ _ _ h => h) (by rfl) ?_ HSS ?_
          · rintro w' ⟨q1, q2⟩; go_simp
          simp only [Act.put, List.setIfInBounds_toArray, List.set_cons_zero, List.set_cons_succ]
          refine any_takeD 8 44 (.string (x ++ ⟨#[120]⟩)) rfl rfl (by kernel_rfl) (by kernel_rfl) (by kernel_rfl) (by kernel_rfl) (fun _ _ _ h => h) (by rfl) ?_ HSS ?_
          · rintro w' ⟨q1, q2⟩; go_simp
          simp only [Act.put, List.setIfInBounds_toArray, List.set_cons_zero, List.set_cons_succ]
          refine any_runD 9 45 (.pointer (some ⟨h, i, none⟩)) wr.drew (by kernel_rfl) rfl rfl (by rfl) ?_ (.inr HSS) ?_
          · go_simp
          simp only [Act.put, List.setIfInBounds_toArray, List.set_cons_zero, List.set_cons_succ]
          obtain ⟨ch, hch⟩ := HN.out.blk
          have hh9 := hch (by omega)
          have ff0 : wr.drew.frozen? ⟨h, i, none⟩ = false := by
            show wr.frozen? ⟨h, i, none⟩ = false
            simp [World.frozen?, hh9]
          refine any_run0 10 (wr.drew.setCell ⟨h, i, none⟩ (.string (x ++ ⟨#[120]⟩))) (by kernel_rfl) rfl rfl (by rfl) ?_ (.inl (late_of (by kernel_rfl))) ?_
          · go_simp
          refine any_done (by kernel_rfl) ?_ _
          refine calm_normal ?_
          have hd0 : Below wr.heap.size wr wr.drew := ⟨rfl, rfl, rfl, Nat.le_refl _, fun _ _ => rfl⟩
          have hst := NI.step (HN.out.same HNM.out.len (w' := wr.drew) (fun _ => rfl)) (show q ≠ 0 by omega) HX.out
          rw [Nat.zero_add] at hst
          have HN2 := Lib.hid hst
          have hset : ∀ z, z ≠ h → (wr.drew.setCell ⟨h, i, none⟩ (.string (x ++ ⟨#[120]⟩))).heap[z]? = wr.heap[z]? := fun z hz => Below.heap_setCell _ _ _ _ hz
          have hSh := HNAT.out (show q ≠ 0 by omega)
          have hhw : h < w.heap.size := HSW.out h hSh.2.1
          have HBQ2 := Lib.hid (HBQ.out.same (hset Q (by have := HQ.out; omega)))
          have HI2 := Lib.hid (HI.out.apart HL.out (fun hm => hset g (fun e => hSh.2.2 e.symm)) (fun j hj z hz => hset z (HD.out j hj z hz).2.2))
          have HK3 := Lib.hid ((HK.out.trans (keeps_below hd0)).trans (keeps_set wr.drew ⟨h, i, none⟩ (.string (x ++ ⟨#[120]⟩)) hSh.2.1))
          clear hst hset hh9 hch ff0 HSS a4 j0 hSh hhw
          generalize wr.drew.setCell ⟨h, i, none⟩ (.string (x ++ ⟨#[120]⟩)) = w2 at *
          go_wp2_with fail
          exact ⟨⟨i + 1, by go_num, by omega, HI2, HN2, HBQ2, HK3⟩, by simp [intOf]; omega⟩
        · obtain rfl : q = i := by omega
          go_wp2_with fail
          (try simp only [Exit.inBlock, Exit.then])
          refine bodyPost_end (results_none rfl _ _ _) rfl ?_
          refine ⟨⟨_, rfl⟩, HK.out, ?_⟩
          obtain ⟨c1, c2, c3, c4, c5, c6⟩ := HC.out
          exact spoilt c1 c2 HL.out c3 c4 c5 c6 HAT.out HI.out HD.out HDIS.out HN.out HNM.out.len HNM.out.le HNM.out.max HNM.out.nil HNM.out.small HNAT.out
end Vt
end Go.Proofs.YtlgeibaejeiemaaDoor
