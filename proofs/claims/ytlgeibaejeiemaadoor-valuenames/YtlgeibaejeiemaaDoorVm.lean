/-
  The statements' nested of layer 10.
-/
import Derived.Test.YtlgeibaejeiemaaDoorVl
import Derived.RangeFuncRecord
namespace Go.Proofs.YtlgeibaejeiemaaDoor
set_option linter.unusedVariables false
set_option linter.unusedSimpArgs false
open Go.RowKit
namespace Vt
open Wd We

/-- a value in so many lists -/
def nestT (t : Tr) : Nat → Tr
  | 0 => t
  | n + 1 => .mk 4 false ⟨#[]⟩ [nestT t n] []
/-- a list of one, in a new block -/
theorem VL.one {w : World} {t : Tr} {A : Option Addr} {m c : Nat} {B : Option Addr} {q d : Nat} (h : Vl w (.agg #[.int .i64 t.kind, .bool t.isB, .string t.text, .slice A m c, .slice B q d]) t) :
    VL (w.alloc (.cells #[.int .i64 t.kind, .bool t.isB, .string t.text, .slice A m c, .slice B q d] 25)) (some ⟨w.heap.size, 0, none⟩) 1 1 [t] := by
  refine ⟨rfl, Nat.le_refl _, by unfold maxLen; omega, (fun e => by cases e), by omega, fun _ => ⟨w.heap.size, 0, rfl, fun i x hx => ?_⟩⟩
  have hb := below_allocV w (.cells #[.int .i64 t.kind, .bool t.isB, .string t.text, .slice A m c, .slice B q d] 25)
  obtain rfl : i = 0 := by have := (List.getElem?_eq_some_iff.1 hx).1; simp at this; omega
  obtain rfl : t = x := by simpa using hx
  have hh := cells5_new w (.int .i64 t.kind) (.bool t.isB) (.string t.text) (.slice A m c) (.slice B q d) 25
  refine ⟨_, ⟨_, _, _, _, _, rfl, ?_, ?_, ?_, ?_, ?_⟩, Vl.up hb t h⟩
  · simpa only [add_none, Nat.zero_mul, Nat.zero_add] using hh 0 _ rfl
  · simpa only [add_none, Nat.zero_mul, Nat.zero_add] using hh 1 _ rfl
  · simpa only [add_none, Nat.zero_mul, Nat.zero_add] using hh 2 _ rfl
  · simpa only [add_none, Nat.zero_mul, Nat.zero_add] using hh 3 _ rfl
  · simpa only [add_none, Nat.zero_mul, Nat.zero_add] using hh 4 _ rfl
theorem Vl.keep {w w' : World} (hb : ∀ p v, w.cell? p = some v → w'.cell? p = some v) : ∀ (t : Tr) {v : Value}, Vl w v t → Vl w' v t := by
  refine Tr.ind ?_
  intro k b s l n ih v h
  cases h with
  | mk g off V hk hs hl hmc hc hA hz hat hcel hel hn =>
    refine Vl.mk g off V hk hs hl hmc hc hA hz hat (fun i hi => ?_) (fun i t ht => ih t (List.mem_of_getElem? ht) (hel i t ht)) ?_
    · obtain ⟨k, b, s, x, y, e, h0, h1, h2, h3, h4⟩ := hcel i hi
      exact ⟨k, b, s, x, y, e, hb _ _ h0, hb _ _ h1, hb _ _ h2, hb _ _ h3, hb _ _ h4⟩
    · refine ⟨hn.len, hn.le, hn.max, hn.nil, hn.small, fun hm => ?_⟩
      obtain ⟨g, off, rfl, hc⟩ := hn.row hm
      exact ⟨g, off, rfl, fun i s hs => hb _ _ (hc i s hs)⟩
/-- no cell of the block is among those that a value reads -/
def Aside (Q : Nat) (w : World) (v : Value) (t : Tr) : Prop := Vl (w.putObj Q (.deferred none)) v t
theorem dead_none {w : World} {Q : Nat} {p : Addr} {v : Value} (h : (w.putObj Q (.deferred none)).cell? p = some v) : p.block ≠ Q ∧ w.cell? p = some v := by
  by_cases hp : p.block = Q
  · rcases Nat.lt_or_ge Q w.heap.size with hq | hq
    · have := World.putObj_heap_same (w := w) (o := .deferred none) hq
      simp [World.cell?, hp, this] at h
    · have e : (w.putObj Q (.deferred none)).heap[Q]? = none := Array.getElem?_eq_none (by simpa [World.putObj] using hq)
      simp [World.cell?, hp, e] at h
  · refine ⟨hp, ?_⟩
    rw [← h]
    exact cell_heap (w' := w) (w := w.putObj Q (.deferred none)) (World.putObj_heap_other hp).symm
theorem dead_some {w : World} {Q : Nat} {p : Addr} {v : Value} (h : w.cell? p = some v) (hp : p.block ≠ Q) : (w.putObj Q (.deferred none)).cell? p = some v := by
  rw [← h]; exact cell_heap (World.putObj_heap_other hp)
theorem Aside.on {Q : Nat} {w : World} {v : Value} {t : Tr} (h : Aside Q w v t) : Vl w v t := Vl.keep (fun _ _ hp => (dead_none hp).2) t h
theorem Aside.of {Q : Nat} {w0 w : World} {v : Value} {t : Tr} (h : Vl w0 v t) (hb : Below w0.heap.size w0 w) (hQ : w0.heap.size ≤ Q) : Aside Q w v t :=
  Vl.keep (fun p _ hp => dead_some ((hb.cell (lt_of_cell hp)).trans hp) (by have := lt_of_cell hp; omega)) t h
theorem Aside.keep {Q : Nat} {w w' : World} {v : Value} {t : Tr} (h : Aside Q w v t) (hb : ∀ x, x ≠ Q → x < w.heap.size → w'.heap[x]? = w.heap[x]?) : Aside Q w' v t :=
  Vl.keep (fun p _ hp => by
    obtain ⟨h1, h2⟩ := dead_none hp
    exact dead_some (by rw [← h2]; exact cell_heap (hb _ h1 (lt_of_cell h2))) h1) t h
/-- a list of one that holds it -/
theorem Aside.nest {Q : Nat} {w w' : World} {t : Tr} {A : Option Addr} {m c : Nat} {B : Option Addr} {q d : Nat} (hq : Q < w.heap.size) (h : Aside Q w (.agg #[.int .i64 t.kind, .bool t.isB, .string t.text, .slice A m c, .slice B q d]) t)
    (hb : ∀ x, x ≠ Q → w'.heap[x]? = (w.alloc (.cells #[.int .i64 t.kind, .bool t.isB, .string t.text, .slice A m c, .slice B q d] 25)).heap[x]?) :
    Aside Q w' (.agg #[.int .i64 4, .bool false, .string ⟨#[]⟩, .slice (some ⟨w.heap.size, 0, none⟩) 1 1, .slice none 0 0]) (.mk 4 false ⟨#[]⟩ [t] []) := by
  have h1 := VL.one h
  have hz : (w.putObj Q (.deferred none)).heap.size = w.heap.size := by simp [World.putObj]
  rw [hz] at h1
  have h2 := Vl.shut (t := .mk 4 false ⟨#[]⟩ [t] []) h1 (Nm.none_ _) (show (-9223372036854775808 : Int) ≤ 4 ∧ (4 : Int) ≤ 9223372036854775807 by omega) (show 0 ≤ 140737488351232 by omega)
  refine Vl.keep (fun p v hp => ?_) _ h2
  have hpQ : p.block ≠ Q := fun e => by
    have e2 : ((w.putObj Q (.deferred none)).alloc (.cells #[.int .i64 t.kind, .bool t.isB, .string t.text, .slice A m c, .slice B q d] 25)).heap[Q]? = some (.deferred none) := by
      rw [(below_allocV (w.putObj Q (.deferred none)) _).block Q (by rw [hz]; exact hq)]
      exact World.putObj_heap_same hq
    simp [World.cell?, e, e2] at hp
  refine dead_some ?_ hpQ
  rw [← hp]
  refine cell_heap ?_
  rw [hb _ hpQ]
  rcases Nat.lt_trichotomy p.block w.heap.size with hlt | heq | hgt
  · rw [(below_allocV w _).block _ hlt, (below_allocV (w.putObj Q (.deferred none)) _).block _ (by rw [hz]; exact hlt), World.putObj_heap_other hpQ]
  · rw [heq, heap_alloc_new w _]
    have := heap_alloc_new (w.putObj Q (.deferred none)) (.cells #[.int .i64 t.kind, .bool t.isB, .string t.text, .slice A m c, .slice B q d] 25)
    rw [hz] at this
    exact this.symm
  · rw [Array.getElem?_eq_none (by rw [World.size_alloc]; omega), Array.getElem?_eq_none (by rw [World.size_alloc, hz]; omega)]

/-- two blocks that a value does not read -/
def Aside2 (Q R : Nat) (w : World) (v : Value) (t : Tr) : Prop := Aside R (w.putObj Q (.deferred none)) v t
theorem Aside2.of {Q R : Nat} {w0 w : World} {v : Value} {t : Tr} (h : Vl w0 v t) (hb : Below w0.heap.size w0 w) (hQ : w0.heap.size ≤ Q) (hR : w0.heap.size ≤ R) : Aside2 Q R w v t :=
  Aside.of h ⟨hb.os, hb.tape, hb.output, by simpa [World.putObj] using hb.size, fun k hk => by rw [World.putObj_heap_other (by omega)]; exact hb.block k hk⟩ hR
theorem Aside2.to {Q R : Nat} {w w' : World} {v : Value} {t : Tr} (h : Aside2 Q R w v t) (hb : ∀ x, x ≠ R → w'.heap[x]? = w.heap[x]?) : Vl w' v t :=
  Vl.keep (fun p _ hp => by
    obtain ⟨h1, h2⟩ := dead_none hp
    obtain ⟨h3, h4⟩ := dead_none h2
    rw [← h4]; exact cell_heap (hb _ h1)) t h
theorem Aside2.nest {Q R : Nat} {w w' : World} {t : Tr} {A : Option Addr} {m c : Nat} {B : Option Addr} {q d : Nat} (hq : Q < w.heap.size) (hr : R < w.heap.size) (hq' : Q < w'.heap.size) (h : Aside2 Q R w (.agg #[.int .i64 t.kind, .bool t.isB, .string t.text, .slice A m c, .slice B q d]) t)
    (hb : ∀ x, x ≠ Q → w'.heap[x]? = (w.alloc (.cells #[.int .i64 t.kind, .bool t.isB, .string t.text, .slice A m c, .slice B q d] 25)).heap[x]?) :
    Aside2 Q R w' (.agg #[.int .i64 4, .bool false, .string ⟨#[]⟩, .slice (some ⟨w.heap.size, 0, none⟩) 1 1, .slice none 0 0]) (.mk 4 false ⟨#[]⟩ [t] []) := by
  have hz : (w.putObj Q (.deferred none)).heap.size = w.heap.size := by simp [World.putObj]
  have h2 := Aside.nest (Q := R) (w := w.putObj Q (.deferred none)) (w' := w'.putObj Q (.deferred none)) (by rw [hz]; exact hr) h (fun x hx => by
    by_cases hxQ : x = Q
    · subst hxQ
      rw [World.putObj_heap_same hq', (below_allocV (w.putObj x (.deferred none)) _).block x (by rw [hz]; exact hq), World.putObj_heap_same hq]
    · rw [World.putObj_heap_other hxQ, hb x hxQ]
      rcases Nat.lt_trichotomy x w.heap.size with hlt | heq | hgt
      · rw [(below_allocV w _).block _ hlt, (below_allocV (w.putObj Q (.deferred none)) _).block _ (by rw [hz]; exact hlt), World.putObj_heap_other hxQ]
      · rw [heq, heap_alloc_new w _]
        have := heap_alloc_new (w.putObj Q (.deferred none)) (.cells #[.int .i64 t.kind, .bool t.isB, .string t.text, .slice A m c, .slice B q d] 25)
        rw [hz] at this
        exact this.symm
      · rw [Array.getElem?_eq_none (by rw [World.size_alloc]; omega), Array.getElem?_eq_none (by rw [World.size_alloc, hz]; omega)])
  rw [hz] at h2
  exact h2

set_option maxRecDepth 100000 in
set_option maxHeartbeats 4000000 in
theorem nested_any (t : Tr) (v : Value) (n : Int) (hn : n ≤ 1000000) (w : World) (hv : Vl w v t) : Calls Tryd.prog 35 #[v, .int .i64 n] w fun e w' => ∃ u, e = .returned u ∧ Below w.heap.size w w' ∧ Vl w' u (nestT t n.toNat) := by
  obtain ⟨A, m, c, B, q, d, rfl, hl, hnm, hk, hs⟩ := hv.open_
  obtain ⟨Q, hQ⟩ : ∃ Q, w.heap.size = Q := ⟨_, rfl⟩
  obtain ⟨R, hR⟩ : ∃ R, Q + 1 = R := ⟨_, rfl⟩
  obtain ⟨W1, hW1⟩ : ∃ W1, w.alloc (.cells #[.int .i64 t.kind, .bool t.isB, .string t.text, .slice A m c, .slice B q d] 25) = W1 := ⟨_, rfl⟩
  obtain ⟨W2, hW2⟩ : ∃ W2, W1.alloc (.cells #[.int .i64 0, .bool false, .string ⟨#[]⟩, .slice none 0 0, .slice none 0 0] 25) = W2 := ⟨_, rfl⟩
  have z1 : W1.heap.size = R := by rw [← hW1, World.size_alloc, hQ, hR]
  have b1 : Below Q w W1 := by rw [← hW1, ← hQ]; exact below_allocV w _
  have b2 : Below R W1 W2 := by rw [← hW2, ← z1]; exact below_allocV W1 _
  have q1 : Bx W1 Q (.int .i64 t.kind) (.bool t.isB) (.string t.text) (.slice A m c) (.slice B q d) := by rw [← hW1, ← hQ]; exact heap_alloc_new w _
  have r2 : Bx W2 R (.int .i64 0) (.bool false) (.string ⟨#[]⟩) (.slice none 0 0) (.slice none 0 0) := by rw [← hW2, ← z1]; exact heap_alloc_new W1 _
  have Q2 := Lib.hid (q1.below b2 (by omega))
  have R2 := Lib.hid r2
  have bw : Below w.heap.size w W2 := by rw [hQ]; exact b1.trans (b2.mono (by omega))
  have BW := Lib.hid bw
  have AS : Hid (Aside2 Q R W2 (.agg #[.int .i64 t.kind, .bool t.isB, .string t.text, .slice A m c, .slice B q d]) t) := Lib.hid (Aside2.of hv bw (by omega) (by omega))
  have HW1 := Lib.hid hW1
  have HW2 := Lib.hid hW2
  have HQ := Lib.hid hQ
  have HR := Lib.hid hR
  have hQR : Q < R := by omega
  clear hv hl hnm hk hs hW1 hW2 hQ hR z1 b1 b2 q1 r2 bw
  obtain ⟨k, hkk⟩ : ∃ k, t.kind = k := ⟨_, rfl⟩
  obtain ⟨b, hbb⟩ : ∃ b, t.isB = b := ⟨_, rfl⟩
  obtain ⟨s, hss⟩ : ∃ s, t.text = s := ⟨_, rfl⟩
  have HK := Lib.hid hkk
  have HBB := Lib.hid hbb
  have HSS := Lib.hid hss
  rw [hkk, hbb, hss] at HW1 ⊢
  clear hkk hbb hss
  go_enter Tryd.func35, Tryd.ntmps35
  go_wp2_with fail
  rw [HW1.out, HQ.out, HR.out]
  rw [HW2.out]
  go_loopw [5] (fun iv wr => ∃ (j : Nat) (A : Option Addr) (m c : Nat) (B : Option Addr) (q d : Nat), iv = .int .i64 j ∧ j ≤ n.toNat ∧ Hid (Aside2 Q R wr (.agg #[.int .i64 (nestT t j).kind, .bool (nestT t j).isB, .string (nestT t j).text, .slice A m c, .slice B q d]) (nestT t j)) ∧ Hid (Bx wr Q (.int .i64 (nestT t j).kind) (.bool (nestT t j).isB) (.string (nestT t j).text) (.slice A m c) (.slice B q d)) ∧ Hid (Bx wr R (.int .i64 0) (.bool false) (.string ⟨#[]⟩) (.slice none 0 0) (.slice none 0 0)) ∧ Hid (Below w.heap.size w wr)) (fun iv _ => n.toNat - (intOf iv).toNat)
  case atStart => exact ⟨0, A, m, c, B, q, d, rfl, Nat.zero_le _, AS, Q2, R2, BW⟩
  case round =>
    obtain ⟨j, A1, m1, c1, B1, q1, d1, rfl, hj, hA, hBQ, hBR, hB⟩ := hrel
    have HNX : Hid (nestT t (j + 1) = .mk 4 false ⟨#[]⟩ [nestT t j] []) := Lib.hid rfl
    obtain ⟨tj, htj⟩ : ∃ tj, nestT t j = tj := ⟨_, rfl⟩
    rw [htj] at hA hBQ HNX
    have HTJ := Lib.hid htj
    clear htj
    obtain ⟨k1, hk1⟩ : ∃ k1, tj.kind = k1 := ⟨_, rfl⟩
    obtain ⟨b1, hb1⟩ : ∃ b1, tj.isB = b1 := ⟨_, rfl⟩
    obtain ⟨s1, hs1⟩ : ∃ s1, tj.text = s1 := ⟨_, rfl⟩
    rw [hk1, hb1, hs1] at hBQ
    have HK1 := Lib.hid hk1
    have HB1 := Lib.hid hb1
    have HS1 := Lib.hid hs1
    clear hk1 hb1 hs1
    by_cases hjn : (j : Int) < n
    · have hjm : j < n.toNat := by omega
      have cc0 := hBQ.out.c0
      have cc1 := hBQ.out.c1
      have cc2 := hBQ.out.c2
      have cc3 := hBQ.out.c3
      have cc4 := hBQ.out.c4
      obtain ⟨W3, hW3⟩ : ∃ W3, wr.alloc (.cells #[.int .i64 k1, .bool b1, .string s1, .slice A1 m1 c1, .slice B1 q1 d1] 25) = W3 := ⟨_, rfl⟩
      have ha : Below wr.heap.size wr W3 := by rw [← hW3]; exact below_allocV wr _
      have BQ3 := hBQ.out.below ha hBQ.out.lt
      have BR3 := hBR.out.below ha hBR.out.lt
      have dd0 := BQ3.c0
      have dd1 := BQ3.c1
      have dd2 := BQ3.c2
      have dd3 := BQ3.c3
      have dd4 := BQ3.c4
      have ff0 := BQ3.fz 0
      have ff1 := BQ3.fz 1
      have ff2 := BQ3.fz 2
      have ff3 := BQ3.fz 3
      have ff4 := BQ3.fz 4
      have hQw := hBQ.out.lt
      have Q4 := Lib.hid (put5_bx (a := .int .i64 4) (b := .bool false) (s := .string ⟨#[]⟩) (x := .slice (some ⟨wr.heap.size, 0, none⟩) 1 1) (y := .slice none 0 0) BQ3)
      have hst : ∀ z, z ≠ Q → (put5 W3 Q (.int .i64 4) (.bool false) (.string ⟨#[]⟩) (.slice (some ⟨wr.heap.size, 0, none⟩) 1 1) (.slice none 0 0)).heap[z]? = W3.heap[z]? := fun z hz => put5_heap z hz
      have hsz : (put5 W3 Q (.int .i64 4) (.bool false) (.string ⟨#[]⟩) (.slice (some ⟨wr.heap.size, 0, none⟩) 1 1) (.slice none 0 0)).heap.size = wr.heap.size + 1 := by rw [put5_size, ← hW3, World.size_alloc]
      have R4 := Lib.hid (BR3.same (hst R (by omega)))
      have B4 := Lib.hid (put5_below (a := .int .i64 4) (b := .bool false) (s := .string ⟨#[]⟩) (x := .slice (some ⟨wr.heap.size, 0, none⟩) 1 1) (y := .slice none 0 0) (R := Q) (hB.out.trans (ha.mono hB.out.size)) (show w.heap.size ≤ Q by have := HQ.out; omega))
      have hA' := hA.out
      have hst2 := hst
      rw [← hW3, ← HK1.out, ← HB1.out, ← HS1.out] at hst2
      have A4 := Lib.hid (Aside2.nest hQw hBR.out.lt (by rw [put5_size, World.size_alloc]; omega) hA' hst2)
      rw [HK1.out, HB1.out, HS1.out, hW3] at A4
      have HST := Lib.hid hst
      have HSZ := Lib.hid hsz
      clear hst hst2 hA' ha BQ3 BR3 hsz
      go_wp2_with fail
      clear cc0 cc1 cc2 cc3 cc4 dd0 dd1 dd2 dd3 dd4 ff0 ff1 ff2 ff3 ff4
      rw [show ((((W3.setCell ⟨Q, 0, none⟩ (.int .i64 4)).setCell ⟨Q, 1, none⟩ (.bool false)).setCell ⟨Q, 2, none⟩ (.string ⟨#[]⟩)).setCell ⟨Q, 3, none⟩ (.slice (some ⟨wr.heap.size, 0, none⟩) 1 1)).setCell ⟨Q, 4, none⟩ (.slice none 0 0) = put5 W3 Q (.int .i64 4) (.bool false) (.string ⟨#[]⟩) (.slice (some ⟨wr.heap.size, 0, none⟩) 1 1) (.slice none 0 0) from rfl]
      generalize put5 W3 Q (.int .i64 4) (.bool false) (.string ⟨#[]⟩) (.slice (some ⟨wr.heap.size, 0, none⟩) 1 1) (.slice none 0 0) = w6 at *
      refine ⟨⟨j + 1, some ⟨wr.heap.size, 0, none⟩, 1, 1, none, 0, 0, by go_num, by omega, ?_, ?_, R4, B4⟩, by simp [intOf]; omega⟩
      · rw [HNX.out]; exact A4
      · rw [HNX.out]; exact Q4
    · have cc0 := hBQ.out.c0
      have cc1 := hBQ.out.c1
      have cc2 := hBQ.out.c2
      have cc3 := hBQ.out.c3
      have cc4 := hBQ.out.c4
      have dd0 := hBR.out.c0
      have dd1 := hBR.out.c1
      have dd2 := hBR.out.c2
      have dd3 := hBR.out.c3
      have dd4 := hBR.out.c4
      have ff0 := hBR.out.fz 0
      have ff1 := hBR.out.fz 1
      have ff2 := hBR.out.fz 2
      have ff3 := hBR.out.fz 3
      have ff4 := hBR.out.fz 4
      obtain hjn' : j = n.toNat := by omega
      go_wp2_with fail
      have RZ := put5_bx (a := .int .i64 k1) (b := .bool b1) (s := .string s1) (x := .slice A1 m1 c1) (y := .slice B1 q1 d1) hBR.out
      have BZ := put5_below (a := .int .i64 k1) (b := .bool b1) (s := .string s1) (x := .slice A1 m1 c1) (y := .slice B1 q1 d1) (R := R) hB.out (show w.heap.size ≤ R by have := HQ.out; omega)
      have hstz : ∀ z, z ≠ R → (put5 wr R (.int .i64 k1) (.bool b1) (.string s1) (.slice A1 m1 c1) (.slice B1 q1 d1)).heap[z]? = wr.heap[z]? := fun z hz => put5_heap z hz
      have AZ := Aside2.to hA.out hstz
      rw [HK1.out, HB1.out, HS1.out] at AZ
      clear cc0 cc1 cc2 cc3 cc4 dd0 dd1 dd2 dd3 dd4 ff0 ff1 ff2 ff3 ff4
      rw [show ((((wr.setCell ⟨R, 0, none⟩ (.int .i64 k1)).setCell ⟨R, 1, none⟩ (.bool b1)).setCell ⟨R, 2, none⟩ (.string s1)).setCell ⟨R, 3, none⟩ (.slice A1 m1 c1)).setCell ⟨R, 4, none⟩ (.slice B1 q1 d1) = put5 wr R (.int .i64 k1) (.bool b1) (.string s1) (.slice A1 m1 c1) (.slice B1 q1 d1) from rfl]
      generalize put5 wr R (.int .i64 k1) (.bool b1) (.string s1) (.slice A1 m1 c1) (.slice B1 q1 d1) = w9 at *
      have e0 := RZ.c0
      have e1 := RZ.c1
      have e2 := RZ.c2
      have e3 := RZ.c3
      have e4 := RZ.c4
      refine bodyPost_ret (v := .agg #[.int .i64 k1, .bool b1, .string s1, .slice A1 m1 c1, .slice B1 q1 d1]) ?_ rfl ⟨_, rfl, BZ, ?_⟩
      · simp only [results]
        go_simp
      · rw [← hjn', HTJ.out]
        exact AZ
end Vt
end Go.Proofs.YtlgeibaejeiemaaDoor
