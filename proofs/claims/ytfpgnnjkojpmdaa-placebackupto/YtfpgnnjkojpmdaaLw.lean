/-
  The iterator that All (package lines) hands back.
-/
import Derived.Test.YtfpgnnjkojpmdaaLs
namespace Go.Proofs.Ytfpgnnjkojpmdaa
set_option linter.unusedVariables false
set_option linter.unusedSimpArgs false
open Go.RowKit Go.Shelf
namespace Lc
open Utf Wd Wr We Wi Lm
attribute [local go_sem] Oper.semAt_some

/-- the lines and their numbers -/
def en (L : List (Nat × Nat)) : List (Nat × (Nat × Nat)) := L.mapIdx fun i x => (i, x)
theorem en_at {L : List (Nat × Nat)} {i : Nat} {x : Nat × Nat} (h : L[i]? = some x) : (en L)[i]? = some (i, x) := by simp [en, h]
theorem en_len (L : List (Nat × Nat)) : (en L).length = L.length := by simp [en]
theorem en_take {L : List (Nat × Nat)} {i : Nat} {x : Nat × Nat} (h : L[i]? = some x) : (en L).take (i + 1) = (en L).take i ++ [(i, x)] := by
  rw [List.take_add_one, en_at h]; rfl
/-- a number and a span, as values -/
def isp (x : Nat × (Nat × Nat)) : Array Value := #[.int .i64 (x.1 : Int), sp x.2]

set_option maxRecDepth 100000 in
set_option maxHeartbeats 2000000 in
theorem all1_in (n : Nat) (hn : 1 ≤ n) (l Bn n₀ P g cap : Nat) (L : List (Nat × Nat)) (J Jx : List (Nat × (Nat × Nat)) → World → Prop)
    (hY : ∀ pre x W, J pre W → pre.length < L.length → L[x.1]? = some x.2 → YieldAt Fence.wide (n - 1) Try.prog l (isp x) W fun e W' =>
      (e = .returned (.bool true) ∧ J (pre ++ [x]) W' ∧ Below n₀ W W') ∨ (e = .returned (.bool false) ∧ Jx (pre ++ [x]) W'))
    (W : World) (hJ : AbidesFrom W.heap.size J) (hBn : W.cell? ⟨Bn, 0, none⟩ = some (.pointer (some ⟨P, 0, none⟩))) (hP : P < n₀) (hg : g < n₀) (hn₀ : n₀ ≤ W.heap.size) (hL : Rd W P g cap L) (h0 : J [] W) :
    CallsIn Fence.wide n Try.prog 52 #[.func (.yield l) #[] #[], .pointer (some ⟨Bn, 0, none⟩)] W fun e W' => (∃ v, e = .returned v) ∧
      ((∃ ys, ys = en L ∧ J ys W') ∨ (∃ pre, pre <+: en L ∧ Jx pre W')) := by
  have hmax : L.length ≤ 9223372036854775807 := by have := hL.2.1; have := hL.2.2.1; unfold maxLen at *; omega
  have c1 := hL.1
  have HR := Lib.hid hL
  have HJ := Lib.hid hJ
  clear hL hJ
  obtain ⟨m, hm⟩ : ∃ m, L.length = m := ⟨_, rfl⟩
  rw [hm] at c1 hmax
  have HM := Lib.hid hm
  clear hm
  refine callsIn_of_wp Try.func52 rfl trivial ?_ rfl
  simp only [Try.ntmps52, List.size_toArray, List.length_cons, List.length_nil, Nat.reduceAdd, Nat.reduceSub, Array.replicate_succ, Array.replicate_zero, List.push_toArray, List.append_toArray, List.nil_append, List.cons_append]
  gi_wp2
  gi_loopw [12] (fun p wr => ∃ (k : Nat), p = .int .i64 (k : Nat) ∧ k ≤ m ∧ Hid (Rd wr P g cap L) ∧ Hid (W.heap.size ≤ wr.heap.size) ∧ J ((en L).take k) wr)
    (fun p wr => m - (intOf p).toNat)
  case atStart => exact ⟨0, rfl, Nat.zero_le _, HR, Lib.hid (Nat.le_refl _), h0⟩
  case round =>
    obtain ⟨k, rfl, hk, hR, hsz, hJs⟩ := hrel
    by_cases hkm : k < m
    · have i1 : (k : Int) < (m : Int) := by omega
      have hx : L[k]? = some (L[k]'(by rw [HM.out]; omega)) := List.getElem?_eq_getElem _
      generalize L[k]'(by rw [HM.out]; omega) = x at hx
      have hc := hR.out.2.2.2 k x hx
      have ht := en_take hx
      have HX := Lib.hid hx
      have HT := Lib.hid ht
      obtain ⟨hc0, hc1⟩ := hc
      clear hx ht
      have hJ1 : J ((en L).take k) (wr.alloc (.cells #[.int .i64 (x.1 : Int), .int .i64 (x.2 : Int)] 44)) := HJ.out _ _ _ none hJs (World.grownBy_alloc wr _ none) (fun r e => by cases e)
      obtain ⟨fn, tmps, assign, body, hy, hRd⟩ := hY ((en L).take k) (k, x) _ hJ1 (by rw [List.length_take, en_len, HM.out]; omega) HX.out
      simp only [isp, sp] at hy
      have hbl : Below n₀ wr (wr.alloc (.cells #[.int .i64 (x.1 : Int), .int .i64 (x.2 : Int)] 44)) := (Below.refl _ wr).alloc (Nat.le_trans hn₀ hsz.out) _
      have HBL := Lib.hid hbl
      clear hJ1 hbl
      gi_wp2_with fail
      refine hRd.mono ?_
      rintro e W3 (⟨rfl, hJ3, hk3⟩ | ⟨rfl, hJx3⟩)
      · have hb3 := HBL.out.trans hk3
        have hR3 := Lib.hid (hR.out.below hb3 hP hg)
        have hs3 := Lib.hid (Nat.le_trans hsz.out hb3.size)
        rw [← HT.out] at hJ3
        clear hy hb3
        gi_wp2_with fail
        go_roundw
        case rel => exact ⟨k + 1, by go_num, by omega, hR3, hs3, hJ3⟩
        case measure => simp [intOf]; omega
      · rw [← HT.out] at hJx3
        have HX3 := Lib.hid hJx3
        clear hy hJx3
        gi_wp2_with fail
        refine bodyPost_ret (results_none rfl _ _ _) rfl ?_
        exact ⟨⟨_, rfl⟩, .inr ⟨_, List.take_prefix _ _, HX3.out⟩⟩
    · obtain rfl : k = m := by omega
      have i1 : ¬ (k : Int) < (k : Int) := by omega
      gi_wp2
      go_end0
      have he : (en L).take k = en L := List.take_of_length_le (by rw [en_len, HM.out]; exact Nat.le_refl _)
      exact ⟨⟨_, rfl⟩, .inl (he ▸ hJs)⟩

set_option maxHeartbeats 1000000 in
theorem all_in (N : Nat) (p : Option Addr) (w : World) :
    CallsIn Fence.wide N Try.prog 29 #[.pointer p] w fun e w' => e = .returned (.func (.func 52) #[] #[.pointer (some ⟨w.heap.size, 0, none⟩)]) ∧ w' = w.alloc (.cells #[.pointer p] 51) := by
  refine callsIn_of_wp Try.func29 rfl trivial ?_ rfl
  simp only [Try.ntmps29, List.size_toArray, List.length_cons, List.length_nil, Nat.reduceAdd, Nat.reduceSub, Array.replicate_succ, Array.replicate_zero, List.push_toArray, List.append_toArray, List.nil_append, List.cons_append]
  gi_wp2
  go_ret
  exact ⟨rfl, rfl⟩

theorem all_stops (n : Nat) (hn : 1 ≤ n) (Bn n₀ P g cap : Nat) (L : List (Nat × Nat)) (w : World) (hBn : Bn < w.heap.size) (hn₀ : n₀ ≤ w.heap.size) (hP : P < n₀) (hg : g < n₀)
    (hc : w.cell? ⟨Bn, 0, none⟩ = some (.pointer (some ⟨P, 0, none⟩))) (hL : Rd w P g cap L) :
    SeqStopsK Fence.wide n Try.prog 52 #[.pointer (some ⟨Bn, 0, none⟩)] isp (Below n₀) (fun ys => ys = en L) (fun pre => pre <+: en L) L.length w := fun l J Jx W hW hJ _ hY h0 =>
  all1_in n hn l Bn n₀ P g cap L J Jx (fun pre x W h1 h2 _ => hY pre x W h1 h2) W hJ ((hW.cell (p := ⟨Bn, 0, none⟩) hBn).trans hc) hP hg (Nat.le_trans hn₀ hW.size) (hL.below (hW.mono hn₀) hP hg) h0

/-- a line of the list, with its number -/
def Row1 (L : List (Nat × Nat)) : Type := { x : Nat × (Nat × Nat) // L[x.1]? = some x.2 }
/-- the same; what is yielded is one of the lines -/
theorem all_lines (n : Nat) (hn : 1 ≤ n) (Bn n₀ P g cap : Nat) (L : List (Nat × Nat)) (w : World) (hBn : Bn < w.heap.size) (hn₀ : n₀ ≤ w.heap.size) (hP : P < n₀) (hg : g < n₀)
    (hc : w.cell? ⟨Bn, 0, none⟩ = some (.pointer (some ⟨P, 0, none⟩))) (hL : Rd w P g cap L) :
    SeqStopsK (α := Row1 L) Fence.wide n Try.prog 52 #[.pointer (some ⟨Bn, 0, none⟩)] (fun x => isp x.1) (Below n₀) (fun _ => True) (fun _ => True) L.length w := fun l J Jx W hW hJ _ hY h0 => by
  refine (all1_in n hn l Bn n₀ P g cap L (fun pre W => ∃ pre' : List (Row1 L), pre'.map (·.1) = pre ∧ J pre' W) (fun pre W => ∃ pre' : List (Row1 L), pre'.map (·.1) = pre ∧ Jx pre' W) ?_ W ?_ ((hW.cell (p := ⟨Bn, 0, none⟩) hBn).trans hc) hP hg (Nat.le_trans hn₀ hW.size) (hL.below (hW.mono hn₀) hP hg) ⟨[], rfl, h0⟩).mono ?_
  · rintro pre x W1 ⟨pre', rfl, h1⟩ h2 h3
    obtain ⟨fn, tmps, assign, body, hy, hRd⟩ := hY pre' ⟨x, h3⟩ W1 h1 (by simpa using h2)
    refine ⟨fn, tmps, assign, body, hy, hRd.mono ?_⟩
    rintro e W3 (⟨rfl, hJ3, hk3⟩ | ⟨rfl, hJx3⟩)
    · exact .inl ⟨rfl, ⟨_, by rw [List.map_append]; rfl, hJ3⟩, hk3⟩
    · exact .inr ⟨rfl, ⟨_, by rw [List.map_append]; rfl, hJx3⟩⟩
  · rintro pre W1 W2 row ⟨pre', rfl, h1⟩ hg' hr
    exact ⟨pre', rfl, hJ _ _ _ row h1 hg' hr⟩
  · rintro e W3 ⟨hv, (⟨ys, _, ys', _, hj⟩ | ⟨pre, _, pre', _, hj⟩)⟩
    · exact ⟨hv, .inl ⟨ys', trivial, hj⟩⟩
    · exact ⟨hv, .inr ⟨pre', trivial, hj⟩⟩

set_option maxHeartbeats 2000000 in
/-- of an index that is none: nothing -/
theorem none1_in (n : Nat) (hn : 1 ≤ n) (l Bn : Nat) (p : Option Addr) (J Jx : List (Nat × (Nat × Nat)) → World → Prop)
    (W : World) (hBn : W.cell? ⟨Bn, 0, none⟩ = some (.pointer p)) (hp : p = none ∨ ∃ P, p = some ⟨P, 0, none⟩ ∧ W.cell? ⟨P, 0, none⟩ = some (.slice none 0 0)) (h0 : J [] W) :
    CallsIn Fence.wide n Try.prog 52 #[.func (.yield l) #[] #[], .pointer (some ⟨Bn, 0, none⟩)] W fun e W' => (∃ v, e = .returned v) ∧
      ((∃ ys, ys = [] ∧ J ys W') ∨ (∃ pre, pre <+: [] ∧ Jx pre W')) := by
  rcases hp with rfl | ⟨P, rfl, hc⟩
  · refine callsIn_of_wp Try.func52 rfl trivial ?_ rfl
    simp only [Try.ntmps52, List.size_toArray, List.length_cons, List.length_nil, Nat.reduceAdd, Nat.reduceSub, Array.replicate_succ, Array.replicate_zero, List.push_toArray, List.append_toArray, List.nil_append, List.cons_append]
    gi_wp2
    refine bodyPost_ret (results_none rfl _ _ _) rfl ?_
    exact ⟨⟨_, rfl⟩, .inl ⟨_, rfl, h0⟩⟩
  · refine callsIn_of_wp Try.func52 rfl trivial ?_ rfl
    simp only [Try.ntmps52, List.size_toArray, List.length_cons, List.length_nil, Nat.reduceAdd, Nat.reduceSub, Array.replicate_succ, Array.replicate_zero, List.push_toArray, List.append_toArray, List.nil_append, List.cons_append]
    gi_wp2
    gi_loopw [12] (fun p wr => p = .int .i64 0 ∧ wr = W) (fun _ _ => 0)
    case atStart => exact ⟨rfl, rfl⟩
    case round =>
      obtain ⟨rfl, rfl⟩ := hrel
      gi_wp2
      go_end0
      exact ⟨⟨_, rfl⟩, .inl ⟨_, rfl, h0⟩⟩
theorem none_stops (n : Nat) (hn : 1 ≤ n) (Bn : Nat) (p : Option Addr) (w : World) (hBn : Bn < w.heap.size)
    (hc : w.cell? ⟨Bn, 0, none⟩ = some (.pointer p)) (hp : p = none ∨ ∃ P, p = some ⟨P, 0, none⟩ ∧ P < w.heap.size ∧ w.cell? ⟨P, 0, none⟩ = some (.slice none 0 0)) :
    SeqStopsK Fence.wide n Try.prog 52 #[.pointer (some ⟨Bn, 0, none⟩)] isp (Below 0) (fun ys => ys = []) (fun pre => pre <+: []) 0 w := fun l J Jx W hW hJ _ hY h0 =>
  none1_in n hn l Bn p J Jx W ((hW.cell (p := ⟨Bn, 0, none⟩) hBn).trans hc) (by
    rcases hp with h | ⟨P, h1, h2, h3⟩
    · exact .inl h
    · exact .inr ⟨P, h1, (hW.cell (p := ⟨P, 0, none⟩) h2).trans h3⟩) h0
end Lc
end Go.Proofs.Ytfpgnnjkojpmdaa
