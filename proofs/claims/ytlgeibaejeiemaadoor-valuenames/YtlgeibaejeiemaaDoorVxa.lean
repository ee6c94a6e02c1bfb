/-
  A region in which a chain of four operations, and two more beside it, come up in any order.
-/
import Derived.Test.YtlgeibaejeiemaaDoorVw
namespace Go.Proofs.YtlgeibaejeiemaaDoor
set_option linter.unusedVariables false
set_option linter.unusedSimpArgs false
open Go.RowKit
namespace Vt
open Wd We

def Lp (p : Nat) (x y : Bool) : Array Bool := #[x, true, decide (1 ≤ p), true, decide (2 ≤ p), decide (3 ≤ p), decide (4 ≤ p), false, false, false, y, false, false]
section
variable {P : Program} {ops : Array Oper} {Q : Exit → Act → World → Prop} {md : Region.Mode} {S : World → Prop} {held : List Nat}
theorem op_run (i : Nat) (d : Tmp) (v : Value) (w' : World) {o : Oper} {a : Act} {w : World} {K : Act → World → Prop} (ho : ops[i]? = some o) (hd : o.dst = some d) (hw : Region.wanted o (yielded ops a.tmps) = true)
    (hrun : (execOp a.eval o).run P w = .ok (.value v) w') (h : K (a.put (some d) v) w') : wpOp P ops Q i K a w := by
  refine wpOp_step ho fun K' hK => ?_
  rw [if_pos hw]
  unfold Oper.wp
  rw [hrun, Oper.upon_value, hd]
  exact hK _ _ h
theorem op_call (i : Nat) (d : Tmp) {o : Oper} {a : Act} {w : World} {K : Act → World → Prop} (ho : ops[i]? = some o) (hd : o.dst = some d) (hw : Region.wanted o (yielded ops a.tmps) = true)
    {fn : FuncId} {args : Array Value} (hrun : (execOp a.eval o).run P w = .ok (.enter fn args) w) {R : Ending → World → Prop} (hc : Calls P fn args w R) (h : ∀ e w', R e w' → ∃ v, e = .returned v ∧ K (a.put (some d) v) w') : wpOp P ops Q i K a w := by
  refine wpOp_step ho fun K' hK => ?_
  rw [if_pos hw]
  unfold Oper.wp
  rw [hrun, Oper.upon_enter]
  refine hc.mono ?_
  intro e w' he
  obtain ⟨v, rfl, h1⟩ := h e w' he
  show K' (a.put o.dst v) w'
  rw [hd]; exact hK _ _ h1
theorem tri_inv {n : Nat} (J : Nat → Bool → Bool → Act → World → Prop)
    (r000 : Region.ready md ops (Lp 0 false false) = [0, 2, 10])
    (r001 : Region.ready md ops (Lp 0 false true) = [0, 2])
    (r010 : Region.ready md ops (Lp 0 true false) = [2, 10])
    (r011 : Region.ready md ops (Lp 0 true true) = [2])
    (r100 : Region.ready md ops (Lp 1 false false) = [0, 4, 10])
    (r101 : Region.ready md ops (Lp 1 false true) = [0, 4])
    (r110 : Region.ready md ops (Lp 1 true false) = [4, 10])
    (r111 : Region.ready md ops (Lp 1 true true) = [4])
    (r200 : Region.ready md ops (Lp 2 false false) = [0, 5, 10])
    (r201 : Region.ready md ops (Lp 2 false true) = [0, 5])
    (r210 : Region.ready md ops (Lp 2 true false) = [5, 10])
    (r211 : Region.ready md ops (Lp 2 true true) = [5])
    (r300 : Region.ready md ops (Lp 3 false false) = [0, 10])
    (r301 : Region.ready md ops (Lp 3 false true) = [0])
    (r310 : Region.ready md ops (Lp 3 true false) = [6, 10])
    (r311 : Region.ready md ops (Lp 3 true true) = [6])
    (hX : ∀ p y a w, p ≤ 3 → J p false y a w → wpOp P ops Q 0 (fun a' w' => S w' ∧ J p true y a' w') a w)
    (hY : ∀ p x a w, p ≤ 3 → J p x false a w → wpOp P ops Q 10 (fun a' w' => S w' ∧ J p x true a' w') a w)
    (hC1 : ∀ x y a w, J 0 x y a w → wpOp P ops Q 2 (fun a' w' => S w' ∧ J 1 x y a' w') a w)
    (hC2 : ∀ x y a w, J 1 x y a w → wpOp P ops Q 4 (fun a' w' => S w' ∧ J 2 x y a' w') a w)
    (hC3 : ∀ x y a w, J 2 x y a w → wpOp P ops Q 5 (fun a' w' => S w' ∧ J 3 x y a' w') a w)
    (hC4 : ∀ y a w, J 3 true y a w → wpOp P ops Q 6 (fun a' w' => S w' ∧ J 4 true y a' w') a w)
    (h0 : ∀ a w, J 4 true true a w → anyG P md ops Q S held n (Lp 4 true true) a w)
    (h1 : ∀ a w, J 4 true false a w → anyG P md ops Q S held (1 + n) (Lp 4 true false) a w) : ∀ a w, J 0 false false a w → anyG P md ops Q S held (6 + n) (Lp 0 false false) a w := by
  have g411 : ∀ a w, J 4 true true a w → anyG P md ops Q S held (0 + n) (Lp 4 true true) a w := fun a w h => by rw [Nat.zero_add]; exact h0 a w h
  have g311 : ∀ a w, J 3 true true a w → anyG P md ops Q S held (1 + n) (Lp 3 true true) a w := fun a w h => by
    rw [show 1 + n = (0 + n) + 1 by omega]
    refine ⟨(fun e => by rw [r311] at e; cases e), fun i hi => ?_⟩
    rw [r311] at hi
    obtain rfl : i = 6 := by simpa using hi
    · exact wpOp_mono (fun a' w' hh => ⟨.inr hh.1, g411 a' w' hh.2⟩) (hC4 true a w h)
  have g410 : ∀ a w, J 4 true false a w → anyG P md ops Q S held (1 + n) (Lp 4 true false) a w := h1
  have g211 : ∀ a w, J 2 true true a w → anyG P md ops Q S held (2 + n) (Lp 2 true true) a w := fun a w h => by
    rw [show 2 + n = (1 + n) + 1 by omega]
    refine ⟨(fun e => by rw [r211] at e; cases e), fun i hi => ?_⟩
    rw [r211] at hi
    obtain rfl : i = 5 := by simpa using hi
    · exact wpOp_mono (fun a' w' hh => ⟨.inr hh.1, g311 a' w' hh.2⟩) (hC3 true true a w h)
  have g301 : ∀ a w, J 3 false true a w → anyG P md ops Q S held (2 + n) (Lp 3 false true) a w := fun a w h => by
    rw [show 2 + n = (1 + n) + 1 by omega]
    refine ⟨(fun e => by rw [r301] at e; cases e), fun i hi => ?_⟩
    rw [r301] at hi
    obtain rfl : i = 0 := by simpa using hi
    · exact wpOp_mono (fun a' w' hh => ⟨.inr hh.1, g311 a' w' hh.2⟩) (hX 3 true a w (by omega) h)
  have g310 : ∀ a w, J 3 true false a w → anyG P md ops Q S held (2 + n) (Lp 3 true false) a w := fun a w h => by
    rw [show 2 + n = (1 + n) + 1 by omega]
    refine ⟨(fun e => by rw [r310] at e; cases e), fun i hi => ?_⟩
    rw [r310] at hi
    rcases (by simpa using hi : i = 6 ∨ i = 10) with rfl | rfl
    · exact wpOp_mono (fun a' w' hh => ⟨.inr hh.1, g410 a' w' hh.2⟩) (hC4 false a w h)
    · exact wpOp_mono (fun a' w' hh => ⟨.inr hh.1, g311 a' w' hh.2⟩) (hY 3 true a w (by omega) h)
  have g111 : ∀ a w, J 1 true true a w → anyG P md ops Q S held (3 + n) (Lp 1 true true) a w := fun a w h => by
    rw [show 3 + n = (2 + n) + 1 by omega]
    refine ⟨(fun e => by rw [r111] at e; cases e), fun i hi => ?_⟩
    rw [r111] at hi
    obtain rfl : i = 4 := by simpa using hi
    · exact wpOp_mono (fun a' w' hh => ⟨.inr hh.1, g211 a' w' hh.2⟩) (hC2 true true a w h)
  have g201 : ∀ a w, J 2 false true a w → anyG P md ops Q S held (3 + n) (Lp 2 false true) a w := fun a w h => by
    rw [show 3 + n = (2 + n) + 1 by omega]
    refine ⟨(fun e => by rw [r201] at e; cases e), fun i hi => ?_⟩
    rw [r201] at hi
    rcases (by simpa using hi : i = 0 ∨ i = 5) with rfl | rfl
    · exact wpOp_mono (fun a' w' hh => ⟨.inr hh.1, g211 a' w' hh.2⟩) (hX 2 true a w (by omega) h)
    · exact wpOp_mono (fun a' w' hh => ⟨.inr hh.1, g301 a' w' hh.2⟩) (hC3 false true a w h)
  have g210 : ∀ a w, J 2 true false a w → anyG P md ops Q S held (3 + n) (Lp 2 true false) a w := fun a w h => by
    rw [show 3 + n = (2 + n) + 1 by omega]
    refine ⟨(fun e => by rw [r210] at e; cases e), fun i hi => ?_⟩
    rw [r210] at hi
    rcases (by simpa using hi : i = 5 ∨ i = 10) with rfl | rfl
    · exact wpOp_mono (fun a' w' hh => ⟨.inr hh.1, g310 a' w' hh.2⟩) (hC3 true false a w h)
    · exact wpOp_mono (fun a' w' hh => ⟨.inr hh.1, g211 a' w' hh.2⟩) (hY 2 true a w (by omega) h)
  have g300 : ∀ a w, J 3 false false a w → anyG P md ops Q S held (3 + n) (Lp 3 false false) a w := fun a w h => by
    rw [show 3 + n = (2 + n) + 1 by omega]
    refine ⟨(fun e => by rw [r300] at e; cases e), fun i hi => ?_⟩
    rw [r300] at hi
    rcases (by simpa using hi : i = 0 ∨ i = 10) with rfl | rfl
    · exact wpOp_mono (fun a' w' hh => ⟨.inr hh.1, g310 a' w' hh.2⟩) (hX 3 false a w (by omega) h)
    · exact wpOp_mono (fun a' w' hh => ⟨.inr hh.1, g301 a' w' hh.2⟩) (hY 3 false a w (by omega) h)
  have g011 : ∀ a w, J 0 true true a w → anyG P md ops Q S held (4 + n) (Lp 0 true true) a w := fun a w h => by
    rw [show 4 + n = (3 + n) + 1 by omega]
    refine ⟨(fun e => by rw [r011] at e; cases e), fun i hi => ?_⟩
    rw [r011] at hi
    obtain rfl : i = 2 := by simpa using hi
    · exact wpOp_mono (fun a' w' hh => ⟨.inr hh.1, g111 a' w' hh.2⟩) (hC1 true true a w h)
  have g101 : ∀ a w, J 1 false true a w → anyG P md ops Q S held (4 + n) (Lp 1 false true) a w := fun a w h => by
    rw [show 4 + n = (3 + n) + 1 by omega]
    refine ⟨(fun e => by rw [r101] at e; cases e), fun i hi => ?_⟩
    rw [r101] at hi
    rcases (by simpa using hi : i = 0 ∨ i = 4) with rfl | rfl
    · exact wpOp_mono (fun a' w' hh => ⟨.inr hh.1, g111 a' w' hh.2⟩) (hX 1 true a w (by omega) h)
    · exact wpOp_mono (fun a' w' hh => ⟨.inr hh.1, g201 a' w' hh.2⟩) (hC2 false true a w h)
  have g110 : ∀ a w, J 1 true false a w → anyG P md ops Q S held (4 + n) (Lp 1 true false) a w := fun a w h => by
    rw [show 4 + n = (3 + n) + 1 by omega]
    refine ⟨(fun e => by rw [r110] at e; cases e), fun i hi => ?_⟩
    rw [r110] at hi
    rcases (by simpa using hi : i = 4 ∨ i = 10) with rfl | rfl
    · exact wpOp_mono (fun a' w' hh => ⟨.inr hh.1, g210 a' w' hh.2⟩) (hC2 true false a w h)
    · exact wpOp_mono (fun a' w' hh => ⟨.inr hh.1, g111 a' w' hh.2⟩) (hY 1 true a w (by omega) h)
  have g200 : ∀ a w, J 2 false false a w → anyG P md ops Q S held (4 + n) (Lp 2 false false) a w := fun a w h => by
    rw [show 4 + n = (3 + n) + 1 by omega]
    refine ⟨(fun e => by rw [r200] at e; cases e), fun i hi => ?_⟩
    rw [r200] at hi
    rcases (by simpa using hi : i = 0 ∨ i = 5 ∨ i = 10) with rfl | rfl | rfl
    · exact wpOp_mono (fun a' w' hh => ⟨.inr hh.1, g210 a' w' hh.2⟩) (hX 2 false a w (by omega) h)
    · exact wpOp_mono (fun a' w' hh => ⟨.inr hh.1, g300 a' w' hh.2⟩) (hC3 false false a w h)
    · exact wpOp_mono (fun a' w' hh => ⟨.inr hh.1, g201 a' w' hh.2⟩) (hY 2 false a w (by omega) h)
  have g001 : ∀ a w, J 0 false true a w → anyG P md ops Q S held (5 + n) (Lp 0 false true) a w := fun a w h => by
    rw [show 5 + n = (4 + n) + 1 by omega]
    refine ⟨(fun e => by rw [r001] at e; cases e), fun i hi => ?_⟩
    rw [r001] at hi
    rcases (by simpa using hi : i = 0 ∨ i = 2) with rfl | rfl
    · exact wpOp_mono (fun a' w' hh => ⟨.inr hh.1, g011 a' w' hh.2⟩) (hX 0 true a w (by omega) h)
    · exact wpOp_mono (fun a' w' hh => ⟨.inr hh.1, g101 a' w' hh.2⟩) (hC1 false true a w h)
  have g010 : ∀ a w, J 0 true false a w → anyG P md ops Q S held (5 + n) (Lp 0 true false) a w := fun a w h => by
    rw [show 5 + n = (4 + n) + 1 by omega]
    refine ⟨(fun e => by rw [r010] at e; cases e), fun i hi => ?_⟩
    rw [r010] at hi
    rcases (by simpa using hi : i = 2 ∨ i = 10) with rfl | rfl
    · exact wpOp_mono (fun a' w' hh => ⟨.inr hh.1, g110 a' w' hh.2⟩) (hC1 true false a w h)
    · exact wpOp_mono (fun a' w' hh => ⟨.inr hh.1, g011 a' w' hh.2⟩) (hY 0 true a w (by omega) h)
  have g100 : ∀ a w, J 1 false false a w → anyG P md ops Q S held (5 + n) (Lp 1 false false) a w := fun a w h => by
    rw [show 5 + n = (4 + n) + 1 by omega]
    refine ⟨(fun e => by rw [r100] at e; cases e), fun i hi => ?_⟩
    rw [r100] at hi
    rcases (by simpa using hi : i = 0 ∨ i = 4 ∨ i = 10) with rfl | rfl | rfl
    · exact wpOp_mono (fun a' w' hh => ⟨.inr hh.1, g110 a' w' hh.2⟩) (hX 1 false a w (by omega) h)
    · exact wpOp_mono (fun a' w' hh => ⟨.inr hh.1, g200 a' w' hh.2⟩) (hC2 false false a w h)
    · exact wpOp_mono (fun a' w' hh => ⟨.inr hh.1, g101 a' w' hh.2⟩) (hY 1 false a w (by omega) h)
  have g000 : ∀ a w, J 0 false false a w → anyG P md ops Q S held (6 + n) (Lp 0 false false) a w := fun a w h => by
    rw [show 6 + n = (5 + n) + 1 by omega]
    refine ⟨(fun e => by rw [r000] at e; cases e), fun i hi => ?_⟩
    rw [r000] at hi
    rcases (by simpa using hi : i = 0 ∨ i = 2 ∨ i = 10) with rfl | rfl | rfl
    · exact wpOp_mono (fun a' w' hh => ⟨.inr hh.1, g010 a' w' hh.2⟩) (hX 0 false a w (by omega) h)
    · exact wpOp_mono (fun a' w' hh => ⟨.inr hh.1, g100 a' w' hh.2⟩) (hC1 false false a w h)
    · exact wpOp_mono (fun a' w' hh => ⟨.inr hh.1, g001 a' w' hh.2⟩) (hY 0 false a w (by omega) h)
  exact g000
end
theorem may_nest {t : Tr} (h : may t = true) : ∀ n, may (nestT t n) = true
  | 0 => h
  | n + 1 => by
    rw [nestT, may_mk]
    simp [may_nest h n]
    rfl
theorem chk_may {t : Tr} (hm : may t = true) : chk t = if 128 < dep t then 111 else 0 := by unfold chk; rw [if_neg (by rw [hm]; decide)]
def objD (TT MM : Tr) : Tr := .mk 5 false ⟨#[]⟩ [TT, MM] [⟨#[120]⟩, ⟨#[121]⟩]
def textZ : Value := .agg #[.int .i64 3, .bool false, .string ⟨#[122]⟩, .slice none 0 0, .slice none 0 0]
/-- what is there in ValueDeep's region: the chain's first p operations are done, the names are there (x), the box is there (y) -/
structure DF (W w : World) (TT MM : Tr) (p : Nat) (x y : Bool) (s20 s22 s24 s25 s26 s8 : Value) : Prop where
  up : Below W.heap.size W w
  x1 : x = true → ∃ g, s20 = .slice (some ⟨g, 0, none⟩) 2 2 ∧ Nm w (some ⟨g, 0, none⟩) 2 2 [⟨#[120]⟩, ⟨#[121]⟩]
  c1 : 1 ≤ p → s22 = textZ
  c2 : 2 ≤ p → Vl w s24 MM
  c3 : 3 ≤ p → ∃ g, s25 = .slice (some ⟨g, 0, none⟩) 2 2 ∧ VL w (some ⟨g, 0, none⟩) 2 2 [TT, MM]
  c4 : 4 ≤ p → ∃ A m c B q d, ∃ S : Nat → Prop, s26 = .tuple #[.agg #[.int .i64 5, .bool false, .string ⟨#[]⟩, .slice A m c, .slice B q d], .int .i64 0] ∧ OV 25 9 w S (.agg #[.int .i64 5, .bool false, .string ⟨#[]⟩, .slice A m c, .slice B q d]) (objD TT MM) ∧
    (∀ z, S z → W.heap.size ≤ z ∧ z < w.heap.size) ∧ (y = true → ∀ g, s8 = .pointer (some ⟨g, 0, none⟩) → ¬ S g)
  y1 : y = true → ∃ g, s8 = .pointer (some ⟨g, 0, none⟩) ∧ Bx w g (.int .i64 0) (.bool false) (.string ⟨#[]⟩) (.slice none 0 0) (.slice none 0 0) ∧ W.heap.size ≤ g
section
variable {W w w' : World} {TT MM : Tr} {p : Nat} {x y : Bool} {s20 s22 s24 s25 s26 s8 : Value}
theorem DF.below (h : DF W w TT MM p x y s20 s22 s24 s25 s26 s8) (b : Below w.heap.size w w') : DF W w' TT MM p x y s20 s22 s24 s25 s26 s8 := by
  refine ⟨extV h.up b, fun hx => ?_, h.c1, fun hp => Vl.up b _ (h.c2 hp), fun hp => ?_, fun hp => ?_, fun hy => ?_⟩
  · obtain ⟨g, h1, h2⟩ := h.x1 hx; exact ⟨g, h1, h2.below b⟩
  · obtain ⟨g, h1, h2⟩ := h.c3 hp; exact ⟨g, h1, h2.below b⟩
  · obtain ⟨A, m, c, B, q, d, S, h1, h2, h3, h4⟩ := h.c4 hp
    exact ⟨A, m, c, B, q, d, S, h1, h2.kept _ (fun z hz => b.block z (h3 z hz).2), fun z hz => ⟨(h3 z hz).1, Nat.lt_of_lt_of_le (h3 z hz).2 b.size⟩, h4⟩
  · obtain ⟨g, h1, h2, h3⟩ := h.y1 hy; exact ⟨g, h1, h2.below b h2.lt, h3⟩
theorem DF.setX (h : DF W w TT MM p false y s20 s22 s24 s25 s26 s8) {g : Nat} (b : Below w.heap.size w w') (hn : Nm w' (some ⟨g, 0, none⟩) 2 2 [⟨#[120]⟩, ⟨#[121]⟩]) : DF W w' TT MM p true y (.slice (some ⟨g, 0, none⟩) 2 2) s22 s24 s25 s26 s8 :=
  have k := h.below b
  ⟨k.up, fun _ => ⟨g, rfl, hn⟩, k.c1, k.c2, k.c3, k.c4, k.y1⟩
theorem DF.setY (h : DF W w TT MM p x false s20 s22 s24 s25 s26 s8) (b : Below w.heap.size w w') (hn : Bx w' w.heap.size (.int .i64 0) (.bool false) (.string ⟨#[]⟩) (.slice none 0 0) (.slice none 0 0)) : DF W w' TT MM p x true s20 s22 s24 s25 s26 (.pointer (some ⟨w.heap.size, 0, none⟩)) := by
  have k := h.below b
  refine ⟨k.up, k.x1, k.c1, k.c2, k.c3, fun hp => ?_, fun _ => ⟨_, rfl, hn, h.up.size⟩⟩
  obtain ⟨A, m, c, B, q, d, S, h1, h2, h3, h4⟩ := h.c4 hp
  refine ⟨A, m, c, B, q, d, S, h1, h2.kept _ (fun z hz => b.block z (h3 z hz).2), fun z hz => ⟨(h3 z hz).1, Nat.lt_of_lt_of_le (h3 z hz).2 b.size⟩, fun _ g hg hS => ?_⟩
  injection hg with hg
  injection hg with hg
  injection hg with hg
  have := (h3 g hS).2
  omega
theorem DF.set1 (h : DF W w TT MM 0 x y s20 s22 s24 s25 s26 s8) (b : Below w.heap.size w w') : DF W w' TT MM 1 x y s20 textZ s24 s25 s26 s8 :=
  have k := h.below b
  ⟨k.up, k.x1, fun _ => rfl, fun hp => absurd hp (by omega), fun hp => absurd hp (by omega), fun hp => absurd hp (by omega), k.y1⟩
theorem DF.set2 {u : Value} (h : DF W w TT MM 1 x y s20 s22 s24 s25 s26 s8) (b : Below w.heap.size w w') (hu : Vl w' u MM) : DF W w' TT MM 2 x y s20 s22 u s25 s26 s8 :=
  have k := h.below b
  ⟨k.up, k.x1, fun _ => k.c1 (by omega), fun _ => hu, fun hp => absurd hp (by omega), fun hp => absurd hp (by omega), k.y1⟩
theorem DF.set3 {g : Nat} (h : DF W w TT MM 2 x y s20 s22 s24 s25 s26 s8) (b : Below w.heap.size w w') (hu : VL w' (some ⟨g, 0, none⟩) 2 2 [TT, MM]) : DF W w' TT MM 3 x y s20 s22 s24 (.slice (some ⟨g, 0, none⟩) 2 2) s26 s8 :=
  have k := h.below b
  ⟨k.up, k.x1, fun _ => k.c1 (by omega), fun _ => k.c2 (by omega), fun _ => ⟨g, rfl, hu⟩, fun hp => absurd hp (by omega), k.y1⟩
theorem DF.set4 {A : Option Addr} {m c : Nat} {B : Option Addr} {q d : Nat} (h : DF W w TT MM 3 x y s20 s22 s24 s25 s26 s8) (b : Below w.heap.size w w') (ho : OV 25 9 w' (fun z => w.heap.size ≤ z ∧ z < w'.heap.size) (.agg #[.int .i64 5, .bool false, .string ⟨#[]⟩, .slice A m c, .slice B q d]) (objD TT MM)) :
    DF W w' TT MM 4 x y s20 s22 s24 s25 (.tuple #[.agg #[.int .i64 5, .bool false, .string ⟨#[]⟩, .slice A m c, .slice B q d], .int .i64 0]) s8 := by
  have k := h.below b
  refine ⟨k.up, k.x1, fun _ => k.c1 (by omega), fun _ => k.c2 (by omega), fun _ => k.c3 (by omega), fun _ => ⟨A, m, c, B, q, d, _, rfl, ho, fun z hz => ⟨Nat.le_trans h.up.size hz.1, hz.2⟩, fun hy g hg hS => ?_⟩, k.y1⟩
  obtain ⟨g', h1, h2, _⟩ := h.y1 hy
  rw [h1] at hg
  injection hg with hg
  injection hg with hg
  injection hg with hg
  have := h2.lt
  omega
end
end Vt
end Go.Proofs.YtlgeibaejeiemaaDoor
