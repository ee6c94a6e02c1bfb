/-
  What the calls of a map that is none (package place) answer.
-/
import Derived.Test.YtfpgnnjkojpmdaaPf
namespace Go.Proofs.Ytfpgnnjkojpmdaa
set_option linter.unusedVariables false
set_option linter.unusedSimpArgs false
open Go.RowKit Go.Shelf
namespace Pc
open Utf Wd Wr We Wi Lm Lc Uw

/-- a map that New did not make -/
def NonM (w : World) (p : Option Addr) : Prop := p = none ∨ ∃ M, p = some ⟨M, 0, none⟩ ∧ M < w.heap.size ∧ w.cell? ⟨M, 1, none⟩ = some (.slice none 0 0)
theorem NonM.ext {w w' : World} {p : Option Addr} (h : NonM w p) (hb : Below w.heap.size w w') : NonM w' p := by
  rcases h with h | ⟨M, h1, h2, h3⟩
  · exact .inl h
  · exact .inr ⟨M, h1, Nat.lt_of_lt_of_le h2 hb.size, (hb.cell (p := ⟨M, 1, none⟩) h2).trans h3⟩
theorem none_non (p : Option Addr) (w : World) (h : NonM w p) : Calls Try.prog 41 #[.pointer p] w fun e w' => e = .returned (.bool true) ∧ w = w' := by
  rcases h with rfl | ⟨M, rfl, _, h3⟩
  · exact none_nil w
  · exact none_zero M w h3

set_option maxRecDepth 100000 in
set_option maxHeartbeats 1600000 in
theorem offset_non (p : Option Addr) (l ch : Int) (w : World) (h : NonM w p) :
    Calls Try.prog 17 #[.pointer p, .agg #[.int .i64 l, .int .i64 ch]] w fun e w' => e = .returned (.tuple #[.int .i64 0, .int .i64 1]) ∧ Below w.heap.size w w' := by
  have B := Lib.hid (below_alloc w (.cells #[.int .i64 l, .int .i64 ch] 24))
  have H := Lib.hid (h.ext (below_alloc w (.cells #[.int .i64 l, .int .i64 ch] 24)))
  clear h
  go_enter Try.func17, Try.ntmps17
  go_wp2_with fail
  refine (none_non _ _ H.out).mono ?_
  rintro e w' ⟨rfl, rfl⟩
  go_wp2
  go_ret2
  exact ⟨rfl, B.out⟩
set_option maxRecDepth 100000 in
set_option maxHeartbeats 1600000 in
theorem pos_non (p : Option Addr) (a : Int) (w : World) (h : NonM w p) :
    Calls Try.prog 19 #[.pointer p, .int .i64 a] w fun e w' => e = .returned (.tuple #[.agg #[.int .i64 0, .int .i64 0], .int .i64 1]) ∧ Below w.heap.size w w' := by
  have hb0 := below_alloc w (.cells #[.int .i64 0, .int .i64 0] 24)
  have B := Lib.hid hb0
  have H := Lib.hid (h.ext hb0)
  clear h hb0
  go_enter Try.func19, Try.ntmps19
  go_wp2_with fail
  refine (none_non _ _ H.out).mono ?_
  rintro e w' ⟨rfl, rfl⟩
  go_wp2_with fail
  refine bodyPost_ret (v := .tuple #[.agg #[.int .i64 0, .int .i64 0], .int .i64 1]) ?_ rfl ⟨rfl, B.out⟩
  simp only [results]
  go_simp
set_option maxRecDepth 100000 in
set_option maxHeartbeats 1600000 in
theorem end_non (p : Option Addr) (w : World) (h : NonM w p) :
    Calls Try.prog 21 #[.pointer p] w fun e w' => e = .returned (.agg #[.int .i64 0, .int .i64 0]) ∧ Below w.heap.size w w' := by
  have hb0 := below_alloc w (.cells #[.int .i64 0, .int .i64 0] 24)
  have B := Lib.hid hb0
  have H := Lib.hid (h.ext hb0)
  clear h hb0
  go_enter Try.func21, Try.ntmps21
  go_wp2_with fail
  refine (none_non _ _ H.out).mono ?_
  rintro e w' ⟨rfl, rfl⟩
  go_wp2_with fail
  refine bodyPost_ret (v := .agg #[.int .i64 0, .int .i64 0]) ?_ rfl ⟨rfl, B.out⟩
  simp only [results]
  go_simp
set_option maxRecDepth 100000 in
set_option maxHeartbeats 1600000 in
theorem span_non (p : Option Addr) (a b c d : Int) (w : World) (h : NonM w p) :
    Calls Try.prog 23 #[.pointer p, .agg #[.int .i64 a, .int .i64 b, .int .i64 c, .int .i64 d]] w fun e w' => e = .returned (.tuple #[.agg #[.int .i64 0, .int .i64 0], .int .i64 1]) ∧ Below w.heap.size w w' := by
  have hb0 := ext_trans (below_alloc w (.cells #[.int .i64 a, .int .i64 b, .int .i64 c, .int .i64 d] 42)) (below_alloc (w.alloc (.cells #[.int .i64 a, .int .i64 b, .int .i64 c, .int .i64 d] 42)) (.cells #[.int .i64 0, .int .i64 0] 44))
  have br := Blk.new (w.alloc (.cells #[.int .i64 a, .int .i64 b, .int .i64 c, .int .i64 d] 42)) 44 #[.int .i64 0, .int .i64 0]
  rw [World.size_alloc] at br
  have BR := Lib.hid br
  have B := Lib.hid hb0
  have H := Lib.hid (h.ext hb0)
  clear h hb0 br
  go_enter Try.func23, Try.ntmps23
  go_wp2_with fail
  refine (offset_non _ _ _ _ H.out).mono ?_
  rintro e w1 ⟨rfl, hb⟩
  have B1 := Lib.hid (ext_trans B.out hb)
  have d2 := BR.out.ext hb
  have r0 := d2.at_ 0 rfl
  have r1 := d2.at_ 1 rfl
  have f0 := d2.fz 0
  have f1 := d2.fz 1
  have hl := d2.lt
  clear hb d2
  go_wp2_with fail
  refine bodyPost_ret (v := .tuple #[.agg #[.int .i64 0, .int .i64 0], .int .i64 1]) ?_ rfl ⟨rfl, (B1.out.setCell (by simp) _).setCell (by simp) _⟩
  simp only [results]
  go_simp
set_option maxRecDepth 100000 in
set_option maxHeartbeats 1600000 in
theorem range_non (p : Option Addr) (a b : Int) (w : World) (h : NonM w p) :
    Calls Try.prog 25 #[.pointer p, .agg #[.int .i64 a, .int .i64 b]] w fun e w' => e = .returned (.tuple #[.agg #[.int .i64 0, .int .i64 0, .int .i64 0, .int .i64 0], .int .i64 1]) ∧ Below w.heap.size w w' := by
  have hb0 := ext_trans (below_alloc w (.cells #[.int .i64 a, .int .i64 b] 44)) (below_alloc (w.alloc (.cells #[.int .i64 a, .int .i64 b] 44)) (.cells #[.int .i64 0, .int .i64 0, .int .i64 0, .int .i64 0] 42))
  have br := Blk.new (w.alloc (.cells #[.int .i64 a, .int .i64 b] 44)) 42 #[.int .i64 0, .int .i64 0, .int .i64 0, .int .i64 0]
  rw [World.size_alloc] at br
  have BR := Lib.hid br
  have B := Lib.hid hb0
  have H := Lib.hid (h.ext hb0)
  clear h hb0 br
  go_enter Try.func25, Try.ntmps25
  go_wp2_with fail
  refine (pos_non _ _ _ H.out).mono ?_
  rintro e w1 ⟨rfl, hb⟩
  replace hb := ext_trans hb (below_alloc w1 (.cells #[.int .i64 0, .int .i64 0] 24))
  have B1 := Lib.hid (ext_trans B.out hb)
  have d2 := BR.out.ext hb
  have r0 := d2.at_ 0 rfl
  have r1 := d2.at_ 1 rfl
  have r2 := d2.at_ 2 rfl
  have r3 := d2.at_ 3 rfl
  have f0 := d2.fz 0
  have f1 := d2.fz 1
  have f2 := d2.fz 2
  have f3 := d2.fz 3
  have hl := d2.lt
  clear hb d2
  go_wp2_with fail
  refine bodyPost_ret (v := .tuple #[.agg #[.int .i64 0, .int .i64 0, .int .i64 0, .int .i64 0], .int .i64 1]) ?_ rfl ⟨rfl, (((B1.out.setCell (by simp) _).setCell (by simp) _).setCell (by simp) _).setCell (by simp) _⟩
  simp only [results]
  go_simp
end Pc
end Go.Proofs.Ytfpgnnjkojpmdaa
