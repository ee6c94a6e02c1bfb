/-
  What Line and Find (package lines) do with an index that is none.
-/
import Derived.Test.YtlicfeepmhaemaaLy
namespace Go.Proofs.Ytlicfeepmhaemaa
set_option linter.unusedVariables false
set_option linter.unusedSimpArgs false
open Go.RowKit Go.Shelf
namespace Lc
open Utf Wd Wr We Wi Lm

/-- an index that is none: nil, or one without lines -/
def Non (w : World) (p : Option Addr) : Prop := p = none ∨ ∃ P, p = some ⟨P, 0, none⟩ ∧ P < w.heap.size ∧ w.cell? ⟨P, 0, none⟩ = some (.slice none 0 0)
theorem Non.ext {w w' : World} {p : Option Addr} (h : Non w p) (hb : Below w.heap.size w w') : Non w' p := by
  rcases h with h | ⟨P, h1, h2, h3⟩
  · exact .inl h
  · exact .inr ⟨P, h1, Nat.lt_of_lt_of_le h2 hb.size, (hb.cell (p := ⟨P, 0, none⟩) h2).trans h3⟩
theorem count_none (p : Option Addr) (w : World) (h : Non w p) :
    Calls Try.prog 17 #[.pointer p] w fun e w' => e = .returned (.int .i64 0) ∧ w = w' := by
  rcases h with rfl | ⟨P, rfl, h2, h3⟩
  · exact count_nil w
  · exact count_at P 0 0 none w h3

set_option maxHeartbeats 1600000 in
theorem line_none (p : Option Addr) (k : Int) (w : World) (h : Non w p) :
    Calls Try.prog 18 #[.pointer p, .int .i64 k] w fun e w' => e = .returned (.tuple #[sp (0, 0), sp (0, 0), .int .i64 1]) ∧ Below w.heap.size w w' := by
  have hB : Below w.heap.size w ((w.alloc (.cells #[.int .i64 0, .int .i64 0] 35)).alloc (.cells #[.int .i64 0, .int .i64 0] 35)) := ((Below.refl _ w).alloc (Nat.le_refl _) _).alloc (by simp) _
  have HB := Lib.hid hB
  have HN := Lib.hid (h.ext hB)
  clear h hB
  go_enter Try.func18, Try.ntmps18
  go_wp2_with fail
  refine (count_none p _ HN.out).mono ?_
  rintro e w' ⟨rfl, rfl⟩
  go_wp2_with fail
  refine bodyPost_ret (v := .tuple #[sp (0, 0), sp (0, 0), .int .i64 1]) ?_ rfl ⟨rfl, ?_⟩
  · simp only [results, sp]
    go_simp
  · exact HB.out

set_option maxHeartbeats 1600000 in
theorem find_none (p : Option Addr) (k : Int) (w : World) (h : Non w p) :
    Calls Try.prog 22 #[.pointer p, .int .i64 k] w fun e w' => e = .returned (.tuple #[.int .i64 0, .int .i64 1]) ∧ Below w.heap.size w w' := by
  have hB : Below w.heap.size w ((w.alloc (.cells #[.pointer p] 24)).alloc (.cells #[.int .i64 k] 3)) := ((Below.refl _ w).alloc (Nat.le_refl _) _).alloc (by simp) _
  have HB := Lib.hid hB
  have HN := Lib.hid (h.ext hB)
  clear h hB
  go_enter Try.func22, Try.ntmps22
  go_wp2_with fail
  refine (count_none p _ HN.out).mono ?_
  rintro e w' ⟨rfl, rfl⟩
  go_wp2_with fail
  go_ret2
  exact ⟨rfl, HB.out⟩
end Lc
end Go.Proofs.Ytlicfeepmhaemaa
