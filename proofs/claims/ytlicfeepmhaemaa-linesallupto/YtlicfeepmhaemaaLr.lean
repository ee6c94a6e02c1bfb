/-
  What spans and works (colophonlaw03) do.
-/
import Derived.Test.YtlicfeepmhaemaaLq
namespace Go.Proofs.Ytlicfeepmhaemaa
set_option linter.unusedVariables false
set_option linter.unusedSimpArgs false
open Go.RowKit Go.Shelf
namespace Lc
open Utf Wd Wr We Wi Lm

set_option maxHeartbeats 1600000 in
theorem spans_ok (B P : Nat) (b : List Int) (i f p t : Nat) (w : World) (h : Idx w B P (lns b)) (hp : (lns b)[i]? = some (f, p)) (hq : (whs b)[i]? = some (f, t)) :
    Calls Try.prog 24 #[.pointer (some ⟨P, 0, none⟩), .int .i64 (i : Nat), .int .i64 (f : Nat), .int .i64 (p : Nat), .int .i64 (t : Nat)] w fun e w' =>
      e = .returned (.bool true) ∧ Below w.heap.size w w' := by
  have H := Lib.hid h
  have HP := Lib.hid hp
  have HQ := Lib.hid hq
  clear h hp hq
  go_enter Try.func24, Try.ntmps24
  go_wp2_with fail
  refine (line_txt B P b i _ _ w H.out HP.out HQ.out).mono ?_
  rintro e w' ⟨rfl, hb⟩
  have HB := Lib.hid hb
  clear hb
  simp only [sp]
  go_wp2_with fail
  go_ret
  exact ⟨rfl, ext_trans HB.out (((Below.refl _ w').alloc (Nat.le_refl _) _).alloc (by simp) _)⟩

theorem parts_one {L : List (Nat × Nat)} {a : Int} {r s : Nat} (h : Parts L a r) (k : Parts L a s) : r = s := by
  rcases Nat.lt_trichotomy r s with q | q | q
  · have hr : r < L.length := Nat.lt_of_lt_of_le q k.1
    have h1 := h.2.2 r _ (Nat.le_refl _) (List.getElem?_eq_getElem hr)
    have h2 := k.2.1 r _ q (List.getElem?_eq_getElem hr)
    omega
  · exact q
  · have hr : s < L.length := Nat.lt_of_lt_of_le q h.1
    have h1 := k.2.2 s _ (Nat.le_refl _) (List.getElem?_eq_getElem hr)
    have h2 := h.2.1 s _ q (List.getElem?_eq_getElem hr)
    omega
def wtxt : List Int := [97, 10, 98, 13, 10, 13, 99]
theorem wtxt_lns : lns wtxt = [(0, 1), (2, 3), (5, 5), (6, 7)] := by decide
theorem wtxt_whs : whs wtxt = [(0, 2), (2, 5), (5, 6), (6, 7)] := by decide
theorem wtxt_parts : Parts (lns wtxt) ((4 : Nat) : Int) 2 := by
  rw [wtxt_lns]
  refine ⟨by decide, ?_, ?_⟩
  · intro j x hj hx
    rcases j with _ | _ | j
    · simp at hx; subst hx; decide
    · simp at hx; subst hx; decide
    · omega
  · intro j x hj hx
    rcases j with _ | _ | _ | _ | j
    · omega
    · omega
    · simp at hx; subst hx; decide
    · simp at hx; subst hx; decide
    · simp at hx

set_option maxRecDepth 100000 in
set_option maxHeartbeats 1600000 in
theorem works_true (w : World) : Calls Try.prog 15 #[] w fun e w' => e = .returned (.bool true) ∧ Below w.heap.size w w' := by
  have hsl : Sl .u8 (w.alloc (.cells #[.int .u8 97, .int .u8 10, .int .u8 98, .int .u8 13, .int .u8 10, .int .u8 13, .int .u8 99] 5)) (some ⟨w.heap.size, 0, none⟩) 7 7 wtxt := Sl.new w wtxt 5 .u8 (by decide)
  have HS := Lib.hid hsl
  clear hsl
  go_enter Try.func15, Try.ntmps15
  go_wp2_with fail
  refine (new_ok _ _ _ wtxt _ HS.out (by unfold wtxt IsB; decide) (i := 7) (m := 7) (by decide) (by decide)).mono ?_
  rintro e w1 ⟨P, rfl, hI, hb⟩
  have HI := Lib.hid hI
  obtain ⟨g, cap, hrd, _, _⟩ := hI.rd (lns_ne _)
  have hc := hrd.1
  rw [wtxt_lns] at hc
  have HB := Lib.hid (ext_trans (below_alloc w _) hb)
  clear hI hb hrd
  go_wp2_with fail
  refine (count_at P 4 cap _ w1 hc).mono ?_
  rintro e w2 ⟨rfl, rfl⟩
  clear hc
  go_wp2_with fail
  refine (find_ok _ P (lns wtxt) 7 4 w1 HI.out (ok_lns wtxt (by decide)) (by decide)).mono ?_
  rintro e w2 ⟨r, rfl, hp, hb⟩
  obtain rfl : r = 1 := by have := parts_one hp wtxt_parts; omega
  have HB2 := Lib.hid (ext_trans HB.out hb)
  have HI2 := Lib.hid (HI.out.ext hb)
  clear hp hb
  go_wp2_with fail
  refine (spans_ok _ P wtxt 0 0 1 2 w2 HI2.out (by decide) (by decide)).mono ?_
  rintro e w3 ⟨rfl, hb⟩
  have HB3 := Lib.hid (ext_trans HB2.out hb)
  have HI3 := Lib.hid (HI2.out.ext hb)
  clear hb
  go_wp2_with fail
  refine (spans_ok _ P wtxt 1 2 3 5 w3 HI3.out (by decide) (by decide)).mono ?_
  rintro e w4 ⟨rfl, hb⟩
  have HB4 := Lib.hid (ext_trans HB3.out hb)
  have HI4 := Lib.hid (HI3.out.ext hb)
  clear hb
  go_wp2_with fail
  refine (spans_ok _ P wtxt 2 5 5 6 w4 HI4.out (by decide) (by decide)).mono ?_
  rintro e w5 ⟨rfl, hb⟩
  have HB5 := Lib.hid (ext_trans HB4.out hb)
  have HI5 := Lib.hid (HI4.out.ext hb)
  clear hb
  go_wp2_with fail
  refine (spans_ok _ P wtxt 3 6 7 7 w5 HI5.out (by decide) (by decide)).mono ?_
  rintro e w6 ⟨rfl, hb⟩
  have HB6 := Lib.hid (ext_trans HB5.out hb)
  clear hb
  go_wp2_with fail
  go_ret
  exact ⟨rfl, HB6.out⟩
end Lc
end Go.Proofs.Ytlicfeepmhaemaa
