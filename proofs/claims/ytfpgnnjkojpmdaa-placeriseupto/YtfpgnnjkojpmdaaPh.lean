/-
  What the statements' helpers of layer 4 do: pos, at, of, chapter, made; End.
-/
import Derived.Test.YtfpgnnjkojpmdaaPf
namespace Go.Proofs.Ytfpgnnjkojpmdaa
set_option linter.unusedVariables false
set_option linter.unusedSimpArgs false
open Go.RowKit Go.Shelf
namespace Pc
open Utf Wd Wr We Wi Lm Lc Uw

set_option maxRecDepth 100000 in
set_option maxHeartbeats 1600000 in
theorem lpos_any (l ch : Int) (w : World) :
    Calls Try.prog 32 #[.int .i64 l, .int .i64 ch] w fun r w' => r = .returned (.agg #[.int .i64 l, .int .i64 ch]) ∧ Below w.heap.size w w' := by
  have B := Lib.hid (below_alloc w (.cells #[.int .i64 l, .int .i64 ch] 24))
  go_enter Try.func32, Try.ntmps32
  go_wp2_with fail
  refine bodyPost_ret (v := .agg #[.int .i64 l, .int .i64 ch]) ?_ rfl ⟨rfl, B.out⟩
  simp only [results]
  go_simp

set_option maxRecDepth 100000 in
set_option maxHeartbeats 1600000 in
theorem end_ok (M P : Nat) (A : Addr) (c : Nat) (cs : List Int) (w : World) (h : Mp w M P A c cs) {x y : Nat} (hz : plc cs (encs cs).length = (x, y)) :
    Calls Try.prog 21 #[.pointer (some ⟨M, 0, none⟩)] w fun r w' => r = .returned (.agg #[.int .i64 (x : Nat), .int .i64 (y : Nat)]) ∧ Below w.heap.size w w' := by
  have hb0 := below_alloc w (.cells #[.int .i64 0, .int .i64 0] 24)
  have B := Lib.hid hb0
  have H := Lib.hid (h.ext hb0)
  have CL := Lib.hid (Blk.new w 24 #[.int .i64 0, .int .i64 0])
  have c1 := H.out.duo.at1
  have hlt := H.out.duo.lt
  have HZ := Lib.hid hz
  clear h hb0 hz
  go_enter Try.func21, Try.ntmps21
  go_wp2_with fail
  refine (none_ok _ _ _ _ _ _ H.out).mono ?_
  rintro e w' ⟨rfl, rfl⟩
  go_wp2_with fail
  refine (pos_ok _ _ _ _ _ _ H.out _ (Nat.le_refl _) HZ.out).mono ?_
  rintro e w1 ⟨rfl, hb1⟩
  replace hb1 := ext_trans hb1 (below_alloc w1 (.cells #[.int .i64 (x : Nat), .int .i64 (y : Nat)] 24))
  have d2 := CL.out.ext hb1
  have c0 := d2.at_ 0 rfl
  have c1 := d2.at_ 1 rfl
  have f0 := d2.fz 0
  have f1 := d2.fz 1
  have hlt2 := d2.lt
  have B2 := Lib.hid (ext_trans B.out hb1)
  clear hb1 d2
  go_wp2_with fail
  refine bodyPost_ret (v := .agg #[.int .i64 (x : Nat), .int .i64 (y : Nat)]) ?_ rfl ⟨rfl, (B2.out.setCell (by simp) _).setCell (by simp) _⟩
  simp only [results]
  go_simp

set_option maxRecDepth 100000 in
set_option maxHeartbeats 1600000 in
theorem lat_ok (M P : Nat) (A : Addr) (c : Nat) (cs : List Int) (w : World) (h : Mp w M P A c cs) (l ch n : Nat) (hm : ch ≤ 9223372036854775807) (hz : off cs l ch = n) :
    Calls Try.prog 38 #[.pointer (some ⟨M, 0, none⟩), .int .i64 (l : Nat), .int .i64 (ch : Nat), .int .i64 (n : Nat)] w fun r w' => r = .returned (.bool true) ∧ Below w.heap.size w w' := by
  have H := Lib.hid h
  have HZ := Lib.hid hz
  clear h hz
  go_enter Try.func38, Try.ntmps38
  go_wp2_with fail
  refine (lpos_any _ _ _).mono ?_
  rintro e w1 ⟨rfl, hb1⟩
  have H1 := Lib.hid (H.out.ext hb1)
  have B1 := Lib.hid hb1
  clear hb1
  go_wp2_with fail
  refine (offset_ok _ _ _ _ _ _ H1.out l ch hm HZ.out).mono ?_
  rintro e w2 ⟨rfl, hb2⟩
  have B2 := Lib.hid (ext_trans B1.out hb2)
  clear hb2
  have q1 : ((n : Int) == (n : Int)) = true := by simp
  go_wp2_with fail
  go_ret
  exact ⟨rfl, B2.out⟩
set_option maxRecDepth 100000 in
set_option maxHeartbeats 1600000 in
theorem lof_ok (M P : Nat) (A : Addr) (c : Nat) (cs : List Int) (w : World) (h : Mp w M P A c cs) (n x y : Nat) (hn : n ≤ (encs cs).length) (hz : plc cs n = (x, y)) :
    Calls Try.prog 39 #[.pointer (some ⟨M, 0, none⟩), .int .i64 (n : Nat), .int .i64 (x : Nat), .int .i64 (y : Nat)] w fun r w' => r = .returned (.bool true) ∧ Below w.heap.size w w' := by
  have H := Lib.hid h
  have HZ := Lib.hid hz
  clear h hz
  go_enter Try.func39, Try.ntmps39
  go_wp2_with fail
  refine (pos_ok _ _ _ _ _ _ H.out n hn HZ.out).mono ?_
  rintro e w1 ⟨rfl, hb1⟩
  replace hb1 := ext_trans hb1 (below_alloc w1 (.cells #[.int .i64 (x : Nat), .int .i64 (y : Nat)] 24))
  have bf := Blk.new w1 24 #[.int .i64 (x : Nat), .int .i64 (y : Nat)]
  have B1 := Lib.hid hb1
  clear hb1
  go_wp2_with fail
  generalize w1.alloc (.cells #[.int .i64 (x : Nat), .int .i64 (y : Nat)] 24) = W1 at *
  have c0 := bf.at_ 0 rfl
  have c1 := bf.at_ 1 rfl
  have hlt := bf.lt
  generalize w1.heap.size = Y at *
  have HS := Lib.hid (show ∀ w', Below W1.heap.size W1 w' → (w'.cell? ⟨Y, 0, none⟩ = some (.int .i64 (x : Nat)) ∧ w'.cell? ⟨Y, 1, none⟩ = some (.int .i64 (y : Nat)) ∧ Below W1.heap.size W1 w') from fun w' hb => ⟨(hb.cell (p := ⟨Y, 0, none⟩) hlt).trans c0, (hb.cell (p := ⟨Y, 1, none⟩) hlt).trans c1, hb⟩)
  clear bf
  go_region_held3 (fun w' => w'.cell? ⟨Y, 0, none⟩ = some (.int .i64 (x : Nat)) ∧ w'.cell? ⟨Y, 1, none⟩ = some (.int .i64 (y : Nat)) ∧ Below W1.heap.size W1 w') (exact HS.out _ (by repeat (first | assumption | exact Below.refl _ _ | refine below_drew ?_))) ((go_at_call 32; refine (lpos_any _ _ _).mono ?_; rintro e w2 ⟨rfl, hb2⟩; have hb3 : Below W1.heap.size W1 w2 := Below.trans (by repeat (first | assumption | exact Below.refl _ _ | refine below_drew ?_)) hb2; clear hb2))
  go_wp2_with fail
  go_ret
  exact ⟨rfl, ext_trans B1.out hb3⟩
end Pc
end Go.Proofs.Ytfpgnnjkojpmdaa
