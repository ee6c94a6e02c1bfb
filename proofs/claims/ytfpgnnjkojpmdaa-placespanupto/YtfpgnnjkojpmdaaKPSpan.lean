/-
  The walk of PlaceSpan.
-/
import Derived.Test.YtfpgnnjkojpmdaaPi
import Derived.Test.YtfpgnnjkojpmdaaPg
import Derived.Test.YtfpgnnjkojpmdaaWe
import Derived.Test.YtfpgnnjkojpmdaaWp
namespace Go.Proofs.Ytfpgnnjkojpmdaa
set_option linter.unusedVariables false
set_option linter.unusedSimpArgs false
open Go.RowKit Go.ChangeShapes Go.WideShapes
open Utf Wd Wr We Wi Lm Lc Pc

set_option maxRecDepth 100000 in
set_option maxHeartbeats 3200000 in
theorem walk_PlaceSpan (A0 : Option Addr) (n0 c0 : Nat) (l0 : List Int) (a1 b1 e1 f1 : Int) (a2 b2 : Int) (w : World) (s0 : Sl .u8 w A0 n0 c0 l0) (b0 : ∀ x ∈ l0, (Lit.int .u8 x).wf = true) (z0 : c0 * 1 ≤ 140737488351232) (u0 : c0 ≤ 1048576) (w1 : (Lit.int .i64 a1).wf = true) (x1 : (Lit.int .i64 b1).wf = true) (y1 : (Lit.int .i64 e1).wf = true) (z1 : (Lit.int .i64 f1).wf = true) (w2 : (Lit.int .i64 a2).wf = true) (x2 : (Lit.int .i64 b2).wf = true) :
    Calls Try.prog 4 #[.slice A0 n0 c0, .agg #[.int .i64 a1, .int .i64 b1, .int .i64 e1, .int .i64 f1], .agg #[.int .i64 a2, .int .i64 b2]] w fun e w' => e = .returned (.bool true) ∧ Below w.heap.size w w' := by
  have hm1 := Lib.hid (i64_of x1).2
  have hm2 := Lib.hid (i64_of z1).2
  have S := Lib.hid s0
  have hB := isB_of b0
  have hnle := s0.le
  have hlen := s0.len
  clear s0 b0 z0 w1 x1 y1 z1 w2 x2
  have hb0 := ext_trans (below_alloc w (.cells #[.int .i64 a1, .int .i64 b1, .int .i64 e1, .int .i64 f1] 42)) (below_alloc (w.alloc (.cells #[.int .i64 a1, .int .i64 b1, .int .i64 e1, .int .i64 f1] 42)) (.cells #[.int .i64 a2, .int .i64 b2] 44))
  have bp := (Blk.new w 42 #[.int .i64 a1, .int .i64 b1, .int .i64 e1, .int .i64 f1]).alloc (.cells #[.int .i64 a2, .int .i64 b2] 44)
  have bq := Blk.new (w.alloc (.cells #[.int .i64 a1, .int .i64 b1, .int .i64 e1, .int .i64 f1] 42)) 44 #[.int .i64 a2, .int .i64 b2]
  rw [World.size_alloc] at bq
  have B0 := Lib.hid hb0
  have S0 := Lib.hid (S.out.below hb0)
  have BP0 := Lib.hid bp
  have BQ0 := Lib.hid bq
  clear hb0 bp bq S
  rcases txt_or hB with ⟨cs, hc, rfl⟩ | ⟨x, y, e, he, hch⟩
  · have HF := Lib.hid (show ((Lm.ends 0 (encs cs)).length + 1) * 16 ≤ 140737488355328 by have := Lm.ends_le (encs cs) 0; omega)
    have hn1 := Lib.hid (show (n0 + 1) * 16 ≤ 140737488355328 by omega)
    have hn2 := Lib.hid (show n0 ≤ 140737488355328 by omega)
    have HC := Lib.hid hc
    obtain ⟨sx, sy, se, hs1⟩ : ∃ x y e, spz cs a1 b1 e1 f1 = (x, y, e) := ⟨_, _, _, rfl⟩
    obtain ⟨⟨rx, ry⟩, ⟨rx', ry'⟩, re, hr1⟩ : ∃ p q e, rgz cs a2 b2 = (p, q, e) := ⟨_, _, _, rfl⟩
    have HS1 := Lib.hid hs1
    have HR1 := Lib.hid hr1
    clear hc hs1 hr1 hlen
    go_enter Try.func4, Try.ntmps4
    go_wp2_with fail
    refine (pnew_ok _ _ _ _ _ HC.out S0.out HF.out hn2.out).mono ?_
    rintro r w1 ⟨M, P, A, c, rfl, hM, hb⟩
    have HM1 := Lib.hid hM
    have B1 := Lib.hid (ext_trans B0.out hb)
    have S1 := Lib.hid (S0.out.below hb)
    have BP1 := Lib.hid (BP0.out.ext hb)
    have BQ1 := Lib.hid (BQ0.out.ext hb)
    clear hM hb
    go_wp2_with fail
    refine (rnew4_ok _ _ _ _ _ HC.out S1.out hn1.out).mono ?_
    rintro r w2 ⟨R, X, A2, c2, rfl, hR, hb⟩
    have HR2 := Lib.hid hR
    have HM2 := Lib.hid (HM1.out.ext hb)
    have B2 := Lib.hid (ext_trans B1.out hb)
    have BP2 := Lib.hid (BP1.out.ext hb)
    have BQ2 := Lib.hid (BQ1.out.ext hb)
    clear hR hb
    have p0 := BP2.out.at_ 0 rfl
    have p1 := BP2.out.at_ 1 rfl
    have p2 := BP2.out.at_ 2 rfl
    have p3 := BP2.out.at_ 3 rfl
    have lp := BP2.out.lt
    go_wp2_with fail
    refine (span_at _ _ _ _ _ _ HM2.out _ _ _ _ hm1.out hm2.out HS1.out).mono ?_
    rintro r w3 ⟨rfl, hb⟩
    replace hb := ext_trans hb (below_alloc w3 (.cells #[.int .i64 sx, .int .i64 sy] 44))
    have BN3 := Lib.hid (Blk.new w3 44 #[.int .i64 sx, .int .i64 sy])
    have HR3 := Lib.hid (HR2.out.ext hb)
    have HM3 := Lib.hid (HM2.out.ext hb)
    have B3 := Lib.hid (ext_trans B2.out hb)
    have BP3 := Lib.hid (BP2.out.ext hb)
    have BQ3 := Lib.hid (BQ2.out.ext hb)
    clear hb p0 p1 p2 p3 lp
    have p0 := BP3.out.at_ 0 rfl
    have p1 := BP3.out.at_ 1 rfl
    have p2 := BP3.out.at_ 2 rfl
    have p3 := BP3.out.at_ 3 rfl
    have lp := BP3.out.lt
    go_wp2_with fail
    refine (r4span_at _ _ _ _ _ _ HR3.out _ _ _ _ hm1.out hm2.out HS1.out).mono ?_
    rintro r w4 ⟨rfl, hb⟩
    replace hb := ext_trans hb (below_alloc w4 (.cells #[.int .i64 sx, .int .i64 sy] 44))
    have BN4 := Lib.hid (Blk.new w4 44 #[.int .i64 sx, .int .i64 sy])
    have BM4 := Lib.hid (BN3.out.ext hb)
    have HR4 := Lib.hid (HR3.out.ext hb)
    have HM4 := Lib.hid (HM3.out.ext hb)
    have B4 := Lib.hid (ext_trans B3.out hb)
    have BQ4 := Lib.hid (BQ3.out.ext hb)
    clear hb p0 p1 p2 p3 lp
    have p0 := BQ4.out.at_ 0 rfl
    have p1 := BQ4.out.at_ 1 rfl
    have lp := BQ4.out.lt
    go_wp2_with fail
    refine (range_at _ _ _ _ _ _ HM4.out _ _ HR1.out).mono ?_
    rintro r w5 ⟨rfl, hb⟩
    replace hb := ext_trans hb (below_alloc w5 (.cells #[.int .i64 rx, .int .i64 ry, .int .i64 rx', .int .i64 ry'] 42))
    have BO5 := Lib.hid (Blk.new w5 42 #[.int .i64 rx, .int .i64 ry, .int .i64 rx', .int .i64 ry'])
    have BN5 := Lib.hid (BN4.out.ext hb)
    have BM5 := Lib.hid (BM4.out.ext hb)
    have HR5 := Lib.hid (HR4.out.ext hb)
    have B5 := Lib.hid (ext_trans B4.out hb)
    have BQ5 := Lib.hid (BQ4.out.ext hb)
    clear hb p0 p1 lp
    have p0 := BQ5.out.at_ 0 rfl
    have p1 := BQ5.out.at_ 1 rfl
    have lp := BQ5.out.lt
    go_wp2_with fail
    refine (r4range_at _ _ _ _ _ _ HR5.out _ _ HR1.out).mono ?_
    rintro r w6 ⟨rfl, hb⟩
    replace hb := ext_trans hb (below_alloc w6 (.cells #[.int .i64 rx, .int .i64 ry, .int .i64 rx', .int .i64 ry'] 42))
    have BO6 := Lib.hid (BO5.out.ext hb)
    have BN6 := Lib.hid (BN5.out.ext hb)
    have BM6 := Lib.hid (BM5.out.ext hb)
    have B6 := Lib.hid (ext_trans B5.out hb)
    clear hb p0 p1 lp
    have m0 := BM6.out.at_ 0 rfl
    have m1 := BM6.out.at_ 1 rfl
    have lm := BM6.out.lt
    have n0' := BN6.out.at_ 0 rfl
    have n1 := BN6.out.at_ 1 rfl
    have ln := BN6.out.lt
    have o0 := BO6.out.at_ 0 rfl
    have o1 := BO6.out.at_ 1 rfl
    have o2 := BO6.out.at_ 2 rfl
    have o3 := BO6.out.at_ 3 rfl
    have lo := BO6.out.lt
    have t1 : (se == se) = true := by simp
    have t2 : (re == re) = true := by simp
    go_wp2_with fail
    refine (works_true _).mono ?_
    rintro r w7 ⟨rfl, hb⟩
    have B7 := Lib.hid (ext_trans B6.out hb)
    clear hb
    go_wp2_with fail
    go_ret
    exact ⟨rfl, B7.out⟩
  · have K := Lib.hid hch
    have d : (e != 0) = true := by simpa using he
    have d2 : (e != e) = false := by simp
    clear hch
    go_enter Try.func4, Try.ntmps4
    go_wp2_with fail
    refine (pnew_bad _ _ _ _ _ S0.out hB K.out he).mono ?_
    rintro r w' ⟨rfl, rfl⟩
    go_wp2_with fail
    refine (rnew4_bad _ _ _ _ _ S0.out hB K.out he).mono ?_
    rintro r w2 ⟨rfl, hb⟩
    have B2 := Lib.hid (ext_trans B0.out hb)
    clear hb
    go_wp2_with fail
    refine (works_true _).mono ?_
    rintro r w3 ⟨rfl, hb⟩
    have B3 := Lib.hid (ext_trans B2.out hb)
    clear hb
    go_wp2_with fail
    go_ret
    exact ⟨rfl, B3.out⟩
end Go.Proofs.Ytfpgnnjkojpmdaa
