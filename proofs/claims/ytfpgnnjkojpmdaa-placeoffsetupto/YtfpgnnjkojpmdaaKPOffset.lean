/-
  The walk of PlaceOffset.
-/
import Derived.Test.YtfpgnnjkojpmdaaPi
import Derived.Test.YtfpgnnjkojpmdaaPq
import Derived.Test.YtfpgnnjkojpmdaaWe
import Derived.Test.YtfpgnnjkojpmdaaWp
import Derived.Lib.SmallJoins
namespace Go.Proofs.Ytfpgnnjkojpmdaa
set_option linter.unusedVariables false
set_option linter.unusedSimpArgs false
open Go.RowKit Go.ChangeShapes Go.WideShapes
open Utf Wd Wr We Wi Lm Lc Pc

theorem grown_two {a w w' : World} {g : Nat} (h : a.grownBy w (some g)) (k : w.grownBy w' (some g)) : a.grownBy w' (some g) :=
  ⟨k.os.trans h.os, k.tape.trans h.tape, k.output.trans h.output, Nat.le_trans h.size k.size, fun j hj hne => (k.block j (Nat.lt_of_lt_of_le hj h.size) hne).trans (h.block j hj hne)⟩
theorem cells_set {W : World} {g k : Nat} {cur : Array Value} {t : TypeId} (h : W.heap[g]? = some (.cells cur t (0, 0))) (v : Value) : ∃ cur', (W.setCell ⟨g, k, none⟩ v).heap[g]? = some (.cells cur' t (0, 0)) ∧ cur'.size = cur.size :=
  ⟨cur.setIfInBounds k v, Go.Joins.block_setCell h v, by simp⟩

set_option maxRecDepth 100000 in
set_option maxHeartbeats 6400000 in
theorem walk_PlaceOffset (A0 : Option Addr) (n0 c0 : Nat) (l0 : List Int) (a1 b1 : Int) (a2 : Int) (w : World) (s0 : Sl .u8 w A0 n0 c0 l0) (b0 : ∀ x ∈ l0, (Lit.int .u8 x).wf = true) (z0 : c0 * 1 ≤ 140737488351232) (u0 : c0 ≤ 1048576) (w1 : (Lit.int .i64 a1).wf = true) (x1 : (Lit.int .i64 b1).wf = true) (w2 : (Lit.int .i64 a2).wf = true) :
    Calls Try.prog 3 #[.slice A0 n0 c0, .agg #[.int .i64 a1, .int .i64 b1], .int .i64 a2] w fun e w' => e = .returned (.bool true) ∧ Below w.heap.size w w' := by
  have hm1 := Lib.hid (i64_of x1).2
  have S := Lib.hid s0
  have hB := isB_of b0
  have hnle := s0.le
  have hlen := s0.len
  clear s0 b0 z0 w1 x1 w2
  subst hlen
  have hb0 := below_alloc w (.cells #[.int .i64 a1, .int .i64 b1] 24)
  have BP0 := Lib.hid (Blk.new w 24 #[.int .i64 a1, .int .i64 b1])
  have B0 := Lib.hid hb0
  have S0 := Lib.hid (S.out.below hb0)
  have hz0 : (w.alloc (.cells #[.int .i64 a1, .int .i64 b1] 24)).heap.size = w.heap.size + 1 := by simp
  clear hb0 S
  go_enter Try.func3, Try.ntmps3
  go_wp2_with fail
  refine (copy_any _ _ _ _ _ S0.out (by omega)).mono ?_
  rintro r w1 ⟨v1, rfl, ho1, hb⟩
  have B1 := Lib.hid (ext_trans B0.out hb)
  have S1 := Lib.hid (S0.out.below hb)
  have BP1 := Lib.hid (BP0.out.ext hb)
  obtain ⟨A1, c1, hv, t1, hAb⟩ := ho1.sl
  have T1 := Lib.hid t1
  have hcase : (l0.length = 0 ∧ A1 = none) ∨ ∃ g cur, A1 = some ⟨g, 0, none⟩ ∧ w.heap.size + 1 ≤ g ∧ g < w1.heap.size ∧ w1.heap[g]? = some (.cells cur 5 (0, 0)) ∧ l0.length ≤ cur.size := by
    rcases ho1.2 with ⟨h1, h2⟩ | ⟨g, cap, cur, h1, h2, h3, h4, h5, h6, h7⟩
    · rw [h1] at hv; injection hv with q1 q2; exact .inl ⟨h2, q1.symm⟩
    · rw [h1] at hv
      injection hv with q1 q2 q3
      exact .inr ⟨g, cur, q1.symm, by rw [← hz0]; exact h2, (Array.getElem?_eq_some_iff.1 h3).1, h3, by omega⟩
  have HCS := Lib.hid hcase
  subst hv
  clear hb t1 hAb ho1 hcase BP0 B0 S0
  rcases txt_or hB with ⟨cs, hc, rfl⟩ | ⟨x, y, e, he, hch⟩
  · have HF := Lib.hid (show ((Lm.ends 0 (encs cs)).length + 1) * 16 ≤ 140737488355328 by have := Lm.ends_le (encs cs) 0; omega)
    have hn1 := Lib.hid (show ((encs cs).length + 1) * 16 ≤ 140737488355328 by omega)
    have hn2 := Lib.hid (show (encs cs).length ≤ 140737488355328 by omega)
    have HC := Lib.hid hc
    obtain ⟨on, oe, ho⟩ : ∃ x e, ofz cs a1 b1 = (x, e) := ⟨_, _, rfl⟩
    obtain ⟨px, py, pe, hp⟩ : ∃ x y e, psz cs a2 = (x, y, e) := ⟨_, _, _, rfl⟩
    obtain ⟨ex, ey, hen⟩ : ∃ x y, plc cs (encs cs).length = (x, y) := ⟨_, _, rfl⟩
    have HO := Lib.hid ho
    have HP := Lib.hid hp
    have HE := Lib.hid hen
    have hmax : (encs cs).length ≤ maxLen := by unfold maxLen; omega
    have HMX := Lib.hid hmax
    clear hc ho hp hen hz0 hmax
    go_wp2_with fail
    refine (pnew_far _ _ _ _ _ HC.out T1.out HF.out hn2.out).mono ?_
    rintro r w2 ⟨M, P, A, c, rfl, hM, hb⟩
    have HM2 := Lib.hid hM
    have B2 := Lib.hid (ext_trans B1.out hb)
    have S2 := Lib.hid (S1.out.below hb)
    have T2 := Lib.hid (T1.out.below hb)
    have BP2 := Lib.hid (BP1.out.ext hb)
    have C2 : Hid (((encs cs).length = 0 ∧ A1 = none) ∨ ∃ g cur, A1 = some ⟨g, 0, none⟩ ∧ w.heap.size + 1 ≤ g ∧ g < w1.heap.size ∧ w2.heap[g]? = some (.cells cur 5 (0, 0)) ∧ (encs cs).length ≤ cur.size) := Lib.hid (by
      rcases HCS.out with h | ⟨g, cur, h1, h2, h3, h4, h5⟩
      · exact .inl h
      · exact .inr ⟨g, cur, h1, h2, h3, (hb.block g h3).trans h4, h5⟩)
    have hz2 := hb.size
    clear hM hb
    go_wp2_with fail
    refine (rnew4_far _ _ _ _ _ HC.out S2.out hn1.out).mono ?_
    rintro r w3 ⟨R, X, A2, c2, rfl, hR, hb⟩
    have HR3 := Lib.hid hR
    have HM3 := Lib.hid (HM2.out.ext hb)
    have B3 := Lib.hid (ext_trans B2.out hb)
    have S3 := Lib.hid (S2.out.below hb)
    have T3 := Lib.hid (T2.out.below hb)
    have BP3 := Lib.hid (BP2.out.ext hb)
    have C3 : Hid (((encs cs).length = 0 ∧ A1 = none) ∨ ∃ g cur, A1 = some ⟨g, 0, none⟩ ∧ w.heap.size + 1 ≤ g ∧ g < w1.heap.size ∧ w3.heap[g]? = some (.cells cur 5 (0, 0)) ∧ (encs cs).length ≤ cur.size) := Lib.hid (by
      rcases C2.out with h | ⟨g, cur, h1, h2, h3, h4, h5⟩
      · exact .inl h
      · exact .inr ⟨g, cur, h1, h2, h3, (hb.block g (by omega)).trans h4, h5⟩)
    clear hR hb HM2 B2 S2 T2 BP2 C2 HCS S1 T1 BP1 B1
    go_wp2_with fail
    refine (eq_any A1 A0 _ _ c1 c0 (encs cs) (encs cs) w3 T3.out.row S3.out.row HMX.out).mono ?_
    rintro r w' ⟨rfl, q5, rfl⟩
    rw [show decide (encs cs = encs cs) = true from decide_eq_true rfl]
    have hbd := below_drewN (Below.refl w3.heap.size w3) q5
    have HR4 := Lib.hid (HR3.out.ext hbd)
    have HM4 := Lib.hid (HM3.out.ext hbd)
    have B4 := Lib.hid (below_drewN B3.out q5)
    have BP4 := Lib.hid (BP3.out.ext hbd)
    have C4 : Hid (((encs cs).length = 0 ∧ A1 = none) ∨ ∃ g cur, A1 = some ⟨g, 0, none⟩ ∧ w.heap.size + 1 ≤ g ∧ g < w1.heap.size ∧ (w3.drewN q5).heap[g]? = some (.cells cur 5 (0, 0)) ∧ (encs cs).length ≤ cur.size) := C3
    clear hbd HR3 HM3 B3 S3 T3 BP3 C3
    generalize w3.drewN q5 = W4 at *
    go_wp2_with fail
    obtain ⟨n, hn⟩ : ∃ n, (encs cs).length = n := ⟨_, rfl⟩
    rw [hn] at C4 ⊢
    have HN := Lib.hid hn
    rw [hn] at hnle
    clear hn
    rcases C4.out with ⟨hn0, rfl⟩ | ⟨g, cur, rfl, hg1, hg2, hg3, hg4⟩
    · subst hn0
      go_loopw [12] (fun v wr => v = .int .i64 0 ∧ wr = W4) (fun _ _ => 0)
      case atStart => exact ⟨rfl, rfl⟩
      case round =>
        obtain ⟨rfl, rfl⟩ := hrel
        have HM5 := Lib.hid HM4.out.mp
        have HR5 := Lib.hid HR4.out.rm
        have BP5 := BP4
        have B5 := B4
        have p0 := BP5.out.at_ 0 rfl
        have p1 := BP5.out.at_ 1 rfl
        have lp := BP5.out.lt
        go_wp2_with fail
        refine (offset_at _ _ _ _ _ _ HM5.out _ _ hm1.out HO.out).mono ?_
        rintro r w6 ⟨rfl, hb⟩
        have HM6 := Lib.hid (HM5.out.ext hb)
        have HR6 := Lib.hid (HR5.out.ext hb)
        have BP6 := Lib.hid (BP5.out.ext hb)
        have B6 := Lib.hid (ext_trans B5.out hb)
        clear hb p0 p1 lp
        have p0 := BP6.out.at_ 0 rfl
        have p1 := BP6.out.at_ 1 rfl
        have lp := BP6.out.lt
        go_wp2_with fail
        refine (r4offset_at _ _ _ _ _ _ HR6.out _ _ hm1.out HO.out).mono ?_
        rintro r w7 ⟨rfl, hb⟩
        have HM7 := Lib.hid (HM6.out.ext hb)
        have HR7 := Lib.hid (HR6.out.ext hb)
        have B7 := Lib.hid (ext_trans B6.out hb)
        clear hb p0 p1 lp
        go_wp2_with fail
        refine (pos_at _ _ _ _ _ _ HM7.out _ HP.out).mono ?_
        rintro r w8 ⟨rfl, hb⟩
        replace hb := ext_trans hb (below_alloc w8 (.cells #[.int .i64 px, .int .i64 py] 24))
        have BN8 := Lib.hid (Blk.new w8 24 #[.int .i64 px, .int .i64 py])
        have HM8 := Lib.hid (HM7.out.ext hb)
        have HR8 := Lib.hid (HR7.out.ext hb)
        have B8 := Lib.hid (ext_trans B7.out hb)
        clear hb
        go_wp2_with fail
        refine (r4pos_at _ _ _ _ _ _ HR8.out _ HP.out).mono ?_
        rintro r w9 ⟨rfl, hb⟩
        replace hb := ext_trans hb (below_alloc w9 (.cells #[.int .i64 px, .int .i64 py] 24))
        have BN9 := Lib.hid (BN8.out.ext hb)
        have HM9 := Lib.hid (HM8.out.ext hb)
        have HR9 := Lib.hid (HR8.out.ext hb)
        have B9 := Lib.hid (ext_trans B8.out hb)
        clear hb
        have m0 := BN9.out.at_ 0 rfl
        have m1 := BN9.out.at_ 1 rfl
        have lm := BN9.out.lt
        have u1 : (on == on) = true := by simp
        have u2 : (oe == oe) = true := by simp
        have u3 : (pe == pe) = true := by simp
        go_wp2_with fail
        refine (end_ok _ _ _ _ _ _ HM9.out HE.out).mono ?_
        rintro r w10 ⟨rfl, hb⟩
        have HR10 := Lib.hid (HR9.out.ext hb)
        have B10 := Lib.hid (ext_trans B9.out hb)
        clear hb m0 m1 lm
        go_wp2_with fail
        refine (r4end_ok _ _ _ _ _ _ HR10.out HE.out).mono ?_
        rintro r w11 ⟨rfl, hb⟩
        have B11 := Lib.hid (ext_trans B10.out hb)
        clear hb
        go_wp2_with fail
        refine (works_true _).mono ?_
        rintro r w12 ⟨rfl, hb⟩
        have B12 := Lib.hid (ext_trans B11.out hb)
        clear hb
        go_wp2_with fail
        go_ret
        exact ⟨rfl, B12.out⟩
    · go_loopw [12] (fun v wr => ∃ k : Nat, v = .int .i64 (k : Nat) ∧ k ≤ n ∧ Hid (W4.grownBy wr (some g)) ∧ Hid (∃ cur, wr.heap[g]? = some (.cells cur 5 (0, 0)) ∧ n ≤ cur.size)) (fun v _ => n - (intOf v).toNat)
      case atStart => exact ⟨0, rfl, Nat.zero_le _, Lib.hid ⟨rfl, rfl, rfl, Nat.le_refl _, fun _ _ _ => rfl⟩, Lib.hid ⟨cur, hg3, hg4⟩⟩
      case round =>
        obtain ⟨k, rfl, hk, hgr, hcu⟩ := hrel
        by_cases hlt : k < n
        · have i1 : (k : Int) < (n : Int) := by omega
          obtain ⟨cur', hc1, hc2⟩ := hcu.out
          obtain ⟨u0, hcell⟩ : ∃ u, wr.cell? ⟨g, k, none⟩ = some u := ⟨cur'[k]'(by omega), by simp [World.cell?, hc1, show k < cur'.size by omega]⟩
          have hfz : wr.frozen? ⟨g, k, none⟩ = false := by simp [World.frozen?, hc1]
          obtain ⟨cur2, hd1, hd2⟩ := cells_set (k := k) hc1 (.int .u8 10)
          have HC2 := Lib.hid (show ∃ cur, (wr.setCell ⟨g, k, none⟩ (.int .u8 10)).heap[g]? = some (.cells cur 5 (0, 0)) ∧ n ≤ cur.size from ⟨cur2, hd1, by omega⟩)
          have HG2 := Lib.hid (grown_two hgr.out (grown_set wr g k (.int .u8 10)))
          clear hd1 hd2 hc1 hc2
          go_wp2_with fail
          go_roundw
          case rel => exact ⟨k + 1, by go_num, by omega, HG2, HC2⟩
          case measure => simp [intOf]; omega
        · obtain rfl : k = n := by omega
          have i1 : ¬ (k : Int) < (k : Int) := by omega
          have HM5 := Lib.hid (HM4.out.kept hgr.out hg2)
          have HR5 := Lib.hid (HR4.out.kept hgr.out (by omega))
          have BP5 := Lib.hid (BP4.out.kept hgr.out (fun e => by injection e with e; omega))
          have B5 := Lib.hid (B4.out.grown hgr.out B4.out.size (fun j e => by injection e with e; omega))
          have p0 := BP5.out.at_ 0 rfl
          have p1 := BP5.out.at_ 1 rfl
          have lp := BP5.out.lt
          go_wp2_with fail
          refine (offset_at _ _ _ _ _ _ HM5.out _ _ hm1.out HO.out).mono ?_
          rintro r w6 ⟨rfl, hb⟩
          have HM6 := Lib.hid (HM5.out.ext hb)
          have HR6 := Lib.hid (HR5.out.ext hb)
          have BP6 := Lib.hid (BP5.out.ext hb)
          have B6 := Lib.hid (ext_trans B5.out hb)
          clear hb p0 p1 lp
          have p0 := BP6.out.at_ 0 rfl
          have p1 := BP6.out.at_ 1 rfl
          have lp := BP6.out.lt
          go_wp2_with fail
          refine (r4offset_at _ _ _ _ _ _ HR6.out _ _ hm1.out HO.out).mono ?_
          rintro r w7 ⟨rfl, hb⟩
          have HM7 := Lib.hid (HM6.out.ext hb)
          have HR7 := Lib.hid (HR6.out.ext hb)
          have B7 := Lib.hid (ext_trans B6.out hb)
          clear hb p0 p1 lp
          go_wp2_with fail
          refine (pos_at _ _ _ _ _ _ HM7.out _ HP.out).mono ?_
          rintro r w8 ⟨rfl, hb⟩
          replace hb := ext_trans hb (below_alloc w8 (.cells #[.int .i64 px, .int .i64 py] 24))
          have BN8 := Lib.hid (Blk.new w8 24 #[.int .i64 px, .int .i64 py])
          have HM8 := Lib.hid (HM7.out.ext hb)
          have HR8 := Lib.hid (HR7.out.ext hb)
          have B8 := Lib.hid (ext_trans B7.out hb)
          clear hb
          go_wp2_with fail
          refine (r4pos_at _ _ _ _ _ _ HR8.out _ HP.out).mono ?_
          rintro r w9 ⟨rfl, hb⟩
          replace hb := ext_trans hb (below_alloc w9 (.cells #[.int .i64 px, .int .i64 py] 24))
          have BN9 := Lib.hid (BN8.out.ext hb)
          have HM9 := Lib.hid (HM8.out.ext hb)
          have HR9 := Lib.hid (HR8.out.ext hb)
          have B9 := Lib.hid (ext_trans B8.out hb)
          clear hb
          have m0 := BN9.out.at_ 0 rfl
          have m1 := BN9.out.at_ 1 rfl
          have lm := BN9.out.lt
          have u1 : (on == on) = true := by simp
          have u2 : (oe == oe) = true := by simp
          have u3 : (pe == pe) = true := by simp
          go_wp2_with fail
          refine (end_ok _ _ _ _ _ _ HM9.out HE.out).mono ?_
          rintro r w10 ⟨rfl, hb⟩
          have HR10 := Lib.hid (HR9.out.ext hb)
          have B10 := Lib.hid (ext_trans B9.out hb)
          clear hb m0 m1 lm
          go_wp2_with fail
          refine (r4end_ok _ _ _ _ _ _ HR10.out HE.out).mono ?_
          rintro r w11 ⟨rfl, hb⟩
          have B11 := Lib.hid (ext_trans B10.out hb)
          clear hb
          go_wp2_with fail
          refine (works_true _).mono ?_
          rintro r w12 ⟨rfl, hb⟩
          have B12 := Lib.hid (ext_trans B11.out hb)
          clear hb
          go_wp2_with fail
          go_ret
          exact ⟨rfl, B12.out⟩
  · have K := Lib.hid hch
    have d : (e != 0) = true := by simpa using he
    have d2 : (e != e) = false := by simp
    have hmax : l0.length ≤ maxLen := by unfold maxLen; omega
    clear hch HCS
    go_wp2_with fail
    refine (pnew_bad _ _ _ _ _ T1.out hB K.out he).mono ?_
    rintro r w' ⟨rfl, rfl⟩
    go_wp2_with fail
    refine (rnew4_bad _ _ _ _ _ S1.out hB K.out he).mono ?_
    rintro r w2 ⟨rfl, hb⟩
    have B2 := Lib.hid (ext_trans B1.out hb)
    have S2 := Lib.hid (S1.out.below hb)
    have T2 := Lib.hid (T1.out.below hb)
    clear hb
    go_wp2_with fail
    refine (eq_any A1 A0 _ _ c1 c0 l0 l0 w2 T2.out.row S2.out.row hmax).mono ?_
    rintro r w' ⟨rfl, q5, rfl⟩
    rw [show decide (l0 = l0) = true from decide_eq_true rfl]
    have B3 := Lib.hid (below_drewN B2.out q5)
    generalize w2.drewN q5 = W3 at *
    go_wp2_with fail
    refine (works_true _).mono ?_
    rintro r w3 ⟨rfl, hb⟩
    have B4 := Lib.hid (ext_trans B3.out hb)
    clear hb
    go_wp2_with fail
    go_ret
    exact ⟨rfl, B4.out⟩
end Go.Proofs.Ytfpgnnjkojpmdaa
