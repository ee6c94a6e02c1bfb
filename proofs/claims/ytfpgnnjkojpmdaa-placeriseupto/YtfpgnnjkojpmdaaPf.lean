/-
  What Offset, Pos, Span, Range, End (package place) answer, each by one function of the characters.
-/
import Derived.Test.YtfpgnnjkojpmdaaPe
namespace Go.Proofs.Ytfpgnnjkojpmdaa
set_option linter.unusedVariables false
set_option linter.unusedSimpArgs false
open Go.RowKit Go.Shelf
namespace Pc
open Utf Wd Wr We Wi Lm Lc Uw

/-- the block M holds these values -/
def Blk (t : TypeId) (W : World) (M : Nat) (vs : Array Value) : Prop := W.heap[M]? = some (.cells vs t (0, 0))
section
variable {t : TypeId} {W W' : World} {M : Nat} {vs : Array Value}
theorem Blk.lt (h : Blk t W M vs) : M < W.heap.size := (Array.getElem?_eq_some_iff.1 h).1
theorem Blk.at_ (h : Blk t W M vs) (i : Nat) {v : Value} (hv : vs[i]? = some v) : W.cell? ⟨M, i, none⟩ = some v := by simp [World.cell?, show W.heap[M]? = _ from h, hv]
theorem Blk.fz (h : Blk t W M vs) (i : Nat) : W.frozen? ⟨M, i, none⟩ = false := by simp [World.frozen?, show W.heap[M]? = _ from h]
theorem Blk.ext (h : Blk t W M vs) (hb : Below W.heap.size W W') : Blk t W' M vs := (hb.block M h.lt).trans h
theorem Blk.alloc (h : Blk t W M vs) (o : Obj) : Blk t (W.alloc o) M vs := h.ext (below_alloc W o)
theorem Blk.new (W : World) (t : TypeId) (vs : Array Value) : Blk t (W.alloc (.cells vs t)) W.heap.size vs := World.alloc_heap_new W _
end

theorem offset_at (M P : Nat) (A : Addr) (c : Nat) (cs : List Int) (w : World) (h : Mp w M P A c cs) (l ch : Int) (hm : ch ≤ 9223372036854775807) {n e : Int} (hz : ofz cs l ch = (n, e)) :
    Calls Try.prog 17 #[.pointer (some ⟨M, 0, none⟩), .agg #[.int .i64 l, .int .i64 ch]] w fun r w' => r = .returned (.tuple #[.int .i64 n, .int .i64 e]) ∧ Below w.heap.size w w' := by
  by_cases hneg : l < 0 ∨ ch < 0
  · rw [ofz_neg hneg] at hz; cases hz
    exact offset_neg M P A c cs w h l ch hneg
  · obtain ⟨l', rfl⟩ := Int.eq_ofNat_of_zero_le (show 0 ≤ l by omega)
    obtain ⟨ch', rfl⟩ := Int.eq_ofNat_of_zero_le (show 0 ≤ ch by omega)
    rw [ofz_nat] at hz; cases hz
    by_cases hl : l' < (lns (encs cs)).length
    · obtain ⟨p, hp⟩ : ∃ y, (lns (encs cs))[l']? = some y := ⟨_, List.getElem?_eq_getElem hl⟩
      obtain ⟨mid, hmid⟩ := ln_ex h.ch hp
      rw [hmid.off h.ch]
      exact offset_in M P A c cs w h l' ch' hmid (by omega)
    · rw [off_out (show (lns (encs cs)).length ≤ l' by omega)]
      exact offset_out M P A c cs w h l' ch' (by omega)
theorem pos_at (M P : Nat) (A : Addr) (c : Nat) (cs : List Int) (w : World) (h : Mp w M P A c cs) (a : Int) {x y e : Int} (hz : psz cs a = (x, y, e)) :
    Calls Try.prog 19 #[.pointer (some ⟨M, 0, none⟩), .int .i64 a] w fun r w' => r = .returned (.tuple #[.agg #[.int .i64 x, .int .i64 y], .int .i64 e]) ∧ Below w.heap.size w w' := by
  by_cases hout : a < 0 ∨ ((encs cs).length : Int) < a
  · rw [psz_out hout] at hz; cases hz
    exact pos_out M P A c cs w h a hout
  · obtain ⟨a', rfl⟩ := Int.eq_ofNat_of_zero_le (show 0 ≤ a by omega)
    rw [psz_nat (show a' ≤ (encs cs).length by omega)] at hz; cases hz
    obtain ⟨i, p, mid, hl, hp, _⟩ := line_ex h.ch a'
    rw [hl.plc h.ch hp]
    exact pos_in M P A c cs w h a' i hl hp (by omega)
theorem offset_ok (M P : Nat) (A : Addr) (c : Nat) (cs : List Int) (w : World) (h : Mp w M P A c cs) (l ch : Nat) (hm : ch ≤ 9223372036854775807) {n : Nat} (hz : off cs l ch = n) :
    Calls Try.prog 17 #[.pointer (some ⟨M, 0, none⟩), .agg #[.int .i64 (l : Nat), .int .i64 (ch : Nat)]] w fun r w' => r = .returned (.tuple #[.int .i64 (n : Nat), .int .i64 0]) ∧ Below w.heap.size w w' :=
  offset_at M P A c cs w h l ch (by omega) (by rw [ofz_nat, hz])
theorem pos_ok (M P : Nat) (A : Addr) (c : Nat) (cs : List Int) (w : World) (h : Mp w M P A c cs) (a : Nat) (ha : a ≤ (encs cs).length) {x y : Nat} (hz : plc cs a = (x, y)) :
    Calls Try.prog 19 #[.pointer (some ⟨M, 0, none⟩), .int .i64 (a : Nat)] w fun r w' => r = .returned (.tuple #[.agg #[.int .i64 (x : Nat), .int .i64 (y : Nat)], .int .i64 0]) ∧ Below w.heap.size w w' :=
  pos_at M P A c cs w h a (by rw [psz_nat ha, hz])

set_option maxRecDepth 100000 in
set_option maxHeartbeats 3200000 in
theorem span_at (M P : Nat) (A : Addr) (c : Nat) (cs : List Int) (w : World) (h : Mp w M P A c cs) (l ch l2 ch2 : Int) (hm : ch ≤ 9223372036854775807) (hm2 : ch2 ≤ 9223372036854775807) {x y e : Int} (hz : spz cs l ch l2 ch2 = (x, y, e)) :
    Calls Try.prog 23 #[.pointer (some ⟨M, 0, none⟩), .agg #[.int .i64 l, .int .i64 ch, .int .i64 l2, .int .i64 ch2]] w fun r w' => r = .returned (.tuple #[.agg #[.int .i64 x, .int .i64 y], .int .i64 e]) ∧ Below w.heap.size w w' := by
  have hb0 := below_alloc w (.cells #[.int .i64 l, .int .i64 ch, .int .i64 l2, .int .i64 ch2] 42)
  have hb1 := below_alloc (w.alloc (.cells #[.int .i64 l, .int .i64 ch, .int .i64 l2, .int .i64 ch2] 42)) (.cells #[.int .i64 0, .int .i64 0] 44)
  have H := Lib.hid ((h.ext hb0).ext hb1)
  have B := Lib.hid (ext_trans hb0 hb1)
  have bp : Blk 42 ((w.alloc (.cells #[.int .i64 l, .int .i64 ch, .int .i64 l2, .int .i64 ch2] 42)).alloc (.cells #[.int .i64 0, .int .i64 0] 44)) w.heap.size #[.int .i64 l, .int .i64 ch, .int .i64 l2, .int .i64 ch2] := (Blk.new _ _ _).alloc _
  have br : Blk 44 ((w.alloc (.cells #[.int .i64 l, .int .i64 ch, .int .i64 l2, .int .i64 ch2] 42)).alloc (.cells #[.int .i64 0, .int .i64 0] 44)) (w.heap.size + 1) #[.int .i64 0, .int .i64 0] := by have := Blk.new (w.alloc (.cells #[.int .i64 l, .int .i64 ch, .int .i64 l2, .int .i64 ch2] 42)) 44 #[.int .i64 0, .int .i64 0]; simpa using this
  have BP := Lib.hid bp
  have BR := Lib.hid br
  obtain ⟨n1, e1, h1⟩ : ∃ n1 e1, ofz cs l ch = (n1, e1) := ⟨_, _, rfl⟩
  have HZ1 := Lib.hid h1
  obtain ⟨n2, e2, h2⟩ : ∃ n2 e2, ofz cs l2 ch2 = (n2, e2) := ⟨_, _, rfl⟩
  have HZ2 := Lib.hid h2
  clear h1 h2
  clear h hb0 hb1 bp br
  unfold spz at hz
  rw [HZ1.out, HZ2.out] at hz
  by_cases he1 : e1 = 0
  · subst he1
    by_cases he2 : e2 = 0
    · subst he2
      by_cases hlt : n2 < n1
      · have hz' := Lib.hid (show 0 = x ∧ 0 = y ∧ 2 = e by simp [hlt] at hz; exact hz)
        clear hz
        go_enter Try.func23, Try.ntmps23
        go_wp2_with fail
        refine (offset_at _ _ _ _ _ _ H.out l ch hm HZ1.out).mono ?_
        rintro r w1 ⟨rfl, hb⟩
        have B1 := Lib.hid (ext_trans B.out hb)
        have H1 := Lib.hid (H.out.ext hb)
        have BP1 := Lib.hid (BP.out.ext hb)
        have BR1 := Lib.hid (BR.out.ext hb)
        clear hb
        have q0 := BP1.out.at_ 0 rfl
        have q1 := BP1.out.at_ 1 rfl
        have q2 := BP1.out.at_ 2 rfl
        have q3 := BP1.out.at_ 3 rfl
        have hlt1 := BP1.out.lt
        go_wp2_with fail
        refine (offset_at _ _ _ _ _ _ H1.out l2 ch2 hm2 HZ2.out).mono ?_
        rintro r w2 ⟨rfl, hb⟩
        have B2 := Lib.hid (ext_trans B1.out hb)
        have BR2 := Lib.hid (BR1.out.ext hb)
        clear hb q0 q1 q2 q3
        have r0 := BR2.out.at_ 0 rfl
        have f0 := BR2.out.fz 0
        have r1 := BR2.out.at_ 1 rfl
        have f1 := BR2.out.fz 1
        have hlr := BR2.out.lt
        go_wp2_with fail
        obtain ⟨rfl, rfl, rfl⟩ := hz'.out
        refine bodyPost_ret (v := .tuple #[.agg #[.int .i64 0, .int .i64 0], .int .i64 2]) ?_ rfl ⟨rfl, ?_⟩
        · simp only [results]
          go_simp
        · exact ((B2.out).setCell (by simp) _).setCell (by simp) _
      · have hz' := Lib.hid (show n1 = x ∧ n2 = y ∧ 0 = e by simp [hlt] at hz; exact hz)
        clear hz
        go_enter Try.func23, Try.ntmps23
        go_wp2_with fail
        refine (offset_at _ _ _ _ _ _ H.out l ch hm HZ1.out).mono ?_
        rintro r w1 ⟨rfl, hb⟩
        have B1 := Lib.hid (ext_trans B.out hb)
        have H1 := Lib.hid (H.out.ext hb)
        have BP1 := Lib.hid (BP.out.ext hb)
        have BR1 := Lib.hid (BR.out.ext hb)
        clear hb
        have q0 := BP1.out.at_ 0 rfl
        have q1 := BP1.out.at_ 1 rfl
        have q2 := BP1.out.at_ 2 rfl
        have q3 := BP1.out.at_ 3 rfl
        have hlt1 := BP1.out.lt
        go_wp2_with fail
        refine (offset_at _ _ _ _ _ _ H1.out l2 ch2 hm2 HZ2.out).mono ?_
        rintro r w2 ⟨rfl, hb⟩
        have B2 := Lib.hid (ext_trans B1.out hb)
        have BR2 := Lib.hid (BR1.out.ext hb)
        clear hb q0 q1 q2 q3
        have r0 := BR2.out.at_ 0 rfl
        have f0 := BR2.out.fz 0
        have r1 := BR2.out.at_ 1 rfl
        have f1 := BR2.out.fz 1
        have hlr := BR2.out.lt
        go_wp2_with fail
        obtain ⟨rfl, rfl, rfl⟩ := hz'.out
        refine bodyPost_ret (v := .tuple #[.agg #[.int .i64 n1, .int .i64 n2], .int .i64 0]) ?_ rfl ⟨rfl, ?_⟩
        · simp only [results]
          go_simp
        · exact ((B2.out).setCell (by simp) _).setCell (by simp) _
    · have hz' := Lib.hid (show 0 = x ∧ 0 = y ∧ e2 = e by simp [he2] at hz; exact hz)
      have d2 : (e2 != 0) = true := by simpa using he2
      clear hz
      go_enter Try.func23, Try.ntmps23
      go_wp2_with fail
      refine (offset_at _ _ _ _ _ _ H.out l ch hm HZ1.out).mono ?_
      rintro r w1 ⟨rfl, hb⟩
      have B1 := Lib.hid (ext_trans B.out hb)
      have H1 := Lib.hid (H.out.ext hb)
      have BP1 := Lib.hid (BP.out.ext hb)
      have BR1 := Lib.hid (BR.out.ext hb)
      clear hb
      have q0 := BP1.out.at_ 0 rfl
      have q1 := BP1.out.at_ 1 rfl
      have q2 := BP1.out.at_ 2 rfl
      have q3 := BP1.out.at_ 3 rfl
      have hlt1 := BP1.out.lt
      go_wp2_with fail
      refine (offset_at _ _ _ _ _ _ H1.out l2 ch2 hm2 HZ2.out).mono ?_
      rintro r w2 ⟨rfl, hb⟩
      have B2 := Lib.hid (ext_trans B1.out hb)
      have BR2 := Lib.hid (BR1.out.ext hb)
      clear hb q0 q1 q2 q3
      have r0 := BR2.out.at_ 0 rfl
      have f0 := BR2.out.fz 0
      have r1 := BR2.out.at_ 1 rfl
      have f1 := BR2.out.fz 1
      have hlr := BR2.out.lt
      go_wp2_with fail
      obtain ⟨rfl, rfl, rfl⟩ := hz'.out
      refine bodyPost_ret (v := .tuple #[.agg #[.int .i64 0, .int .i64 0], .int .i64 e2]) ?_ rfl ⟨rfl, ?_⟩
      · simp only [results]
        go_simp
      · exact ((B2.out).setCell (by simp) _).setCell (by simp) _
  · have hz' := Lib.hid (show 0 = x ∧ 0 = y ∧ e1 = e by simp [he1] at hz; exact hz)
    have d1 : (e1 != 0) = true := by simpa using he1
    clear hz
    go_enter Try.func23, Try.ntmps23
    go_wp2_with fail
    refine (offset_at _ _ _ _ _ _ H.out l ch hm HZ1.out).mono ?_
    rintro r w1 ⟨rfl, hb⟩
    have B1 := Lib.hid (ext_trans B.out hb)
    have H1 := Lib.hid (H.out.ext hb)
    have BP1 := Lib.hid (BP.out.ext hb)
    have BR1 := Lib.hid (BR.out.ext hb)
    clear hb
    have q0 := BP1.out.at_ 0 rfl
    have q1 := BP1.out.at_ 1 rfl
    have q2 := BP1.out.at_ 2 rfl
    have q3 := BP1.out.at_ 3 rfl
    have r0 := BR1.out.at_ 0 rfl
    have f0 := BR1.out.fz 0
    have r1 := BR1.out.at_ 1 rfl
    have f1 := BR1.out.fz 1
    have hlr := BR1.out.lt
    go_wp2_with fail
    obtain ⟨rfl, rfl, rfl⟩ := hz'.out
    refine bodyPost_ret (v := .tuple #[.agg #[.int .i64 0, .int .i64 0], .int .i64 e1]) ?_ rfl ⟨rfl, ?_⟩
    · simp only [results]
      go_simp
    · exact ((B1.out).setCell (by simp) _).setCell (by simp) _

set_option maxRecDepth 100000 in
set_option maxHeartbeats 3200000 in
theorem range_at (M P : Nat) (A : Addr) (c : Nat) (cs : List Int) (w : World) (h : Mp w M P A c cs) (a b : Int) {x y x' y' e : Int} (hz : rgz cs a b = ((x, y), (x', y'), e)) :
    Calls Try.prog 25 #[.pointer (some ⟨M, 0, none⟩), .agg #[.int .i64 a, .int .i64 b]] w fun r w' => r = .returned (.tuple #[.agg #[.int .i64 x, .int .i64 y, .int .i64 x', .int .i64 y'], .int .i64 e]) ∧ Below w.heap.size w w' := by
  have hb0 := below_alloc w (.cells #[.int .i64 a, .int .i64 b] 44)
  have hb1 := below_alloc (w.alloc (.cells #[.int .i64 a, .int .i64 b] 44)) (.cells #[.int .i64 0, .int .i64 0, .int .i64 0, .int .i64 0] 42)
  have H := Lib.hid ((h.ext hb0).ext hb1)
  have B := Lib.hid (ext_trans hb0 hb1)
  have bp : Blk 44 ((w.alloc (.cells #[.int .i64 a, .int .i64 b] 44)).alloc (.cells #[.int .i64 0, .int .i64 0, .int .i64 0, .int .i64 0] 42)) w.heap.size #[.int .i64 a, .int .i64 b] := (Blk.new _ _ _).alloc _
  have br : Blk 42 ((w.alloc (.cells #[.int .i64 a, .int .i64 b] 44)).alloc (.cells #[.int .i64 0, .int .i64 0, .int .i64 0, .int .i64 0] 42)) (w.heap.size + 1) #[.int .i64 0, .int .i64 0, .int .i64 0, .int .i64 0] := by have := Blk.new (w.alloc (.cells #[.int .i64 a, .int .i64 b] 44)) 42 #[.int .i64 0, .int .i64 0, .int .i64 0, .int .i64 0]; simpa using this
  have BP := Lib.hid bp
  have BR := Lib.hid br
  obtain ⟨x1, y1, e1, h1⟩ : ∃ x1 y1 e1, psz cs a = (x1, y1, e1) := ⟨_, _, _, rfl⟩
  have HZ1 := Lib.hid h1
  obtain ⟨x2, y2, e2, h2⟩ : ∃ x2 y2 e2, psz cs b = (x2, y2, e2) := ⟨_, _, _, rfl⟩
  have HZ2 := Lib.hid h2
  clear h1 h2
  clear h hb0 hb1 bp br
  unfold rgz at hz
  rw [HZ1.out, HZ2.out] at hz
  by_cases he1 : e1 = 0
  · subst he1
    by_cases he2 : e2 = 0
    · subst he2
      by_cases hlt : b < a
      · have hz' := Lib.hid (show (0 = x ∧ 0 = y) ∧ (0 = x' ∧ 0 = y') ∧ 2 = e by simp [hlt] at hz; exact hz)
        clear hz
        go_enter Try.func25, Try.ntmps25
        go_wp2_with fail
        refine (pos_at _ _ _ _ _ _ H.out a HZ1.out).mono ?_
        rintro r w1 ⟨rfl, hb⟩
        replace hb := ext_trans hb (below_alloc w1 (.cells #[.int .i64 x1, .int .i64 y1] 24))
        have BF := Lib.hid (Blk.new w1 24 #[.int .i64 x1, .int .i64 y1])
        have B1 := Lib.hid (ext_trans B.out hb)
        have H1 := Lib.hid (H.out.ext hb)
        have BP1 := Lib.hid (BP.out.ext hb)
        have BR1 := Lib.hid (BR.out.ext hb)
        clear hb
        have q0 := BP1.out.at_ 0 rfl
        have q1 := BP1.out.at_ 1 rfl
        have hlt1 := BP1.out.lt
        go_wp2_with fail
        refine (pos_at _ _ _ _ _ _ H1.out b HZ2.out).mono ?_
        rintro r w2 ⟨rfl, hb⟩
        replace hb := ext_trans hb (below_alloc w2 (.cells #[.int .i64 x2, .int .i64 y2] 24))
        have B2 := Lib.hid (ext_trans B1.out hb)
        have BR2 := Lib.hid (BR1.out.ext hb)
        have BP2 := Lib.hid (BP1.out.ext hb)
        have BF2 := Lib.hid (BF.out.ext hb)
        have z0 := BF2.out.at_ 0 rfl
        have z1 := BF2.out.at_ 1 rfl
        have hltz := BF2.out.lt
        clear hb q0 q1
        have q0 := BP2.out.at_ 0 rfl
        have q1 := BP2.out.at_ 1 rfl
        have hlt2 := BP2.out.lt
        have r0 := BR2.out.at_ 0 rfl
        have f0 := BR2.out.fz 0
        have r1 := BR2.out.at_ 1 rfl
        have f1 := BR2.out.fz 1
        have r2 := BR2.out.at_ 2 rfl
        have f2 := BR2.out.fz 2
        have r3 := BR2.out.at_ 3 rfl
        have f3 := BR2.out.fz 3
        have hlr := BR2.out.lt
        go_wp2_with fail
        obtain ⟨⟨rfl, rfl⟩, ⟨rfl, rfl⟩, rfl⟩ := hz'.out
        refine bodyPost_ret (v := .tuple #[.agg #[.int .i64 0, .int .i64 0, .int .i64 0, .int .i64 0], .int .i64 2]) ?_ rfl ⟨rfl, ?_⟩
        · simp only [results]
          go_simp
        · exact ((((B2.out).setCell (by simp) _).setCell (by simp) _).setCell (by simp) _).setCell (by simp) _
      · have hz' := Lib.hid (show (x1 = x ∧ y1 = y) ∧ (x2 = x' ∧ y2 = y') ∧ 0 = e by simp [hlt] at hz; exact hz)
        clear hz
        go_enter Try.func25, Try.ntmps25
        go_wp2_with fail
        refine (pos_at _ _ _ _ _ _ H.out a HZ1.out).mono ?_
        rintro r w1 ⟨rfl, hb⟩
        replace hb := ext_trans hb (below_alloc w1 (.cells #[.int .i64 x1, .int .i64 y1] 24))
        have BF := Lib.hid (Blk.new w1 24 #[.int .i64 x1, .int .i64 y1])
        have B1 := Lib.hid (ext_trans B.out hb)
        have H1 := Lib.hid (H.out.ext hb)
        have BP1 := Lib.hid (BP.out.ext hb)
        have BR1 := Lib.hid (BR.out.ext hb)
        clear hb
        have q0 := BP1.out.at_ 0 rfl
        have q1 := BP1.out.at_ 1 rfl
        have hlt1 := BP1.out.lt
        go_wp2_with fail
        refine (pos_at _ _ _ _ _ _ H1.out b HZ2.out).mono ?_
        rintro r w2 ⟨rfl, hb⟩
        replace hb := ext_trans hb (below_alloc w2 (.cells #[.int .i64 x2, .int .i64 y2] 24))
        have B2 := Lib.hid (ext_trans B1.out hb)
        have BR2 := Lib.hid (BR1.out.ext hb)
        have BP2 := Lib.hid (BP1.out.ext hb)
        have BF2 := Lib.hid (BF.out.ext hb)
        have z0 := BF2.out.at_ 0 rfl
        have z1 := BF2.out.at_ 1 rfl
        have hltz := BF2.out.lt
        clear hb q0 q1
        have q0 := BP2.out.at_ 0 rfl
        have q1 := BP2.out.at_ 1 rfl
        have hlt2 := BP2.out.lt
        have r0 := BR2.out.at_ 0 rfl
        have f0 := BR2.out.fz 0
        have r1 := BR2.out.at_ 1 rfl
        have f1 := BR2.out.fz 1
        have r2 := BR2.out.at_ 2 rfl
        have f2 := BR2.out.fz 2
        have r3 := BR2.out.at_ 3 rfl
        have f3 := BR2.out.fz 3
        have hlr := BR2.out.lt
        go_wp2_with fail
        obtain ⟨⟨rfl, rfl⟩, ⟨rfl, rfl⟩, rfl⟩ := hz'.out
        refine bodyPost_ret (v := .tuple #[.agg #[.int .i64 x1, .int .i64 y1, .int .i64 x2, .int .i64 y2], .int .i64 0]) ?_ rfl ⟨rfl, ?_⟩
        · simp only [results]
          go_simp
        · exact ((((B2.out).setCell (by simp) _).setCell (by simp) _).setCell (by simp) _).setCell (by simp) _
    · have hz' := Lib.hid (show (0 = x ∧ 0 = y) ∧ (0 = x' ∧ 0 = y') ∧ e2 = e by simp [he2] at hz; exact hz)
      have d2 : (e2 != 0) = true := by simpa using he2
      clear hz
      go_enter Try.func25, Try.ntmps25
      go_wp2_with fail
      refine (pos_at _ _ _ _ _ _ H.out a HZ1.out).mono ?_
      rintro r w1 ⟨rfl, hb⟩
      replace hb := ext_trans hb (below_alloc w1 (.cells #[.int .i64 x1, .int .i64 y1] 24))
      have BF := Lib.hid (Blk.new w1 24 #[.int .i64 x1, .int .i64 y1])
      have B1 := Lib.hid (ext_trans B.out hb)
      have H1 := Lib.hid (H.out.ext hb)
      have BP1 := Lib.hid (BP.out.ext hb)
      have BR1 := Lib.hid (BR.out.ext hb)
      clear hb
      have q0 := BP1.out.at_ 0 rfl
      have q1 := BP1.out.at_ 1 rfl
      have hlt1 := BP1.out.lt
      go_wp2_with fail
      refine (pos_at _ _ _ _ _ _ H1.out b HZ2.out).mono ?_
      rintro r w2 ⟨rfl, hb⟩
      replace hb := ext_trans hb (below_alloc w2 (.cells #[.int .i64 x2, .int .i64 y2] 24))
      have B2 := Lib.hid (ext_trans B1.out hb)
      have BR2 := Lib.hid (BR1.out.ext hb)
      have BP2 := Lib.hid (BP1.out.ext hb)
      have BF2 := Lib.hid (BF.out.ext hb)
      have z0 := BF2.out.at_ 0 rfl
      have z1 := BF2.out.at_ 1 rfl
      have hltz := BF2.out.lt
      clear hb q0 q1
      have q0 := BP2.out.at_ 0 rfl
      have q1 := BP2.out.at_ 1 rfl
      have hlt2 := BP2.out.lt
      have r0 := BR2.out.at_ 0 rfl
      have f0 := BR2.out.fz 0
      have r1 := BR2.out.at_ 1 rfl
      have f1 := BR2.out.fz 1
      have r2 := BR2.out.at_ 2 rfl
      have f2 := BR2.out.fz 2
      have r3 := BR2.out.at_ 3 rfl
      have f3 := BR2.out.fz 3
      have hlr := BR2.out.lt
      go_wp2_with fail
      obtain ⟨⟨rfl, rfl⟩, ⟨rfl, rfl⟩, rfl⟩ := hz'.out
      refine bodyPost_ret (v := .tuple #[.agg #[.int .i64 0, .int .i64 0, .int .i64 0, .int .i64 0], .int .i64 e2]) ?_ rfl ⟨rfl, ?_⟩
      · simp only [results]
        go_simp
      · exact ((((B2.out).setCell (by simp) _).setCell (by simp) _).setCell (by simp) _).setCell (by simp) _
  · have hz' := Lib.hid (show (0 = x ∧ 0 = y) ∧ (0 = x' ∧ 0 = y') ∧ e1 = e by simp [he1] at hz; exact hz)
    have d1 : (e1 != 0) = true := by simpa using he1
    clear hz
    go_enter Try.func25, Try.ntmps25
    go_wp2_with fail
    refine (pos_at _ _ _ _ _ _ H.out a HZ1.out).mono ?_
    rintro r w1 ⟨rfl, hb⟩
    replace hb := ext_trans hb (below_alloc w1 (.cells #[.int .i64 x1, .int .i64 y1] 24))
    have BF := Lib.hid (Blk.new w1 24 #[.int .i64 x1, .int .i64 y1])
    have B1 := Lib.hid (ext_trans B.out hb)
    have H1 := Lib.hid (H.out.ext hb)
    have BP1 := Lib.hid (BP.out.ext hb)
    have BR1 := Lib.hid (BR.out.ext hb)
    clear hb
    have q0 := BP1.out.at_ 0 rfl
    have q1 := BP1.out.at_ 1 rfl
    have r0 := BR1.out.at_ 0 rfl
    have f0 := BR1.out.fz 0
    have r1 := BR1.out.at_ 1 rfl
    have f1 := BR1.out.fz 1
    have r2 := BR1.out.at_ 2 rfl
    have f2 := BR1.out.fz 2
    have r3 := BR1.out.at_ 3 rfl
    have f3 := BR1.out.fz 3
    have hlr := BR1.out.lt
    go_wp2_with fail
    obtain ⟨⟨rfl, rfl⟩, ⟨rfl, rfl⟩, rfl⟩ := hz'.out
    refine bodyPost_ret (v := .tuple #[.agg #[.int .i64 0, .int .i64 0, .int .i64 0, .int .i64 0], .int .i64 e1]) ?_ rfl ⟨rfl, ?_⟩
    · simp only [results]
      go_simp
    · exact ((((B1.out).setCell (by simp) _).setCell (by simp) _).setCell (by simp) _).setCell (by simp) _
end Pc
end Go.Proofs.Ytfpgnnjkojpmdaa
