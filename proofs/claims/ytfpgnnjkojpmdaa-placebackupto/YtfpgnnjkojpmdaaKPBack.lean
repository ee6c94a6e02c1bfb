/-
  The walk of PlaceBack.
-/
import Derived.Test.YtfpgnnjkojpmdaaPi
import Derived.Test.YtfpgnnjkojpmdaaLy
import Derived.Test.YtfpgnnjkojpmdaaWe
import Derived.Test.YtfpgnnjkojpmdaaWp
namespace Go.Proofs.Ytfpgnnjkojpmdaa
set_option linter.unusedVariables false
set_option linter.unusedSimpArgs false
open Go.RowKit Go.ChangeShapes Go.WideShapes Go.Shelf
open Utf Wd Wr We Wi Lm Lc Pc
attribute [local go_sem] Oper.semAt_some

theorem keeps_below {W W' : World} (h : Below W.heap.size W W') : KeepsOthers W W' := ⟨h.size, fun k o hk _ => (h.block k (Array.getElem?_eq_some_iff.1 hk).1).trans hk⟩

set_option maxRecDepth 100000 in
set_option maxHeartbeats 6400000 in
theorem walk_PlaceBack (A0 : Option Addr) (n0 c0 : Nat) (l0 : List Int) (w : World) (s0 : Sl .u8 w A0 n0 c0 l0) (b0 : ∀ x ∈ l0, (Lit.int .u8 x).wf = true) (z0 : c0 * 1 ≤ 140737488351232) (u0 : c0 ≤ 1048576) :
    Calls Try.prog 5 #[.slice A0 n0 c0] w fun e w' => e = .returned (.bool true) ∧ Below w.heap.size w w' := by
  have S := Lib.hid s0
  have hB := isB_of b0
  have hnle := s0.le
  have hlen := s0.len
  have HL := Lib.hid hlen
  clear s0 b0 z0
  refine (callsIn_wide (n := 6)).1 (callsIn_of_wp_marks Try.func5 rfl trivial ?_ rfl)
  simp only [Try.ntmps5, List.size_toArray, List.length_cons, List.length_nil, Nat.reduceAdd, Nat.reduceSub, Array.replicate_succ, Array.replicate_zero, List.push_toArray, List.append_toArray, List.nil_append, List.cons_append]
  refine wpIn_wide.2 ?_
  go_wp2_with fail
  have bS : Blk 22 ((w.alloc (.cells #[.slice A0 n0 c0] 22)).alloc (.cells #[.bool false] 4)) w.heap.size #[.slice A0 n0 c0] := (Blk.new _ _ _).alloc _
  have bR : Blk 4 ((w.alloc (.cells #[.slice A0 n0 c0] 22)).alloc (.cells #[.bool false] 4)) (w.heap.size + 1) #[.bool false] := by
    have := Blk.new (w.alloc (.cells #[.slice A0 n0 c0] 22)) 4 #[.bool false]
    rw [World.size_alloc] at this
    exact this
  have bB : Below w.heap.size w ((w.alloc (.cells #[.slice A0 n0 c0] 22)).alloc (.cells #[.bool false] 4)) := ((Below.refl _ w).alloc (Nat.le_refl _) _).alloc (by simp) _
  generalize (w.alloc (.cells #[.slice A0 n0 c0] 22)).alloc (.cells #[.bool false] 4) = W0 at bS bR bB ⊢
  refine (works_true W0).mono ?_
  rintro e' w1 ⟨rfl, hb⟩
  have S1 := Lib.hid (S.out.below (ext_trans bB hb))
  have BS1 := Lib.hid (bS.ext hb)
  have BR1 := Lib.hid (bR.ext hb)
  have B1 := Lib.hid (ext_trans bB hb)
  clear bS bR bB hb
  have cs1 := BS1.out.at_ 0 rfl
  have ls1 := BS1.out.lt
  rcases txt_or hB with ⟨cs, hc, rfl⟩ | ⟨x, y, e, he, hch⟩
  · have HF := Lib.hid (show ((Lm.ends 0 (encs cs)).length + 1) * 16 ≤ 140737488355328 by have := Lm.ends_le (encs cs) 0; omega)
    have HC := Lib.hid hc
    clear hc
    go_wp2_with fail
    refine (made_ok _ _ _ _ _ HC.out S1.out HF.out (by omega)).mono ?_
    rintro e' w2 ⟨M, P, A, c, rfl, hM, hb⟩
    have hba := below_alloc w2 (.cells #[.pointer (some ⟨M, 0, none⟩)] 26)
    have bm := Blk.new w2 26 #[.pointer (some ⟨M, 0, none⟩)]
    replace hb := ext_trans hb hba
    have HM := Lib.hid (hM.ext hba)
    have S2 := Lib.hid (S1.out.below hb)
    have BS2 := Lib.hid (BS1.out.ext hb)
    have BR2 := Lib.hid (BR1.out.ext hb)
    have B2 := Lib.hid (ext_trans B1.out hb)
    have BM2 := Lib.hid bm
    clear hM hb hba bm cs1 ls1
    have cs1 := BS2.out.at_ 0 rfl
    have ls1 := BS2.out.lt
    go_wp2_with fail
    refine (new_few _ _ _ _ _ S2.out (encs_byte cs) (chk_encs HC.out) HF.out).mono ?_
    rintro e' w3 ⟨P3, rfl, hI, hb⟩
    have HI := Lib.hid hI
    have HM3 := Lib.hid (HM.out.ext hb)
    have S3 := Lib.hid (S2.out.below hb)
    have BS3 := Lib.hid (BS2.out.ext hb)
    have BR3 := Lib.hid (BR2.out.ext hb)
    have BM3 := Lib.hid (BM2.out.ext hb)
    have B3 := Lib.hid (ext_trans B2.out hb)
    clear hI hb cs1 ls1
    have cm := BM3.out.at_ 0 rfl
    have lm := BM3.out.lt
    go_wp2_with fail
    refine (callsIn_wide (n := 5)).1 (all_in _ _ _) |>.mono ?_
    rintro e w' ⟨rfl, rfl⟩
    go_wp2_with fail
    rw [func_not_nil]
    go_wp2_with fail
    refine (callsIn_wide (n := 5)).1 (all_in _ _ _) |>.mono ?_
    rintro e w' ⟨rfl, rfl⟩
    have hb := ext_trans (below_alloc w3 (.cells #[.pointer (some ⟨P3, 0, none⟩)] 51)) (below_alloc (w3.alloc (.cells #[.pointer (some ⟨P3, 0, none⟩)] 51)) (.cells #[.pointer (some ⟨P3, 0, none⟩)] 51))
    have bx := Blk.new (w3.alloc (.cells #[.pointer (some ⟨P3, 0, none⟩)] 51)) 51 #[.pointer (some ⟨P3, 0, none⟩)]
    rw [World.size_alloc] at bx
    generalize hw3 : w2.heap.size = Mb at *
    simp only [World.size_alloc]
    generalize (w3.alloc (.cells #[.pointer (some ⟨P3, 0, none⟩)] 51)).alloc (.cells #[.pointer (some ⟨P3, 0, none⟩)] 51) = w6 at hb bx ⊢
    generalize hZ3 : w3.heap.size = Z3 at bx ⊢
    generalize Z3 + 1 = Bn at bx ⊢
    have HM6 := Lib.hid (HM3.out.ext hb)
    have HI6 := Lib.hid (HI.out.ext hb)
    have S6 := Lib.hid (S3.out.below hb)
    have BS6 := Lib.hid (BS3.out.ext hb)
    have BR6 := Lib.hid (BR3.out.ext hb)
    have BM6 := Lib.hid (BM3.out.ext hb)
    have B6 := Lib.hid (ext_trans B3.out hb)
    have BX6 := Lib.hid bx
    clear hb bx HM HM3 HI S1 S2 S3 BS1 BS2 BS3 BR1 BR2 BR3 BM2 BM3 B1 B2 B3 cm lm hw3 hZ3
    obtain ⟨g, cap, hrd, _, hgl⟩ := HI6.out.rd (lns_ne _)
    have hPl : P3 < w6.heap.size := HI6.out.2.choose_spec.1.lt
    have RD := Lib.hid hrd
    have hBn := BX6.out.lt
    clear hrd
    go_wp2_with fail
    refine (wpIn_wide (n := 6)).1 ?_
    refine wpIn_rangeFunc_ownH (n := 6) rfl (by decide) (gf := 52) (lb := #[.pointer (some ⟨Bn, 0, none⟩)]) rfl trivial (enters_of Try.func52 (by kernel_rfl) rfl)
      (all_lines 5 (by decide) Bn w6.heap.size P3 g cap (lns (encs cs)) w6 hBn (Nat.le_refl _) hPl hgl (BX6.out.at_ 0 rfl) RD.out)
      belowK_t (belowK_b (Nat.le_refl _)) (Below.refl _ _) (fun _ => rfl)
      (fun pre W => Below w6.heap.size w6 W) (fun c pre W => False)
      (fun _ X Y row h hg hr => h.grown hg h.size (fun k e => (hr k e).1)) (fun _ _ _ _ _ hs _ _ => hs) (Below.refl _ _)
      (fun z a' W => ∃ Bx, w6.heap.size ≤ Bx ∧ Pair W Bx 44 z.1.2 ∧ a' = { tmps := #[Value.slice A0 n0 c0, Value.pointer (some { block := w.heap.size, off := 0 }), Value.pointer (some { block := w.heap.size + 1, off := 0 }), Value.pointer (some { block := Mb, off := 0 }), Value.pointer (some { block := P3, off := 0 }), Value.int IntKind.i64 0, undef, Value.pointer (some { block := Bx, off := 0 }), undef, undef, undef, undef, undef, undef, undef, undef, Value.bool true, Value.bool false, Value.slice A0 n0 c0, Value.pointer (some { block := M, off := 0 }), Value.tuple #[Value.pointer (some { block := P3, off := 0 }), Value.int IntKind.i64 0], Value.slice A0 n0 c0, Value.tuple #[Value.pointer (some { block := P3, off := 0 }), Value.int IntKind.i64 0], Value.pointer (some { block := P3, off := 0 }), Value.int IntKind.i64 0, Value.pointer (some { block := M, off := 0 }), Value.bool false, Value.bool false, Value.int IntKind.i64 0, Value.bool false, Value.bool false, undef, undef, undef, undef, undef, undef, Value.pointer (some { block := P3, off := 0 }), Value.func (Fn.func 52) #[] #[Value.pointer (some { block := Z3, off := 0 })], Value.bool false, Value.pointer (some { block := P3, off := 0 }), Value.func (Fn.func 52) #[] #[Value.pointer (some { block := Bn, off := 0 })], Value.int IntKind.i64 (z.1.1 : Int), Value.agg #[Value.int IntKind.i64 (z.1.2.1 : Int), Value.int IntKind.i64 (z.1.2.2 : Int)], undef, undef, undef, undef, undef, undef, undef, undef, undef, undef, undef, undef, undef, undef, undef, undef, undef, undef, undef, undef, undef, undef, undef, undef, undef, undef, undef, undef, undef, undef, undef, undef, undef, undef, undef, undef, undef, undef, undef, undef, undef, undef, undef, undef, undef], defers := [] }) ?hAx ?assign ?body ?done ?stop
    case hAx =>
      rintro x a' _ X Y row ⟨Bx, h1, h2, h3⟩ hg hrow
      exact ⟨Bx, h1, h2.kept hg (fun e => by obtain ⟨_, o, ho, hc⟩ := hrow Bx e.symm; rw [show X.heap[Bx]? = _ from h2] at ho; cases ho; cases hc), h3⟩
    case assign =>
      rintro l pre x W K hi' hK
      simp only [isp, sp] at hK ⊢
      gi_wp2_with fail
      have hsW := hi'.size
      exact hK _ _ ((KeepsOthers.alloc _ _).from _) ((Below.refl _ W).alloc hsW _) (hi'.alloc hsW _) ⟨W.heap.size, hsW, Pair.new W _ x.1.2, rfl⟩
    case body =>
      rintro l pre ⟨⟨i, p⟩, hz⟩ a' W hl ⟨r, hr⟩ hbW ⟨Bx, hBx, hpx, rfl⟩ hlt
      simp only at hz hpx
      obtain ⟨mid, hln⟩ := ln_ex HC.out hz
      have LN := Lib.hid hln
      have BW := Lib.hid hbW
      have HPX := Lib.hid hpx
      have hxl := hpx.lt
      have bmW := BM6.out.ext hbW
      have bsW := BS6.out.ext hbW
      have HMW := Lib.hid (HM6.out.ext hbW)
      have SW := Lib.hid (S6.out.below hbW)
      have p0 := hpx.at0
      have p1 := hpx.at1
      have cm := bmW.at_ 0 rfl
      have cb := bsW.at_ 0 rfl
      have lm := bmW.lt
      have lb := bsW.lt
      have hp2 := hln.len
      have hpl := hln.le
      have hple := hln.from
      have HP2 := Lib.hid hp2
      rw [HL.out] at hpl
      clear hbW hpx bmW bsW hr hlt hln hp2
      simp only
      gi_wp2_with fail
      gi_loopw [8] (fun a wr => ∃ (k : Nat) (q s : List Int), a = .int .i64 (k : Nat) ∧ Hid (mid = q ++ s) ∧ Hid (k = p.1 + (encs q).length) ∧ Hid (Below W.heap.size W wr)) (fun a _ => p.2 + 1 - (intOf a).toNat)
      case atStart => exact ⟨p.1, [], mid, rfl, Lib.hid rfl, Lib.hid (by simp), Lib.hid (Below.refl _ _)⟩
      case round =>
        obtain ⟨k, q, s, rfl, hq, hk, hbr⟩ := hrel
        have hlq : Ln cs i p (q ++ s) := hq.out ▸ LN.out
        have hbk := hlq.back HC.out
        have hqs : (encs mid).length = (encs q).length + (encs s).length := by rw [hq.out, encs_append, List.length_append]
        have hke := hk.out
        have hp2 := HP2.out
        have hUl := (uns_len ((hlq.chars HC.out).left)).1
        obtain ⟨U, hU⟩ : ∃ U, (uns q).length = U := ⟨_, rfl⟩
        rw [hU] at hbk hUl
        have g1 : Hid (plc cs k = (i, U)) := Lib.hid (by rw [hke]; exact hbk.1)
        have g2 : Hid (off cs i U = k) := Lib.hid (by rw [hke]; exact hbk.2)
        have hUm := Lib.hid (show U ≤ 9223372036854775807 by omega)
        have hkp : k ≤ p.2 := by omega
        have hkn := Lib.hid (show k ≤ (encs cs).length by rw [HL.out]; omega)
        have hend : s = [] → k = p.2 := by rintro rfl; simp at hqs; omega
        have HLQ := Lib.hid hlq
        have i1 : (k : Int) ≤ (p.2 : Int) := by omega
        have t1 : ((k : Int) != (k : Int)) = false := by simp
        have HMr := Lib.hid (HMW.out.ext hbr.out)
        have Sr := Lib.hid (SW.out.below hbr.out)
        have x0 : wr.cell? ⟨Bx, 1, none⟩ = some (.int .i64 (p.2 : Int)) := (hbr.out.cell (p := ⟨Bx, 1, none⟩) hxl).trans p1
        have xm : wr.cell? ⟨Mb, 0, none⟩ = some (.pointer (some ⟨M, 0, none⟩)) := (hbr.out.cell (p := ⟨Mb, 0, none⟩) lm).trans cm
        clear hlq hbk hU hke hp2
        gi_wp2_with fail
        refine ⟨trivial, (CallsIn.inRound l (callsIn_wide.2 (pos_ok _ _ _ _ _ _ HMr.out k hkn.out g1.out))).mono ?_⟩
        rintro e' w7 ⟨rfl, hb⟩
        replace hb := ext_trans hb (below_alloc w7 (.cells #[.int .i64 (i : Nat), .int .i64 (U : Nat)] 24))
        have bn := Blk.new w7 24 #[.int .i64 (i : Nat), .int .i64 (U : Nat)]
        have BN := Lib.hid bn
        have HM7 := Lib.hid (HMr.out.ext hb)
        have S7 := Lib.hid (Sr.out.below hb)
        have hbr7 := Lib.hid (ext_trans hbr.out hb)
        clear hb x0 xm
        have xm : (w7.alloc (.cells #[.int .i64 (i : Nat), .int .i64 (U : Nat)] 24)).cell? ⟨Mb, 0, none⟩ = some (.pointer (some ⟨M, 0, none⟩)) := (hbr7.out.cell (p := ⟨Mb, 0, none⟩) lm).trans cm
        gi_wp2_with fail
        generalize w7.alloc (.cells #[.int .i64 (i : Nat), .int .i64 (U : Nat)] 24) = W7 at *
        refine ⟨trivial, (CallsIn.inRound l (callsIn_wide.2 (offset_ok _ _ _ _ _ _ HM7.out i U hUm.out g2.out))).mono ?_⟩
        rintro e' w8 ⟨rfl, hb⟩
        have S8 := Lib.hid (S7.out.below hb)
        have hbr8 := Lib.hid (ext_trans hbr7.out hb)
        clear hb xm bn
        have x0 : w8.cell? ⟨Bx, 1, none⟩ = some (.int .i64 (p.2 : Int)) := (hbr8.out.cell (p := ⟨Bx, 1, none⟩) hxl).trans p1
        have xb : w8.cell? ⟨w.heap.size, 0, none⟩ = some (.slice A0 n0 c0) := (hbr8.out.cell (p := ⟨w.heap.size, 0, none⟩) lb).trans cb
        by_cases hs : s = []
        · have t2 : ((k : Int) == (p.2 : Int)) = true := by simp; have := hend hs; omega
          clear hend
          gi_wp2_with fail
          have hwz := BW.out.size
          exact ⟨(keeps_below hbr8.out).from _, hbr8.out.mono hwz, BW.out.trans (hbr8.out.mono hwz)⟩
        · obtain ⟨d, s', rfl⟩ := List.exists_cons_of_ne_nil hs
          have hcd : form d ≠ 0 := (HLQ.out.chars HC.out).right.head
          have hde := List.length_pos_iff.2 (enc_ne hcd)
          have hsl : (encs (d :: s')).length = (enc d).length + (encs s').length := by rw [encs_cons, List.length_append]
          have t2 : ((k : Int) == (p.2 : Int)) = false := by simp; have := HP2.out; have := hk.out; omega
          have hdec : Hid (decAt (encs cs) (k : Int) = (d, ((enc d).length : Int), 0)) := Lib.hid (by
            obtain ⟨pL, pR, e1, e2⟩ := HLQ.out.sp
            have hkk : k = (encs (pL ++ q)).length := by rw [hk.out, e2, encs_append, List.length_append]
            have hee : cs = (pL ++ q) ++ d :: (s' ++ pR) := by rw [e1]; simp
            have hlt : k < (encs cs).length := by
              have h1 : (encs cs).length = (encs (pL ++ q)).length + ((enc d).length + (encs (s' ++ pR)).length) := by rw [hee, encs_append (pL ++ q), encs_cons, List.length_append, List.length_append]
              omega
            rw [decAt_in hlt]
            have := dec_here (pre := pL ++ q) (post := s' ++ pR) (r := []) hcd
            rw [List.append_nil, ← hee, ← hkk] at this
            exact this)
          have hnext := Lib.hid (show mid = (q ++ [d]) ++ s' by rw [hq.out]; simp)
          have hnk := Lib.hid (show k + (enc d).length = p.1 + (encs (q ++ [d])).length by rw [hk.out, encs_snoc, List.length_append]; omega)
          have hkd : k + (enc d).length ≤ p.2 := by have := HP2.out; have := hk.out; omega
          clear hend hs
          gi_wp2_with fail
          refine ⟨trivial, (CallsIn.inRound l (callsIn_wide.2 (decode_at _ _ _ _ _ _ S8.out (encs_byte cs) hdec.out))).mono ?_⟩
          rintro e' w9 ⟨rfl, rfl⟩
          simp only [T3]
          generalize (enc d).length = sz at *
          gi_wp2_with fail
          go_roundw
          case rel => exact ⟨k + sz, q ++ [d], s', by go_num, hnext, hnk, hbr8⟩
          case measure => simp [intOf]; omega
    case done =>
      rintro D ys W hD _ hbW hK
      have hK' := Lib.hid hK
      have BRW := BR6.out.ext hbW
      have cR := BRW.at_ 0 rfl
      have fR := BRW.fz 0
      have lR := BRW.lt
      have HRW := Lib.hid BRW
      have hww : w.heap.size ≤ W.heap.size := Nat.le_trans B6.out.size hbW.size
      have hR6 : w.heap.size + 1 < w6.heap.size := BR6.out.lt
      have BW := Lib.hid (ext_trans B6.out hbW)
      clear hK hbW BRW
      go_wp2_with fail
      have hK2 := (KeepsOthers.setCell W ⟨w.heap.size + 1, 0, none⟩ (.bool true)).same D _ hK'.out rfl
      have R2 : Boxed (W.setCell ⟨w.heap.size + 1, 0, none⟩ (.bool true)) (w.heap.size + 1) 4 (.bool true) := by
        have hq : Boxed W (w.heap.size + 1) 4 (.bool false) := HRW.out
        exact hq.set (.bool true)
      have R3 := (R2.kept (grownBy_putObj' _ D (.deferred none)) (fun e => by injection e with e; omega)).cell
      refine ⟨by simp, .inl ⟨_, _, rfl, run_takeDeferred hK2, ?_⟩⟩
      refine ⟨.bool true, ?_, rfl, ?_⟩
      · simp only [results]
        go_simp
      · exact (BW.out.setCell (p := ⟨w.heap.size + 1, 0, none⟩) (show w.heap.size ≤ w.heap.size + 1 by omega) _).trans (belowK_b (w := w) (Nat.le_refl _) _ D _ _ (by omega) hK2 rfl rfl)
    case stop => rintro D cc pre W hD _ hx; exact hx.elim
  · have K := Lib.hid hch
    have d : (e != 0) = true := by simpa using he
    clear hch
    go_wp2_with fail
    refine (made_bad _ _ _ _ _ S1.out hB K.out he).mono ?_
    rintro e' w' ⟨rfl, rfl⟩
    have hb := below_alloc w1 (.cells #[.pointer none] 26)
    have S2 := Lib.hid (S1.out.below hb)
    have BS2 := Lib.hid (BS1.out.ext hb)
    have BR2 := Lib.hid (BR1.out.ext hb)
    have B2 := Lib.hid (ext_trans B1.out hb)
    have bm := Blk.new w1 26 #[.pointer none]
    have cm := bm.at_ 0 rfl
    have lm := bm.lt
    clear hb cs1 ls1 bm
    have cs1 := BS2.out.at_ 0 rfl
    have ls1 := BS2.out.lt
    have cR := BR2.out.at_ 0 rfl
    have fR := BR2.out.fz 0
    have lR := BR2.out.lt
    go_wp2_with fail
    refine (new_bad _ _ _ _ _ S2.out hB K.out he).mono ?_
    rintro e' w' ⟨rfl, rfl⟩
    generalize w1.alloc (.cells #[.pointer none] 26) = W2 at *
    go_wp2_with fail
    have R2 : Boxed (W2.setCell ⟨w.heap.size + 1, 0, none⟩ (.bool true)) (w.heap.size + 1) 4 (.bool true) := by
        have hq : Boxed W2 (w.heap.size + 1) 4 (.bool false) := BR2.out
        exact hq.set (.bool true)
    have R3 := R2.cell
    refine ⟨.bool true, ?_, rfl, ?_⟩
    · simp only [results]
      go_simp
    · exact B2.out.setCell (p := ⟨w.heap.size + 1, 0, none⟩) (show w.heap.size ≤ w.heap.size + 1 by omega) _
end Go.Proofs.Ytfpgnnjkojpmdaa
