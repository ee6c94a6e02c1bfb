/-
  The walk of FramePieces.
-/
import Derived.Test.YtigiiofiajhnlaaDoorFx
import Derived.Test.YtigiiofiajhnlaaDoorWp
namespace Go.Proofs.YtigiiofiajhnlaaDoor
set_option linter.unusedVariables false
set_option linter.unusedSimpArgs false
open Go.RowKit Go.ChangeShapes Go.WideShapes Go.Shelf
open Wd We Dm Dc Dd Hm Hb He Fm Fa
attribute [local go_sem] Oper.semAt_some

set_option maxRecDepth 100000 in
set_option maxHeartbeats 8000000 in
theorem walk_FramePieces (A0 : Option Addr) (n0 c0 : Nat) (l0 : List Int) (A1 : Option Addr) (n1 c1 : Nat) (l1 : List Int) (w : World) (s0 : Sl .u8 w A0 n0 c0 l0) (b0 : ∀ x ∈ l0, (Lit.int .u8 x).wf = true) (z0 : c0 * 1 ≤ 140737488351232) (s1 : Sl .i64 w A1 n1 c1 l1) (b1 : ∀ x ∈ l1, (Lit.int .i64 x).wf = true) (z1 : c1 * 8 ≤ 140737488351232) (env : Hb.Env w) :
    Calls Tryd.prog 6 #[.slice A0 n0 c0, .slice A1 n1 c1] w fun e w' => e = .returned (.bool true) ∧ Below w.heap.size w w' := by
  obtain ⟨i0, hi, hz0, hz1, hz2⟩ := info_parts bytes_info
  have hl0 := s0.len
  have hn0 : n0 ≤ 140737488351232 := by have := s0.le; omega
  have hib := isB_of b0
  have S0 := Lib.hid s0
  have S1 := Lib.hid s1
  have Z1 := Lib.hid b1
  have IB := Lib.hid hib
  have E := Lib.hid env
  clear s0 b0 s1 b1 env hib
  have hw1 : VL w (w.alloc (.cells #[.slice A0 n0 c0] 27)) w.heap.size (.slice (some ⟨w.heap.size, 0, none⟩) 1 1) [l0] :=
    ⟨[.slice A0 n0 c0], ⟨rfl, .inr ⟨w.heap.size, 1, _, rfl, Nat.le_refl _, heap_alloc_new w _, Nat.le_refl _, by unfold maxLen; omega, rfl, rfl⟩⟩, fun i l hi => by
      rcases i with _ | i
      · simp at hi; subst hi; exact ⟨_, _, _, rfl, S0.out⟩
      · simp at hi⟩
  have hba := Dd.below_alloc w (.cells #[.slice A0 n0 c0] 27)
  obtain ⟨Aa, ca, hv, la⟩ := hw1.ll hba
  injection hv with hv1 hv2 hv3
  subst hv1
  subst hv3
  have RC := Lib.hid (reads_any _ _ _ [l0] _ la (fun p hp => by rw [List.mem_singleton.1 hp]; exact IB.out) (by simp; omega) (E.out.below hba))
  have HBA := Lib.hid hba
  have hr1 := rds_all [l0] [] (by decide +kernel) (by decide +kernel)
  rw [show ([] : List Int) ++ [l0].flatten = l0 by simp] at hr1
  obtain ⟨er, her⟩ : ∃ er, brk (frs l0).2 = er := ⟨_, rfl⟩
  obtain ⟨st, hst⟩ : ∃ st : St, (if er = 0 then some (frs l0).2 else none) = st := ⟨_, rfl⟩
  rw [her, hst] at hr1
  have HR1 := Lib.hid hr1
  have HER := Lib.hid her
  have HST := Lib.hid hst
  have HN := Lib.hid hn0
  clear hw1 hba la hr1 hn0 hv2 her hst
  refine (callsIn_wide (n := 6)).1 (callsIn_of_wp_marks Tryd.func6 rfl trivial ?_ rfl)
  simp only [Tryd.ntmps6, List.size_toArray, List.length_cons, List.length_nil, Nat.reduceAdd, Nat.reduceSub, Array.replicate_succ, Array.replicate_zero, List.push_toArray, List.append_toArray, List.nil_append, List.cons_append]
  refine wpIn_wide.2 ?_
  go_wp2_with fail
  refine RC.out.mono ?_
  rintro e w1 ⟨v1, rfl, o1, b1⟩
  rw [HR1.out] at o1 ⊢
  dsimp only at o1
  have O1 := Lib.hid (OL.low o1 (show w.heap.size ≤ (w.alloc (.cells #[.slice A0 n0 c0] 27)).heap.size by simp))
  have H1 := Lib.hid (ext_trans HBA.out b1)
  have PC := Lib.hid (pieces_any A0 A1 n0 c0 n1 c1 l0 l1 w1 (S0.out.below H1.out) IB.out (S1.out.below H1.out) Z1.out (by have := HN.out; omega))
  clear o1 b1 RC HBA
  go_wp2_with fail
  refine PC.out.mono ?_
  rintro e w2 ⟨ps, v2, rfl, v2v, hfl, hps, hb2⟩
  obtain ⟨A2, c2, rfl, l2⟩ := v2v.ll hb2
  have O2 := Lib.hid (OL.below O1.out hb2)
  have H2 := Lib.hid (ext_trans H1.out hb2)
  have hr2 := rds_all ps [] (by decide +kernel) (by decide +kernel)
  rw [List.nil_append, hfl] at hr2
  rw [HER.out, HST.out] at hr2
  have HR2 := Lib.hid hr2
  have RC := Lib.hid (reads_any A2 _ c2 ps w2 l2 hps (by rw [hfl]; have := HN.out; omega) (E.out.below H2.out))
  clear v2v hfl hps hb2 l2 PC hr2
  go_wp2_with fail
  refine RC.out.mono ?_
  rintro e w3 ⟨v3, rfl, o3, b3⟩
  rw [HR2.out] at o3 ⊢
  dsimp only at o3
  have O3 := Lib.hid (OL.low o3 (show w.heap.size ≤ w2.heap.size from H2.out.size))
  have O4 := Lib.hid (OL.below O2.out b3)
  have H3 := Lib.hid (ext_trans H2.out b3)
  clear o3 b3 RC O2 O1
  go_wp2_with fail
  refine (callsIn_wide (n := 5)).1 (all_in _ _ _ _ _) |>.mono ?_
  rintro e w' ⟨rfl, rfl⟩
  go_wp2_with fail
  rw [seq_not_nil]
  go_wp2_with fail
  refine (callsIn_wide (n := 5)).1 (all_in _ _ _ _ _) |>.mono ?_
  rintro e w' ⟨rfl, rfl⟩
  go_wp2_with fail
  obtain ⟨W0, hW0⟩ : ∃ W0, (((w3.alloc (.cells #[.slice none 0 0] 22)).alloc (.cells #[.slice A0 n0 c0] 27)).alloc (.cells #[.slice A0 n0 c0] 27)) = W0 := ⟨_, rfl⟩
  rw [hW0]
  have x0 : Boxed W0 w3.heap.size 22 (.slice none 0 0) := by rw [← hW0]; exact ((Boxed.new w3 _ _).alloc _).alloc _
  have x2 : Boxed W0 (w3.heap.size + 1 + 1) 27 (.slice A0 n0 c0) := by
    rw [← hW0]
    have := Boxed.new ((w3.alloc (.cells #[.slice none 0 0] 22)).alloc (.cells #[.slice A0 n0 c0] 27)) 27 (.slice A0 n0 c0)
    rw [World.size_alloc, World.size_alloc] at this
    exact this
  have hsz : w3.heap.size + 1 + 1 < W0.heap.size := by rw [← hW0]; simp
  have hb0 : Below w3.heap.size w3 W0 := by rw [← hW0]; exact (((Below.refl _ w3).alloc (Nat.le_refl _) _).alloc (by simp) _).alloc (by simp; omega) _
  clear hW0
  have hs3 := H3.out.size
  have hbW := Lib.hid (ext_trans H3.out hb0)
  have O5 := Lib.hid (OL.below O3.out hb0)
  have O6 := Lib.hid (OL.below O4.out hb0)
  have N5 := Lib.hid ((OL.nobox O3.out (k := w3.heap.size) (.inr (Nat.le_refl _))).2)
  have N6 := Lib.hid ((OL.nobox O4.out (k := w3.heap.size) (.inr (Nat.le_refl _))).2)
  have X5 := Lib.hid (OL.below ((OL.nobox (OL.bound O3.out) (k := w3.heap.size) (.inr (Nat.le_refl _))).1) hb0)
  have X6 := Lib.hid (OL.below ((OL.nobox (OL.bound O4.out) (k := w3.heap.size) (.inr (Nat.le_refl _))).1) hb0)
  obtain ⟨Av1, cv1, rfl, _, _⟩ := OL.ll O4.out
  obtain ⟨Av3, cv3, rfl, _, _⟩ := OL.ll O3.out
  clear O3 O4 O5 O6
  refine (wpIn_wide (n := 6)).1 ?_
  refine rangeP (n := 6) (X := XC) (n₀ := w.heap.size) (K := 1) rfl (by decide) (gf := 33) (lb := #[.pointer (some ⟨w3.heap.size + 1 + 1, 0, none⟩)]) rfl trivial (enters_of Tryd.func33 (by kernel_rfl) rfl)
    (all1_stops (w3.heap.size + 1 + 1) w A0 n0 c0 l0 S0.out IB.out E.out W0 hbW.out (by omega) x2.cell) (by omega) xc_put (Below.refl _ _) (fun _ => rfl)
    (fun pre V => (∃ vb, Boxed V w3.heap.size 22 vb ∧ OL 27 5 V (W0.heap.size + 2 + 1) (fun _ => True) vb (pre.map Cb.l)) ∧ Stay (fun k => k = w3.heap.size ∨ W0.heap.size ≤ k) W0 V)
    (fun _ _ _ => False) ?hI (fun _ _ _ _ _ hs _ _ => hs) ⟨⟨_, x0, OL.nil _ _ _ _ _⟩, Stay.refl _ _⟩
    (fun x => { tmps := #[Value.slice A0 n0 c0, Value.slice A1 n1 c1, undef, undef, Value.bool false, Value.slice Av1 (frs l0).fst.length cv1, Value.int IntKind.i64 er, Value.int IntKind.i64 ((lft st).length : Nat), Value.slice Av3 (frs l0).fst.length cv3, Value.int IntKind.i64 er, Value.int IntKind.i64 ((lft st).length : Nat), Value.pointer (some { block := w3.heap.size, off := 0 }), Value.slice x.A x.n x.c, Value.tuple #[Value.slice Av1 (frs l0).fst.length cv1, Value.int IntKind.i64 er, Value.int IntKind.i64 ((lft st).length : Nat)], Value.slice A0 n0 c0, Value.slice (some { block := w.heap.size, off := 0 }) 1 1, Value.tuple #[Value.slice Av1 (frs l0).fst.length cv1, Value.int IntKind.i64 er, Value.int IntKind.i64 ((lft st).length : Nat)], Value.slice Av1 (frs l0).fst.length cv1, Value.int IntKind.i64 er, Value.int IntKind.i64 ((lft st).length : Nat), Value.tuple #[Value.slice Av3 (frs l0).fst.length cv3, Value.int IntKind.i64 er, Value.int IntKind.i64 ((lft st).length : Nat)], Value.slice A0 n0 c0, Value.slice A1 n1 c1, Value.slice A2 ps.length c2, Value.tuple #[Value.slice Av3 (frs l0).fst.length cv3, Value.int IntKind.i64 er, Value.int IntKind.i64 ((lft st).length : Nat)], Value.slice Av3 (frs l0).fst.length cv3, Value.int IntKind.i64 er, Value.int IntKind.i64 ((lft st).length : Nat), Value.slice A0 n0 c0, Value.func (Fn.func 33) #[] #[Value.pointer (some { block := w3.heap.size + 1, off := 0 })], Value.bool false, Value.slice A0 n0 c0, Value.func (Fn.func 33) #[] #[Value.pointer (some { block := w3.heap.size + 1 + 1, off := 0 })], Value.slice x.A x.n x.c, undef, undef, undef, undef, undef, undef, undef, undef, undef, undef, undef, undef, undef, undef, undef, undef, undef, undef, undef, undef, undef, undef, undef, undef, undef], defers := [] }) ?assign ?body ?done ?stop
  case hI =>
    rintro pre V V' row ⟨⟨vb, h1, h2⟩, h3⟩ hg hr
    have hr' : ∀ r, row = some r → ∃ o : Obj, V.heap[r]? = some o ∧ o.isCells = false := fun r e => (hr r e).2
    exact ⟨⟨vb, Boxed.oth h1 hg hr', OL.other h2 hg hr'⟩, h3.trans (Stay.grown hg (fun k e => .inr (hr k e).1))⟩
  case assign =>
    intro q x V K hK
    simp only [encC]
    gi_wp2_with fail
    exact hK
  case body =>
    rintro q pre x V0 V hq ⟨r, hr⟩ ⟨⟨vb, hv, hO⟩, hS⟩ hKs hbV ⟨hx1, hx2, hx3, hx4⟩ hlt
    have V1 := boxed_below hv hbV
    have hst1 := hS.trans (Stay.of_below (fun k => k = w3.heap.size ∨ W0.heap.size ≤ k) hbV)
    have hszV := hbV.size
    have hfl := frs_len l0
    have hcnt : pre.length + 1 ≤ 7818749353340 := by have := HN.out; omega
    have hlm : (pre.map Cb.l).length = pre.length := by simp
    have cv := V1.cell
    have xo := hx1.mono (B' := W0.heap.size + 2 + 1) (by omega)
    have hal := Dd.below_alloc V (.cells #[.slice x.A x.n x.c] 27)
    have Oa := OL.below (OL.below hO hbV) hal
    have xa := xo.below hal (fun g hg => (xo.lt hg).2)
    obtain ⟨vs, hrow, hel⟩ := id Oa
    have HROW0 := Lib.hid hrow
    rw [hlm] at hrow
    have HROW := Lib.hid hrow
    have HEL := Lib.hid hel
    have XA := Lib.hid xa
    have VA := Lib.hid (V1.alloc (.cells #[.slice x.A x.n x.c] 27))
    have HST := Lib.hid (hst1.trans (Stay.alloc _ V (.cells #[.slice x.A x.n x.c] 27)))
    have HLM := Lib.hid hlm
    have HC := Lib.hid hcnt
    have hvb : ∀ k, vb.ownBlock = some k → W0.heap.size + 2 + 1 ≤ k := fun k hk => (World.ownsRow.lt hrow k hk).1
    have HVB := Lib.hid hvb
    have hszA : W0.heap.size + 2 + 1 ≤ (V.alloc (.cells #[.slice x.A x.n x.c] 27)).heap.size := by simp; omega
    clear V1 hst1 hfl hcnt hlm xo hal Oa xa hrow hel hvb hv hO hS hr hx1 hx2 hx3 hx4 hbV
    gi_wp2_with (gi_at_builtin; refine wpIn_own _ rfl _ _ _ rfl (W0.heap.size + 2 + 1) 27 i0 _ 24 Tryd.underlying22 hi hz0 hz1 hz2 rfl vb pre.length vs rfl HROW.out ⟨V.heap.size, 0, none⟩ 1 1 [.slice x.A x.n x.c] rfl rfl (cell_one_new _ _ _) (by simp [Value.oneCell']) (by have := HC.out; unfold maxLen; omega) (by have := HC.out; omega) hszA ?_; intro v' V2 hown' hgrow; have O3 := Lib.hid (ol_apps (by decide) HROW0.out HEL.out (one_at XA.out (fun _ _ => trivial)) (by rw [List.length_append, HLM.out]; exact hown') hgrow); obtain ⟨g', cap', rfl⟩ := ownsRow_succ hown'; have V3 := Boxed.kept VA.out hgrow (fun e => by have := HVB.out _ e.symm; omega); have HV3 := Lib.hid V3; have K3 := Lib.hid (((KeepsOthers.alloc V (.cells #[.slice x.A x.n x.c] 27)).trans (keeps_grown HROW.out hgrow)).from W0.heap.size); have S3 := Lib.hid (HST.out.trans (Stay.grown hgrow (fun k e => .inr (by have := HVB.out k e; omega)))); have T3 := Lib.hid ((Stay.alloc (fun k => k = w3.heap.size ∨ vb.ownBlock = some k) V (.cells #[.slice x.A x.n x.c] 27)).trans (Stay.grown hgrow (fun k e => .inr e))); have cl := V3.cell; have fz := V3.frozen; clear V3 hown' hgrow)
    have O4 := OL.stay O3.out (S := fun k => k = w3.heap.size) (Stay.set V2 (p := ⟨w3.heap.size, 0, none⟩) (.slice (some ⟨g', 0, none⟩) (pre.length + 1) cap') rfl) (fun g hg c => by have := (OL.lt O3.out g hg).1; omega) (fun k hk _ _ c => by omega)
    refine ⟨K3.out.trans (keeps_set _ _ _), KpO.of_stay (T3.out.trans (Stay.set V2 (p := ⟨w3.heap.size, 0, none⟩) (.slice (some ⟨g', 0, none⟩) (pre.length + 1) cap') (.inl rfl))) (by omega) (by omega) (fun k hk => by rcases hk with e | e; omega; have := HVB.out k e; omega) (fun k hk => by rcases hk with e | e; omega; have := HVB.out k e; omega), ⟨_, HV3.out.set _, ?_⟩, S3.out.trans (Stay.set V2 (p := ⟨w3.heap.size, 0, none⟩) (.slice (some ⟨g', 0, none⟩) (pre.length + 1) cap') (.inl rfl))⟩
    rw [List.map_append, List.map_singleton]
    exact O4
  case done =>
    rintro D ys V hD hS1 ⟨⟨vb, hv, hO⟩, hS⟩ hK
    rw [hS1] at hO
    obtain ⟨Ab, cb, rfl, lb, _⟩ := OL.ll hO
    have o5 := OL.stay X5.out hS (fun g hg c => by rcases c with c | c; exact N5.out (by rw [hg, c]); have := (OL.lt X5.out g hg).2; omega) (fun k _ _ hx c => by rcases c with c | c; exact hx.2 c; have := hx.1.2.2; omega)
    have o6 := OL.stay X6.out hS (fun g hg c => by rcases c with c | c; exact N6.out (by rw [hg, c]); have := (OL.lt X6.out g hg).2; omega) (fun k _ _ hx c => by rcases c with c | c; exact hx.2 c; have := hx.1.2.2; omega)
    obtain ⟨A5, c5, e5, l5, _⟩ := OL.ll o5
    obtain ⟨A6, c6, e6, l6, _⟩ := OL.ll o6
    injection e6 with p1 p2 p3
    injection e5 with p4 p5 p6
    subst p1; subst p3; subst p4; subst p6
    have SM1 := Lib.hid (same_any _ _ _ _ _ _ _ _ V l6 l5)
    have SM2 := Lib.hid (fun q => same_any _ _ _ _ _ _ _ _ (V.drewN q) (l6.drewN q) (lb.drewN q))
    simp only [decide_true] at SM1 SM2
    have HBV := Lib.hid (hbW.out.trans (hS.below (by omega) (fun k e => by rcases e with e | e <;> omega)))
    have HK := Lib.hid hK
    have cv := hv.cell
    have qe : (er == er) = true := by simp
    have ql : (((lft st).length : Int) == ((lft st).length : Int)) = true := by simp
    clear hv hO hS hK lb l5 l6 o5 o6 p2 p5 hS1
    go_wp2_with fail
    refine SM1.out.mono ?_
    rintro e w7 ⟨rfl, q, rfl⟩
    have cv2 : (V.drewN q).cell? ⟨w3.heap.size, 0, none⟩ = some (.slice Ab (frs l0).1.length cb) := cv
    go_wp2_with fail
    refine (SM2.out q).mono ?_
    rintro e w8 ⟨rfl, q2, rfl⟩
    have HB8 := Lib.hid (Wd.below_drewN HBV.out (q + q2))
    have HK8 := Lib.hid (show (V.drewN (q + q2)).heap[D]? = some (.deferred (some [])) from HK.out)
    have hE8 := E.out.below HB8.out
    have AW := Lib.hid (awake7 _ hE8)
    clear hE8
    go_wp2_with fail
    refine AW.out.mono ?_
    rintro e w9 ⟨rfl, hb9⟩
    have HK9 := Lib.hid ((hb9.block _ (Array.getElem?_eq_some_iff.1 HK8.out).1).trans HK8.out)
    have HB9 := Lib.hid (ext_trans HB8.out hb9)
    go_wp2_with fail
    refine ⟨by simp, .inl ⟨_, _, rfl, run_takeDeferred HK9.out, ?_⟩⟩
    refine ⟨_, results_tmp rfl _ _ _, rfl, HB9.out.trans (below_put _ _ (by omega))⟩
  case stop =>
    rintro D cc pre V hD _ h
    exact h.elim
end Go.Proofs.YtigiiofiajhnlaaDoor
