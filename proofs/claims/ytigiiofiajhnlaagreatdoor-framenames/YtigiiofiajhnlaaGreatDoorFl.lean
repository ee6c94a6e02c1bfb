/-
  The iterator that All (package frame) hands back.
-/
import Derived.Test.YtigiiofiajhnlaaGreatDoorFc
import Derived.Test.YtigiiofiajhnlaaGreatDoorFv
namespace Go.Proofs.YtigiiofiajhnlaaGreatDoor
set_option linter.unusedVariables false
set_option linter.unusedSimpArgs false
open Go.RowKit Go.Shelf
namespace Fa
open Wd We Dm Dc Dd Hm Hb He Fm
attribute [local go_sem] Oper.semAt_some

/-- a body that is handed on, as a slice -/
structure Cb where
  A : Option Addr
  n : Nat
  c : Nat
  l : List Int
def encC (x : Cb) : Array Value := #[.slice x.A x.n x.c]
/-- it is the receiver's own, from block m on -/
def XC (m : Nat) (x : Cb) (W : World) : Prop := Wd.Own .u8 5 W m (.slice x.A x.n x.c) x.l ∧ IsB x.l ∧ x.l.length = x.n ∧ x.n ≤ 65536
theorem xc_put (m : Nat) (x : Cb) (W : World) (l : Nat) (o o' : Obj) (h : XC m x W) (hl : W.heap[l]? = some o) (ho : o.isCells = false) : XC m x (W.putObj l o') :=
  ⟨row_other h.1 (grownBy_putObj' W l o') (fun r e => by cases e; exact ⟨o, hl, ho⟩), h.2⟩
theorem round_depth {m m' : Nat} {P : Program} {l : Nat} {f : FuncId} {tmps : Array Value} {assign body : Code} {w : World} {R : Ending → World → Prop}
    (h : RoundIn Fence.wide m P l f tmps assign body w R) : RoundIn Fence.wide m' P l f tmps assign body w R := ⟨h.1, fun c cs _ => h.2 c cs (fun d h => by cases h)⟩
theorem own_later {β : Type} {B B' : Nat} {J : β → World → Prop} (h : OwnFrom B J) (hB : B ≤ B') : OwnFrom B' J := fun s W W' row hs hg hr => h s W W' row hs hg (fun r e => ⟨Nat.le_trans hB (hr r e).1, (hr r e).2⟩)
theorem own_below {β : Type} {B : Nat} {J : β → World → Prop} (h : OwnFrom B J) {s : β} {W W' : World} (hs : J s W) (hb : Below W.heap.size W W') : J s W' := h s W W' none hs (grown_below hb) (fun r e => by cases e)

theorem yes_no {e : Ending} {P Q : Prop} (h : (e = .returned (.bool true) ∧ P) ∨ (e = .returned (.bool false) ∧ Q)) : ∃ b : Bool, e = .returned (.bool b) ∧ ((b = true ∧ P) ∨ (b = false ∧ Q)) := by
  rcases h with ⟨h1, h2⟩ | ⟨h1, h2⟩
  · exact ⟨true, h1, .inl ⟨rfl, h2⟩⟩
  · exact ⟨false, h1, .inr ⟨rfl, h2⟩⟩
theorem below_drew' {B : Nat} {a w : World} (h : Below B a w) : Below B a w.drew := ⟨h.os, h.tape, h.output, h.size, h.block⟩
set_option maxHeartbeats 1000000 in
theorem all_in (N : Nat) (A : Option Addr) (m c : Nat) (w : World) :
    CallsIn Fence.wide N Tryz.prog 25 #[.slice A m c] w fun e w' => e = .returned (.func (.func 33) #[] #[.pointer (some ⟨w.heap.size, 0, none⟩)]) ∧ w' = w.alloc (.cells #[.slice A m c] 27) := by
  refine callsIn_of_wp Tryz.func25 rfl trivial ?_ rfl
  simp only [Tryz.ntmps25, List.size_toArray, List.length_cons, List.length_nil, Nat.reduceAdd, Nat.reduceSub, Array.replicate_succ, Array.replicate_zero, List.push_toArray, List.append_toArray, List.nil_append, List.cons_append]
  gi_wp2
  go_ret
  exact ⟨rfl, rfl⟩

set_option maxRecDepth 100000 in
set_option maxHeartbeats 4000000 in
theorem all1_stops (Bn : Nat) (w0 : World) (A : Option Addr) (m c : Nat) (L : List Int) (s : Sl .u8 w0 A m c L) (hL : IsB L) (env : Env w0) (w : World) (hw : Below w0.heap.size w0 w) (hB : Bn < w.heap.size) (hBn : w.cell? ⟨Bn, 0, none⟩ = some (.slice A m c)) :
    SeqP (α := Cb) Fence.wide 5 Tryz.prog 33 #[.pointer (some ⟨Bn, 0, none⟩)] encC XC w0.heap.size 1 (fun xs => xs.map Cb.l = (frs L).1) (fun pre => pre.map Cb.l <+: (frs L).1) (frs L).1.length w := by
  intro l J Jx W hW hJ hJx hY h0
  have hcB : W.cell? ⟨Bn, 0, none⟩ = some (.slice A m c) := (hW.cell (p := ⟨Bn, 0, none⟩) hB).trans hBn
  have hBl : Bn < W.heap.size := Nat.lt_of_lt_of_le hB hW.size
  have hwW := hw.trans (hW.mono hw.size)
  have HJ := Lib.hid hJ
  have HJx := Lib.hid hJx
  have HY := Lib.hid hY
  have S := Lib.hid s
  have HL := Lib.hid hL
  have E := Lib.hid env
  have HW := Lib.hid hwW
  have hsz0 := hwW.size
  clear hJ hJx hY s hL env hW hwW hBn hw
  refine callsIn_of_wp_marks Tryz.func33 rfl trivial ?_ rfl
  simp only [Tryz.ntmps33, List.size_toArray, List.length_cons, List.length_nil, Nat.reduceAdd, Nat.reduceSub, Array.replicate_succ, Array.replicate_zero, List.push_toArray, List.append_toArray, List.nil_append, List.cons_append]
  gi_wp2_with fail
  refine ⟨trivial, ?_⟩
  refine (frames_in _ _ _ _ _).mono ?_
  rintro r w' ⟨rfl, rfl⟩
  gi_wp2_with fail
  obtain ⟨W0, hW0⟩ : ∃ W0, ((W.alloc (.cells #[.func (.yield l) #[] #[]] 37)).alloc (.cells #[.slice A m c] 27)) = W0 := ⟨_, rfl⟩
  rw [hW0]
  have y0 : Boxed W0 W.heap.size 37 (.func (.yield l) #[] #[]) := by rw [← hW0]; exact (Boxed.new W _ _).alloc _
  have b2 : Boxed W0 (W.heap.size + 1) 27 (.slice A m c) := by
    rw [← hW0]
    have := Boxed.new (W.alloc (.cells #[.func (.yield l) #[] #[]] 37)) 27 (.slice A m c)
    rw [World.size_alloc] at this
    exact this
  have hsz : W0.heap.size = W.heap.size + 1 + 1 := by rw [← hW0]; simp
  have hb0 : Below W.heap.size W W0 := by rw [← hW0]; exact ((Below.refl _ W).alloc (Nat.le_refl _) _).alloc (by simp) _
  clear hW0
  have hb00 := HW.out.trans (hb0.mono hsz0)
  have hJ0 := own_below HJ.out h0 hb0
  refine wpIn_rangeFunc_ownG rfl (by decide) (gf := 35) (lb := #[.pointer (some ⟨W.heap.size + 1, 0, none⟩)]) rfl trivial (enters_of Tryz.func35 (by kernel_rfl) rfl)
    (frames_stops 4 (by decide) (W.heap.size + 1) m w0 A m c L S.out HL.out (Nat.le_refl _) E.out W0 hb00 (by omega) b2.cell)
    belowK_t (belowK_b (by omega)) (Below.refl _ _) (fun _ => rfl)
    (fun pre V => (∃ pre' : List Cb, pre'.map Cb.l = pre.map Fr.b ∧ J pre' V) ∧ Boxed V W.heap.size 37 (.func (.yield l) #[] #[]) ∧ Below w0.heap.size w0 V)
    (fun cc pre V => cc = .ret ∧ ∃ pre' : List Cb, pre'.map Cb.l = pre.map Fr.b ∧ Jx pre' V) ?hI ?hIx ⟨⟨[], rfl, hJ0⟩, y0, hb00⟩
    (fun x => { tmps := #[.func (.yield l) #[] #[], .pointer (some ⟨Bn, 0, none⟩), .pointer (some ⟨W.heap.size, 0, none⟩), .slice x.A1 x.n1 x.c1, .slice A m c, .func (.func 35) #[] #[.pointer (some ⟨W.heap.size + 1, 0, none⟩)], .slice x.A1 x.n1 x.c1, .slice x.A2 x.n2 x.c2, undef, undef, undef, undef, undef], defers := [] }) ?assign ?body ?done ?stop
  case hI =>
    rintro pre V V' row ⟨⟨pre', h1, h2⟩, h3, h4⟩ hg hr
    exact ⟨⟨pre', h1, own_later HJ.out (by omega) _ _ _ row h2 hg hr⟩, Boxed.oth h3 hg (fun r e => (hr r e).2), h4.grown hg h4.size (fun k e => by have := (hr k e).1; omega)⟩
  case hIx =>
    rintro cc pre V V' row ⟨h0, pre', h1, h2⟩ hg hr
    exact ⟨h0, pre', h1, own_later HJx.out (by omega) _ _ _ row h2 hg hr⟩
  case assign =>
    intro l x W K hK
    simp only [encF]
    gi_wp2_with fail
    exact hK
  case body =>
    rintro q pre x V ⟨⟨pre', hp, hj⟩, hy0, hbV⟩ hlt
    have cY := hy0.cell
    have hYlt := hy0.lt
    have hmix : Tryz.prog.follows .mixedOrders = true := by kernel_rfl
    have HJV := Lib.hid hj
    have HP := Lib.hid hp
    have HYB := Lib.hid hy0
    have HBV := Lib.hid hbV
    have hpl : pre'.length < (frs L).1.length := by have := congrArg List.length hp; simp at this; omega
    clear hy0 hbV hj hp
    gi_wp2_with fail
    have hjd : J pre' V.drew := own_below HJ.out HJV.out (below_drew' (Below.refl _ V))
    have HJD := Lib.hid hjd
    clear hjd
    gi_region_with_o (first
      | (refine ⟨trivial, ?_⟩; gi_at_call 29; refine (CallsIn.inRound q (callsIn_wide.2 (clone_any _ _ _ _ V.drew (x.s1.below (below_drew' HBV.out)) (by have := x.l1; omega)))).mono ?_; rintro e V2 ⟨u, rfl, ho2, hb2⟩; obtain ⟨Au, cu, hu, _, _⟩ := ho2.sl; subst hu; have cY2 := (hb2.cell (p := ⟨W.heap.size, 0, none⟩) hYlt).trans (show V.drew.cell? ⟨W.heap.size, 0, none⟩ = _ from cY); obtain ⟨fn, tmps, asg, bod, hy, hR⟩ := HY.out pre' ⟨Au, x.b.length, cu, x.b⟩ V.drew V2 HJD.out (by show W.heap.size + 1 ≤ V.heap.size; omega) hb2 ⟨ho2, x.i1, rfl, by have := x.s1.len; have := x.l1; show x.b.length ≤ 65536; omega⟩ hpl; simp only [encC] at hy; have hVV : Below w0.heap.size V V2 := (below_drew' (Below.refl _ V)).trans (hb2.mono (show w0.heap.size ≤ V.heap.size by have := HBV.out.size; omega)); have HVV := Lib.hid hVV; clear hVV; have hkV2 : KeepsFrom W0.heap.size V V2 := ((KeepsOthers.drew V).from _).trans (keeps_below hb2); have HKV2 := Lib.hid hkV2; have hY2 : Boxed V2 W.heap.size 37 (.func (.yield l) #[] #[]) := boxed_below (show Boxed V.drew _ _ _ from HYB.out) hb2; have HY2 := Lib.hid hY2; clear hkV2 hY2 ho2)
      | (refine (round_depth hR).mono ?_; rintro e V3 hres; obtain ⟨yn, rfl, hyn⟩ := yes_no hres; have HYN := Lib.hid hyn; clear hres hyn))
    all_goals
      rcases HYN.out with ⟨rfl, hJ3, hkp, hkf⟩ | ⟨rfl, hJx3, hkf⟩
      · have HJ3 := Lib.hid hJ3
        have HKP := Lib.hid hkp
        have HKF := Lib.hid hkf
        clear hJ3 hkp hkf HYN
        gi_wp2_with fail
        refine ⟨HKV2.out.trans (keeps_mono HKF.out (by omega)), HVV.out.trans HKP.out.1, ⟨_, ?_, HJ3.out⟩, (HKP.out.2 _ (Nat.le_refl _) (by omega)).trans HY2.out, HBV.out.trans (HVV.out.trans HKP.out.1)⟩
        rw [List.map_append, List.map_append, HP.out]; rfl
      · have HJ3 := Lib.hid hJx3
        have HKF := Lib.hid hkf
        clear hJx3 hkf HYN
        gi_wp2_with fail
        refine ⟨HKV2.out.trans (keeps_mono HKF.out (by omega)), rfl, _, ?_, HJ3.out⟩
        rw [List.map_append, List.map_append, HP.out]; rfl
  case done =>
    rintro D ys V hD ⟨hS1, hS2⟩ ⟨⟨pre', hp, hj⟩, hy0, hbV⟩ hK
    have HK := Lib.hid hK
    have HJV := Lib.hid (own_later HJ.out (show W.heap.size ≤ W0.heap.size by omega) _ _ _ (some D) hj (grownBy_putObj' V D (.deferred none)) (fun r e => by cases e; exact ⟨hD, _, hK, rfl⟩))
    have HP := Lib.hid (hp.trans hS1)
    clear hK hj hp hy0 hbV hS1 hS2
    gi_wp2_with fail
    refine ⟨by simp, .inl ⟨_, _, rfl, run_takeDeferred HK.out, ?_⟩⟩
    exact ⟨_, results_none rfl _ _ _, ⟨_, rfl⟩, .inl ⟨_, HP.out, HJV.out⟩⟩
  case stop =>
    rintro D cc pre V hD hpre ⟨rfl, pre', hp, hj⟩ hK
    have HK := Lib.hid hK
    have HJV := Lib.hid (own_later HJx.out (show W.heap.size ≤ W0.heap.size by omega) _ _ _ (some D) hj (grownBy_putObj' V D (.deferred none)) (fun r e => by cases e; exact ⟨hD, _, hK, rfl⟩))
    have HP := Lib.hid (show pre'.map Cb.l <+: (frs L).1 by rw [hp]; exact hpre)
    clear hK hj hp hpre
    gi_wp2_with fail
    refine ⟨by simp, .inl ⟨_, _, rfl, run_takeDeferred HK.out, ?_⟩⟩
    exact ⟨_, results_none rfl _ _ _, ⟨_, rfl⟩, .inr ⟨_, HP.out, HJV.out⟩⟩
end Fa
end Go.Proofs.YtigiiofiajhnlaaGreatDoor
