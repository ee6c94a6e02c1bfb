/-
  The iterator that frames (package frame) hands back.
-/
import Derived.Test.YtigiiofiajhnlaaGreatDoorFa
import Derived.Test.YtigiiofiajhnlaaGreatDoorFq
import Derived.RangeFuncBound
import Derived.RangeFuncLeaves
import Derived.Shelf.Abstract
import Derived.Shelf.RegionOpen
import Derived.TacticsInMore
import Derived.LoopNIn
import Derived.LoopIn
namespace Go.Proofs.YtigiiofiajhnlaaGreatDoor
set_option linter.unusedVariables false
set_option linter.unusedSimpArgs false
open Go.RowKit Go.Shelf
namespace Fa
open Wd We Dm Dc Dd Hm Hb He Fm
attribute [local go_sem] Oper.semAt_some

/-- what is handed on: a body and what stands behind it, as they lay in w -/
structure Fr (w : World) (M : Nat) where
  A1 : Option Addr
  n1 : Nat
  c1 : Nat
  b : List Int
  A2 : Option Addr
  n2 : Nat
  c2 : Nat
  r : List Int
  s1 : Sl .u8 w A1 n1 c1 b
  s2 : Sl .u8 w A2 n2 c2 r
  i1 : IsB b
  i2 : IsB r
  l1 : n1 ≤ 65536
  l2 : n2 ≤ M
def encF {w : World} {M : Nat} (x : Fr w M) : Array Value := #[.slice x.A1 x.n1 x.c1, .slice x.A2 x.n2 x.c2]
/-- what is left behind the frames that came -/
def lastr {w : World} {M : Nat} (l : List Int) (xs : List (Fr w M)) : List Int := (xs.getLast?.map Fr.r).getD l
theorem lastr_nil {w : World} {M : Nat} (l : List Int) : lastr (w := w) (M := M) l [] = l := rfl
theorem lastr_snoc {w : World} {M : Nat} (l : List Int) (xs : List (Fr w M)) (x : Fr w M) : lastr l (xs ++ [x]) = x.r := by simp [lastr]

theorem grown_below {w w' : World} (h : Below w.heap.size w w') : w.grownBy w' none := ⟨h.os, h.tape, h.output, h.size, fun k hk _ => h.block k hk⟩

set_option maxHeartbeats 1000000 in
theorem frames_in (N : Nat) (A : Option Addr) (m c : Nat) (w : World) :
    CallsIn Fence.wide N Tryz.prog 28 #[.slice A m c] w fun e w' => e = .returned (.func (.func 35) #[] #[.pointer (some ⟨w.heap.size, 0, none⟩)]) ∧ w' = w.alloc (.cells #[.slice A m c] 27) := by
  refine callsIn_of_wp Tryz.func28 rfl trivial ?_ rfl
  simp only [Tryz.ntmps28, List.size_toArray, List.length_cons, List.length_nil, Nat.reduceAdd, Nat.reduceSub, Array.replicate_succ, Array.replicate_zero, List.push_toArray, List.append_toArray, List.nil_append, List.cons_append]
  gi_wp2
  go_ret
  exact ⟨rfl, rfl⟩

set_option maxRecDepth 100000 in
set_option maxHeartbeats 2000000 in
theorem frames1_in (n : Nat) (hn : 1 ≤ n) (l Bn M : Nat) (w0 : World) (A : Option Addr) (m c : Nat) (L : List Int) (s : Sl .u8 w0 A m c L) (hL : IsB L) (hm : m ≤ M) (env : Env w0) (J Jx : List (Fr w0 M) → World → Prop)
    (hY : ∀ pre x W, J pre W → pre.length < (frs L).1.length → YieldAt Fence.wide (n - 1) Tryz.prog l (encF x) W fun e W' =>
      (e = .returned (.bool true) ∧ J (pre ++ [x]) W' ∧ Below w0.heap.size W W') ∨ (e = .returned (.bool false) ∧ Jx (pre ++ [x]) W'))
    (W : World) (hJ : AbidesFrom W.heap.size J) (hBn : W.cell? ⟨Bn, 0, none⟩ = some (.slice A m c)) (hW : Below w0.heap.size w0 W) (h0 : J [] W) :
    CallsIn Fence.wide n Tryz.prog 35 #[.func (.yield l) #[] #[], .pointer (some ⟨Bn, 0, none⟩)] W fun e W' => (∃ v, e = .returned v) ∧
      ((∃ ys, (ys.map Fr.b = (frs L).1 ∧ lastr L ys = (frs L).2) ∧ J ys W') ∨ (∃ pre, pre.map Fr.b <+: (frs L).1 ∧ Jx pre W')) := by
  have HJ := Lib.hid hJ
  clear hJ
  refine callsIn_of_wp Tryz.func35 rfl trivial ?_ rfl
  simp only [Tryz.ntmps35, List.size_toArray, List.length_cons, List.length_nil, Nat.reduceAdd, Nat.reduceSub, Array.replicate_succ, Array.replicate_zero, List.push_toArray, List.append_toArray, List.nil_append, List.cons_append]
  have S0 := Lib.hid s
  have B0 := Lib.hid hL
  have E0 := Lib.hid env
  have hWB := Lib.hid hW
  have HY := Lib.hid hY
  clear s hL env hW hY
  gi_wp2
  gi_loopw [3] (fun p wr => ∃ (A' : Option Addr) (m' c' : Nat) (t : List Int) (pre : List (Fr w0 M)), p = .slice A' m' c' ∧ Hid (Sl .u8 w0 A' m' c' t) ∧ Hid (IsB t) ∧ m' ≤ M ∧ Hid (Below w0.heap.size w0 wr) ∧ W.heap.size ≤ wr.heap.size ∧ Hid (J pre wr) ∧ Hid (frs L = (pre.map Fr.b ++ (frs t).1, (frs t).2)) ∧ Hid (lastr L pre = t))
    (fun p _ => slen p)
  case atStart => exact ⟨A, m, c, L, [], rfl, S0, B0, hm, hWB, Nat.le_refl _, Lib.hid h0, Lib.hid (by simp), Lib.hid rfl⟩
  case round =>
    obtain ⟨A', m', c', t, pre, rfl, hs, hb, hm', hw, hsz, hj, hf, hl⟩ := hrel
    have sw := hs.out.below hw.out
    have ew := E0.out.below hw.out
    cases hq : cutF t with
    | none =>
      have CON := Lib.hid (cut_no _ _ _ _ _ sw hb.out ew hq)
      have HF := Lib.hid (hf.out.trans (by rw [frs_none hq, List.append_nil]))
      clear sw ew hq
      gi_wp2_with fail
      refine ⟨trivial, ?_⟩
      refine (callsIn_wide.2 CON.out).mono ?_
      rintro e w' ⟨rfl, hbb⟩
      have hj2 := HJ.out _ _ _ none hj.out (grown_below hbb) (fun r e => by cases e)
      gi_wp2_with fail
      refine ⟨fun _ h => (by cases h), ?_⟩
      gi_wp2_with fail
      refine bodyPost_ret (results_none rfl _ _ _) rfl ?_
      refine ⟨⟨_, rfl⟩, .inl ⟨pre, ⟨?_, ?_⟩, hj2⟩⟩
      · rw [HF.out]
      · rw [HF.out, hl.out]
    | some p =>
      obtain ⟨b, r⟩ := p
      have CON := Lib.hid (cut_yes _ _ _ _ _ sw hb.out ew hq)
      have HF := Lib.hid (hf.out.trans (by rw [frs_some hq] : _ = (pre.map Fr.b ++ (b :: (frs r).1), (frs r).2)))
      obtain ⟨k, z, _, h1, _, _, h4, eb, er⟩ := cutF_some hq
      have ib : IsB b := by rw [eb]; exact (hb.out.drop _).take _
      have ir : IsB r := by rw [er]; exact hb.out.drop _
      have hbl : b.length ≤ 65536 := by rw [eb, List.length_take]; omega
      clear sw ew hq eb er
      gi_wp2_with fail
      refine ⟨trivial, ?_⟩
      refine (callsIn_wide.2 CON.out).mono ?_
      rintro e w' ⟨A1, n1, c1, A2, n2, c2, rfl, hpc, hlt, hbb⟩
      have hj2 := HJ.out _ _ _ none hj.out (grown_below hbb) (fun r e => by cases e)
      obtain ⟨p1, p2⟩ := hpc w0 hs.out
      obtain ⟨x, hx⟩ : ∃ x : Fr w0 M, x = ⟨A1, n1, c1, b, A2, n2, c2, r, p1, p2, ib, ir, by rw [← p1.len]; exact hbl, by omega⟩ := ⟨_, rfl⟩
      obtain ⟨fn, tmps, assign, body, hy, hR⟩ := HY.out pre x w' hj2 (by rw [HF.out]; simp)
      have hxb : x.b = b := by rw [hx]
      have hxr : x.r = r := by rw [hx]
      have hxe : encF x = #[.slice A1 n1 c1, .slice A2 n2 c2] := by rw [hx]; rfl
      rw [hxe] at hy
      have P2 := Lib.hid p2
      have IR := Lib.hid ir
      have HW := Lib.hid (hw.out.trans ((hbb.mono hw.out.size).trans (Below.refl _ _)))
      have hsz2 := hbb.size
      clear hx hpc p1 p2 ib ir hj2 hbb hxe
      gi_wp2_with fail
      refine hR.mono ?_
      rintro e W3 (⟨rfl, hJ3, hk3⟩ | ⟨rfl, hJx3⟩)
      · have HJ3 := Lib.hid hJ3
        have HK3 := Lib.hid hk3
        have hsz3 := hk3.size
        clear hJ3 hk3 hy
        gi_wp2_with fail
        go_roundw
        case rel =>
          refine ⟨A2, n2, c2, r, pre ++ [x], rfl, P2, IR, by omega, Lib.hid (HW.out.trans HK3.out), by omega, HJ3, Lib.hid ?_, Lib.hid ?_⟩
          · rw [HF.out, List.map_append, List.map_singleton, hxb]; simp
          · rw [lastr_snoc, hxr]
        case measure => simp [slen]; omega
      · have HJ3 := Lib.hid hJx3
        clear hJx3 hy
        gi_wp2_with fail
        refine bodyPost_ret (results_none rfl _ _ _) rfl ?_
        refine ⟨⟨_, rfl⟩, .inr ⟨pre ++ [x], ?_, HJ3.out⟩⟩
        rw [HF.out, List.map_append, List.map_singleton, hxb]
        exact ⟨(frs r).1, by simp⟩

theorem frames_stops (n : Nat) (hn : 1 ≤ n) (Bn M : Nat) (w0 : World) (A : Option Addr) (m c : Nat) (L : List Int) (s : Sl .u8 w0 A m c L) (hL : IsB L) (hm : m ≤ M) (env : Env w0) (w : World) (hw : Below w0.heap.size w0 w) (hB : Bn < w.heap.size) (hBn : w.cell? ⟨Bn, 0, none⟩ = some (.slice A m c)) :
    SeqStopsK (α := Fr w0 M) Fence.wide n Tryz.prog 35 #[.pointer (some ⟨Bn, 0, none⟩)] encF (Below w0.heap.size) (fun ys => ys.map Fr.b = (frs L).1 ∧ lastr L ys = (frs L).2) (fun pre => pre.map Fr.b <+: (frs L).1) (frs L).1.length w := fun l J Jx W hW hJ _ hY h0 =>
  frames1_in n hn l Bn M w0 A m c L s hL hm env J Jx hY W hJ ((hW.cell (p := ⟨Bn, 0, none⟩) hB).trans hBn) (hw.trans (hW.mono hw.size)) h0
end Fa
end Go.Proofs.YtigiiofiajhnlaaGreatDoor
