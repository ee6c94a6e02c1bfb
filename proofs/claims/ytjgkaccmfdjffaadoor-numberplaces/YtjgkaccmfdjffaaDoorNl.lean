/-
  What the document's Of of layer 9 computes.
-/
import Derived.Test.YtjgkaccmfdjffaaDoorNk
import Derived.Test.YtjgkaccmfdjffaaDoorNm
import Derived.Test.YtjgkaccmfdjffaaDoorWh
import Derived.Deep.LoopGhost
import Derived.RangeFuncBox
import Derived.Maps.AppendAt
import Derived.Deep.CutBlock
import Derived.Deep.CutRange
import Derived.Deep.DeepCutAuto
namespace Go.Proofs.YtjgkaccmfdjffaaDoor
set_option linter.unusedVariables false
set_option linter.unusedSimpArgs false
open Go.RowKit
namespace Nu
open Wd We Es
open Dm (Ds vl decs vl_pos vl_lt vl_next)

theorem below_alloc9 (w : World) (o : Obj) : Below w.heap.size w (w.alloc o) := (Below.refl _ _).alloc (Nat.le_refl _) o
theorem ext9 {a b c : World} (h : Below a.heap.size a b) (k : Below b.heap.size b c) : Below a.heap.size a c := h.trans (k.mono h.size)
/-- a number's parts, in a block of their own -/
def PB (w : World) (P : Nat) (b : Bool) (v : Value) (p : Int) : Prop := w.heap[P]? = some (.cells #[.bool b, v, .int .i64 p] 58 (0, 0))
/-- what the document's Of answers -/
def OP (l : List Int) (w : World) (e : Ending) (w' : World) : Prop := Below w.heap.size w w' ∧ ∃ (b : Bool) (A : Option Addr) (n c : Nat) (p : Int) (ok : Bool), e = .returned (.tuple #[.agg #[.bool b, .slice A n c, .int .i64 p], .bool ok]) ∧
  ((ok = false ∧ val l = none) ∨ (ok = true ∧ ∃ d, val l = some (b, d, p) ∧ Sl .u8 w' A n c d ∧ Ds d))
theorem val_bad {l : List Int} (h : ck 0 l ≠ (l.length, 0)) : val l = none := if_pos h

/-- a row lies behind a bound -/
def Far (A : Option Addr) (B : Nat) : Prop := ∀ x, A = some x → B ≤ x.block
theorem Sl.keep9 {k : IntKind} {w : World} {A : Option Addr} {n c : Nat} {l : List Int} (s : Sl k w A n c l) {B : Nat} (hf : Far A B) (p : Addr) (hp : p.block < B) (u : Value) : Sl k (w.setCell p u) A n c l := by
  refine ⟨⟨s.row.1, fun hn => ?_⟩, s.le, s.max, s.nil⟩
  obtain ⟨b, off, hA, hc⟩ := s.row.2 hn
  refine ⟨b, off, hA, fun j x hx => ?_⟩
  have hb := hf _ hA
  have := hc j x hx
  rw [← this]
  refine World.cell?_of_block (a := ⟨b, off + j, none⟩) ?_
  exact Below.heap_setCell _ _ _ _ (fun e => by simp only at hb e; omega)
theorem PB.set1 {w : World} {P : Nat} {b : Bool} {v : Value} {p : Int} (h : PB w P b v p) (u : Value) : PB (w.setCell ⟨P, 1, none⟩ u) P b u p := by
  unfold PB at h ⊢; simp [World.setCell, Array.getElem?_modify, h]
theorem PB.set2 {w : World} {P : Nat} {b : Bool} {v : Value} {p : Int} (h : PB w P b v p) (q : Int) : PB (w.setCell ⟨P, 2, none⟩ (.int .i64 q)) P b v q := by
  unfold PB at h ⊢; simp [World.setCell, Array.getElem?_modify, h]
theorem PB.set0 {w : World} {P : Nat} {b : Bool} {v : Value} {p : Int} (h : PB w P b v p) (q : Bool) : PB (w.setCell ⟨P, 0, none⟩ (.bool q)) P q v p := by
  unfold PB at h ⊢; simp [World.setCell, Array.getElem?_modify, h]
theorem PB.c0 {w : World} {P : Nat} {b : Bool} {v : Value} {p : Int} (h : PB w P b v p) : w.cell? ⟨P, 0, none⟩ = some (.bool b) := by unfold PB at h; simp only [World.cell?, h]; rfl
theorem PB.c1 {w : World} {P : Nat} {b : Bool} {v : Value} {p : Int} (h : PB w P b v p) : w.cell? ⟨P, 1, none⟩ = some v := by unfold PB at h; simp only [World.cell?, h]; rfl
theorem PB.c2 {w : World} {P : Nat} {b : Bool} {v : Value} {p : Int} (h : PB w P b v p) : w.cell? ⟨P, 2, none⟩ = some (.int .i64 p) := by unfold PB at h; simp only [World.cell?, h]; rfl
theorem PB.fz {w : World} {P : Nat} {b : Bool} {v : Value} {p : Int} (h : PB w P b v p) (j : Nat) : w.frozen? ⟨P, j, none⟩ = false := by unfold PB at h; simp [World.frozen?, h]
theorem PB.lt {w : World} {P : Nat} {b : Bool} {v : Value} {p : Int} (h : PB w P b v p) : P < w.heap.size := (Array.getElem?_eq_some_iff.1 h).1

set_option maxRecDepth 100000 in
set_option maxHeartbeats 4000000 in
theorem rof_any (l : List Int) (w : World) (hb : IsB l) (hn : l.length ≤ 140737488351232) :
    Calls Tryd.prog 36 #[.string (Dm.bs l)] w (OP l w) := by
  obtain ⟨i0, hi, hz0, hz1, hz2⟩ := info_parts u8_info
  have RB := Lib.hid (below_alloc9 w (.cells #[.bool false, .slice none 0 0, .int .i64 0] 58))
  obtain ⟨c, w1, kc, t, hbl⟩ := conv_back (w.alloc (.cells #[.bool false, .slice none 0 0, .int .i64 0] 58)) rfl hb (by unfold maxLen; omega)
  have CON := rcheck_any9 _ _ _ _ 0 w1 t hb hn
  obtain ⟨m, e, hk⟩ : ∃ m e, ck 0 l = (m, e) := ⟨_, _, rfl⟩
  have h0 : uc l ((0 : Nat) : Int) = ((m : Int), e) := uc_in (Nat.zero_le _) (by rw [List.drop_zero]; exact hk)
  rw [show ((0 : Nat) : Int) = 0 from rfl] at h0
  unfold CP at CON
  rw [h0] at CON
  dsimp only at CON
  have HC := Lib.hid CON
  have HK := Lib.hid hk
  have hsz : (w.alloc (.cells #[.bool false, .slice none 0 0, .int .i64 0] 58)).heap.size = w.heap.size + 1 := by simp
  have BW1 := Lib.hid (ext9 RB.out hbl)
  have R1 := Lib.hid (show PB w1 w.heap.size false (.slice none 0 0) 0 from (hbl.block _ (by rw [hsz]; omega)).trans (heap_alloc_new w _))
  have T1 := Lib.hid t
  have hs1 := hbl.size
  rw [hsz] at hs1
  have HL1 := Lib.hid (show w.heap.size < w1.heap.size by omega)
  obtain ⟨S, hS⟩ : ∃ S, Dm.bs l = S := ⟨_, rfl⟩
  obtain ⟨N, hN⟩ : ∃ N, l.length = N := ⟨_, rfl⟩
  rw [hS] at kc ⊢
  rw [hN] at kc HC T1 hn
  rw [hsz] at kc HC T1
  have HN := Lib.hid hN
  have HB := Lib.hid hb
  have hn' : (N : Int) ≤ 9223372036854775807 := by omega
  clear CON h0 hk hbl RB t hS hb
  by_cases hbad : e = 0 ∧ m = N
  · obtain ⟨rfl, hmN⟩ := hbad
    obtain rfl : N = m := hmN.symm
    have HKG := Lib.hid (show ck 0 l = (l.length, 0) by rw [HK.out, HN.out])
    have P2 := Lib.hid (show PB (w1.alloc (.cells #[.bool false, .slice none 0 0, .int .i64 0] 58)) w1.heap.size false (.slice none 0 0) 0 from heap_alloc_new w1 _)
    have B2 := Lib.hid (below_alloc9 w1 (.cells #[.bool false, .slice none 0 0, .int .i64 0] 58))
    clear hN hsz
    go_enter Tryd.func36, Tryd.ntmps36
    go_wp2_with fail
    refine HC.out.mono ?_
    rintro e w' ⟨rfl, rfl⟩
    go_upto_block 0 with fail
    obtain ⟨P, hP⟩ : ∃ P, w1.heap.size = P := ⟨_, rfl⟩
    rw [hP] at P2 B2 HL1 ⊢
    have HP := Lib.hid hP
    have hcm : c ≤ 9223372036854775807 := by have := T1.out.max; unfold maxLen at this; omega
    have hcn := T1.out.le
    clear kc hs1 hP
    go_cut [8, 9, 10] from 30 to 69 (fun s8 s9 s10 wx => ∃ (j : Nat) (pv : Bool) (v : Value), s8 = .int .i64 (frc l : Nat) ∧ s9 = .bool pv ∧ s10 = .int .i64 j ∧ j ≤ N ∧ Hid (l.drop j = l.dropWhile nl) ∧ Hid (PB wx P false v 0) ∧ Hid (Wd.Own .u8 5 wx (P + 1) v (dgs l)) ∧ Hid (Below P w1 wx))
    case first =>
      go_wp2_with fail
      go_loopw [8, 9, 10] (fun bv pv iv wr => ∃ (j : Nat) (v : Value), bv = .int .i64 (fj l j : Nat) ∧ pv = .bool (pj l j) ∧ iv = .int .i64 j ∧ j ≤ N ∧ Hid (∀ x ∈ l.take j, nl x = true) ∧ Hid (PB wr P false v 0) ∧ Hid (Wd.Own .u8 5 wr (P + 1) v (dj l j)) ∧ Hid (Below P w1 wr)) (fun _ _ iv _ => N - (intOf iv).toNat)
      case atStart => exact ⟨0, .slice none 0 0, rfl, rfl, rfl, by omega, Lib.hid (fun x hx => by cases hx), P2, Lib.hid Wd.Own.nil, B2⟩
      case round =>
        obtain ⟨j, v, rfl, rfl, rfl, hj, HT, HPB, HO, HBW⟩ := hrel
        by_cases hjn : j = N
        · subst hjn
          have hend := scan_end (l := l) (j := j) (by rw [HN.out]; exact Nat.le_refl _) HT.out (.inl HN.out.symm)
          have E1 := Lib.hid hend
          clear hend
          go_wp2_with fail
          go_meet
          refine ⟨j, _, v, by rw [E1.out.2.1], rfl, rfl, by omega, Lib.hid E1.out.2.2, HPB, Lib.hid (by rw [← E1.out.1]; exact HO.out), HBW⟩
        · have hjl : j < l.length := by have := HN.out; omega
          have hjN : (j : Int) < (N : Int) := by omega
          obtain ⟨x, hx⟩ : ∃ x, l[j]'hjl = x := ⟨_, rfl⟩
          have hjx : l[j]? = some x := by rw [List.getElem?_eq_getElem hjl, hx]
          have hdrop : l.drop j = x :: l.drop (j + 1) := by rw [List.drop_eq_getElem_cons hjl, hx]
          obtain ⟨b5, off5, hA5, hcell⟩ := T1.out.row.2 (by rintro rfl; simp at hjl)
          cases hA5
          have hBW' : Below w1.heap.size w1 wr := by rw [HP.out]; exact HBW.out
          have cj := (hBW'.cell (p := ⟨w.heap.size + 1, 0 + j, none⟩) (lt_of_cell (hcell j x hjx))).trans (hcell j x hjx)
          rw [Nat.zero_add] at cj
          have DG := rdigit_any _ _ _ l j wr (T1.out.below hBW') HB.out
          have CJ1 := Lib.hid (show w1.cell? ⟨w.heap.size + 1, j, none⟩ = some (.int .u8 x) by have := hcell j x hjx; rwa [Nat.zero_add] at this)
          have hxb := HB.out.at_ hjx
          have HX := Lib.hid hjx
          clear hx hcell hjl
          by_cases hnl : nl x = true
          · have hnx : ¬ x = 101 ∧ ¬ x = 69 := by have := of_decide_eq_true hnl; omega
            obtain ⟨n1, n2⟩ := hnx
            have d1 : (x != 101) = true := by simpa using n1
            have d2 : (x != 69) = true := by simpa using n2
            have HT2 : Hid (∀ y ∈ l.take (j + 1), nl y = true) := Lib.hid (fun y hy => by
              rw [take_snoc HX.out] at hy
              rcases List.mem_append.1 hy with h | h
              · exact HT.out y h
              · have : y = x := by simpa using h
                rw [this]; exact hnl)
            have HD2 := Lib.hid (dj_next HX.out)
            have HF2 := Lib.hid (fj_next HX.out)
            have HP2 := Lib.hid (pj_next HX.out)
            clear hnl hjx
            by_cases hdg : dg x = true
            · have hd1' : hdd (l.drop j) = true := by rw [hdrop]; exact hdg
              rw [hd1'] at DG
              have HDG := Lib.hid DG
              have hxd := dg_ds hdg
              have E1 := Lib.hid (show dj l (j + 1) = dj l j ++ [x] by rw [HD2.out, if_pos hdg])
              have E3 := Lib.hid (show pj l (j + 1) = pj l j by rw [HP2.out, decide_eq_false (by omega), Bool.or_false])
              have E2 := Lib.hid (show fj l (j + 1) = fj l j + (if pj l j = true then 1 else 0) by
                rw [HF2.out, E3.out]
                by_cases g : pj l j = true
                · rw [if_pos ⟨hdg, g⟩, if_pos g]
                · rw [if_neg (fun q => g q.2), if_neg g])
              obtain ⟨Av, ca, rfl, sv, hAv⟩ := HO.out.sl
              have hdl : (dj l j).length ≤ j := by
                have := (List.filter_sublist (p := dg) (l := l.take j)).length_le
                rw [List.length_take] at this; unfold dj; omega
              have hfj : fj l j ≤ j := by
                have h1 := (List.filter_sublist (p := dg) (l := (l.take j).dropWhile np)).length_le
                have h2 := (List.dropWhile_sublist (l := l.take j) np).length_le
                rw [List.length_take] at h2; unfold fj; omega
              obtain ⟨L, hL⟩ : ∃ L, (dj l j).length = L := ⟨_, rfl⟩
              rw [hL] at HPB HO hdl sv
              have HL := Lib.hid hL
              clear DG hd1' hdrop hdg hL sv
              have n3 : ¬ x = 46 := by omega
              go_wp2_with fail
              refine HDG.out.mono ?_
              rintro e w' ⟨rfl, rfl⟩
              go_upto_region 13 with fail
              have hp1 := HPB.out
              unfold PB at hp1
              have cv : wr.cell? ⟨P, 1, none⟩ = some (.slice Av L ca) := by simp only [World.cell?, hp1]; rfl
              refine region_calm (fun w' => w'.cell? ⟨P, 1, none⟩ = some (.slice Av L ca) ∧ w'.cell? ⟨w.heap.size + 1, j, none⟩ = some (.int .u8 x)) [0, 1, 2, 3, 4, 5] (by kernel_rfl) ?_
              have hS : wr.drew.cell? ⟨P, 1, none⟩ = some (.slice Av L ca) ∧ wr.drew.cell? ⟨w.heap.size + 1, j, none⟩ = some (.int .u8 x) := ⟨cv, cj⟩
              refine any_takeD 0 56 (.pointer (some ⟨P, 1, none⟩)) rfl rfl (by kernel_rfl) (by kernel_rfl) (by kernel_rfl) (by kernel_rfl) (fun _ _ _ h => h) (by rfl) ?_ hS ?_
              · rintro w' ⟨q1, q2⟩; go_simp
              simp only [Act.put, List.setIfInBounds_toArray, List.set_cons_zero, List.set_cons_succ]
              refine any_takeD 1 57 (.slice Av L ca) rfl rfl (by kernel_rfl) (by kernel_rfl) (by kernel_rfl) (by kernel_rfl) (fun _ _ _ h => h) (by rfl) ?_ hS ?_
              · rintro w' ⟨q1, q2⟩; go_simp
              simp only [Act.put, List.setIfInBounds_toArray, List.set_cons_zero, List.set_cons_succ]
              refine any_takeD 2 58 (.slice (some ⟨w.heap.size + 1, 0, none⟩) N c) rfl rfl (by kernel_rfl) (by kernel_rfl) (by kernel_rfl) (by kernel_rfl) (fun _ _ _ h => h) (by rfl) ?_ hS ?_
              · rintro w' ⟨q1, q2⟩; go_simp
              simp only [Act.put, List.setIfInBounds_toArray, List.set_cons_zero, List.set_cons_succ]
              refine any_takeD 3 59 (.int .i64 (j : Int)) rfl rfl (by kernel_rfl) (by kernel_rfl) (by kernel_rfl) (by kernel_rfl) (fun _ _ _ h => h) (by rfl) ?_ hS ?_
              · rintro w' ⟨q1, q2⟩; go_simp
              simp only [Act.put, List.setIfInBounds_toArray, List.set_cons_zero, List.set_cons_succ]
              refine any_takeD 4 60 (.pointer (some ⟨w.heap.size + 1, j, none⟩)) rfl rfl (by kernel_rfl) (by kernel_rfl) (by kernel_rfl) (by kernel_rfl) (fun _ _ _ h => h) (by rfl) ?_ hS ?_
              · rintro w' ⟨q1, q2⟩; go_simp
              simp only [Act.put, List.setIfInBounds_toArray, List.set_cons_zero, List.set_cons_succ]
              refine any_takeD 5 61 (.int .u8 x) rfl rfl (by kernel_rfl) (by kernel_rfl) (by kernel_rfl) (by kernel_rfl) (fun _ _ _ h => h) (by rfl) ?_ hS ?_
              · rintro w' ⟨q1, q2⟩; go_simp
              simp only [Act.put, List.setIfInBounds_toArray, List.set_cons_zero, List.set_cons_succ]
              have hPlt : P < wr.heap.size := (Array.getElem?_eq_some_iff.1 hp1).1
              refine any_runD 6 62 (.slice (some ⟨wr.heap.size, 0, none⟩) 1 1) (wr.drew.alloc (.cells #[.int .u8 x] 5)) (by kernel_rfl) rfl rfl (by rfl) ?_ (.inr ?_) ?_
              · go_simp
              · exact ⟨(World.cell?_alloc_lt _ _ _ hPlt).trans cv, (World.cell?_alloc_lt _ _ _ (lt_of_cell cj)).trans cj⟩
              simp only [Act.put, List.setIfInBounds_toArray, List.set_cons_zero, List.set_cons_succ]
              have o2 := (HO.out.below (show Below wr.heap.size wr wr.drew from Wd.below_drewN (Below.refl _ _) 1) (fun g hg => (HO.out.lt hg).2)).below (below_alloc9 wr.drew (.cells #[.int .u8 x] 5)) (fun g hg => (HO.out.lt hg).2)
              have p2 : PB (wr.drew.alloc (.cells #[.int .u8 x] 5)) P false (.slice Av L ca) 0 := ((below_alloc9 wr.drew (.cells #[.int .u8 x] 5)).block P hPlt).trans hp1
              have b2 : Below P w1 (wr.drew.alloc (.cells #[.int .u8 x] 5)) := (HBW.out.trans (Wd.below_drewN (Below.refl _ _) 1)).alloc (by have := HBW.out.size; rw [HP.out] at this; exact this) _
              have hcell := cell_one_new wr.drew (.int .u8 x) 5
              have hsa : (wr.drew.alloc (.cells #[.int .u8 x] 5)).heap.size = wr.heap.size + 1 := by simp
              generalize wr.drew.alloc (.cells #[.int .u8 x] 5) = w4 at *
              unfold Wd.Own at o2
              rw [HL.out] at o2
              refine any_appD 7 63 (by kernel_rfl) rfl rfl (by rfl) (.tmp 57) (.tmp 62) 22 rfl (P + 1) 5 i0 _ 1 1 Tryd.underlying22 hi hz0 hz1 hz2 rfl (by decide) (.slice Av L ca) L ((dj l j).map (Value.int .u8)) rfl o2 ⟨wr.heap.size, 0, none⟩ 1 1 [.int .u8 x] rfl rfl hcell (by simp [Value.oneCell']) (by unfold maxLen; omega) (by omega) (by omega) ?_
              intro v' w5 hown' hgrow
              have O3 : Wd.Own .u8 5 w5 (P + 1) v' (dj l j ++ [x]) := by
                unfold Wd.Own
                rw [List.length_append, HL.out, List.map_append]; exact hown'
              obtain ⟨g', cap', rfl⟩ := ownsRow_succ hown'
              have hvb : ∀ k, (Value.slice Av L ca).ownBlock = some k → P + 1 ≤ k := fun k hk => (World.ownsRow.lt o2 k hk).1
              have p3 : PB w5 P false (.slice Av L ca) 0 := (hgrow.block P (by omega) (fun e => by have := hvb _ e.symm; omega)).trans p2
              have b3 := b2.grown hgrow (by omega) (fun k e => by have := hvb k e; omega)
              have hs3 := hgrow.size
              have p3' := p3
              unfold PB at p3'
              have cl : w5.cell? ⟨P, 1, none⟩ = some (.slice Av L ca) := by simp only [World.cell?, p3']; rfl
              have fz : w5.frozen? ⟨P, 1, none⟩ = false := by simp [World.frozen?, p3']
              have hS5 : w5.cell? ⟨P, 1, none⟩ = some (.slice Av L ca) ∧ w5.cell? ⟨w.heap.size + 1, j, none⟩ = some (.int .u8 x) := ⟨cl, (b3.cell (p := ⟨w.heap.size + 1, j, none⟩) (by have := lt_of_cell CJ1.out; rw [HP.out] at this; exact this)).trans CJ1.out⟩
              refine ⟨.inr hS5, ?_⟩
              simp only [Act.put, List.setIfInBounds_toArray, List.set_cons_zero, List.set_cons_succ]
              refine any_runD 8 64 (.pointer (some ⟨P, 1, none⟩)) w5 (by kernel_rfl) rfl rfl (by rfl) ?_ (.inr hS5) ?_
              · go_simp
              simp only [Act.put, List.setIfInBounds_toArray, List.set_cons_zero, List.set_cons_succ]
              refine any_run0 9 (w5.setCell ⟨P, 1, none⟩ (.slice (some ⟨g', 0, none⟩) (L + 1) cap')) (by kernel_rfl) rfl rfl (by rfl) ?_ (.inl (late_of (by kernel_rfl))) ?_
              · go_simp
              refine any_done (by kernel_rfl) ?_ _
              have p6 : PB (w5.setCell ⟨P, 1, none⟩ (.slice (some ⟨g', 0, none⟩) (L + 1) cap')) P false (.slice (some ⟨g', 0, none⟩) (L + 1) cap') 0 := by
                unfold PB; simp [World.setCell, Array.getElem?_modify, p3']
              have b6 := b3.setCell (p := ⟨P, 1, none⟩) (Nat.le_refl _) (.slice (some ⟨g', 0, none⟩) (L + 1) cap')
              have g6 : w5.grownBy (w5.setCell ⟨P, 1, none⟩ (.slice (some ⟨g', 0, none⟩) (L + 1) cap')) (some P) := ⟨rfl, rfl, rfl, by simp [World.setCell], fun k _ hk => Below.heap_setCell _ _ _ _ (fun e => hk (by simp [e]))⟩
              have O6 := O3.kept g6 (by
                intro e
                have := (O3.lt e).1
                omega)
              generalize w5.setCell ⟨P, 1, none⟩ (.slice (some ⟨g', 0, none⟩) (L + 1) cap') = w6 at *
              refine calm_normal ?_
              have H6 := Lib.hid p6
              have HO6 := Lib.hid O6
              have HB6 := Lib.hid b6
              clear p6 O6 b6 g6 hS5 hS cl fz p3' p3 b3 hs3 hvb O3 hgrow hown' o2 p2 b2 hcell hsa hPlt cv hp1 cj
              cases hpj : pj l j with
              | true =>
                rw [hpj] at E2 E3
                go_wp2_with fail
                exact ⟨⟨j + 1, _, by rw [E2.out]; first | rfl | go_num, by rw [E3.out], by go_num, by omega, HT2, H6, Lib.hid (by rw [E1.out]; exact HO6.out), HB6⟩, by simp [intOf]; omega⟩
              | false =>
                rw [hpj] at E2 E3
                go_wp2_with fail
                exact ⟨⟨j + 1, _, by rw [E2.out]; first | rfl | go_num, by rw [E3.out], by go_num, by omega, HT2, H6, Lib.hid (by rw [E1.out]; exact HO6.out), HB6⟩, by simp [intOf]; omega⟩
            · have hd0 : hdd (l.drop j) = false := by rw [hdrop]; simpa [hdd] using hdg
              rw [hd0] at DG
              have HDG := Lib.hid DG
              have e1 : dj l (j + 1) = dj l j := by rw [HD2.out, if_neg hdg, List.append_nil]
              have e2 : fj l (j + 1) = fj l j := by rw [HF2.out, if_neg (fun g => hdg g.1)]; rfl
              have E1 := Lib.hid e1
              have E2 := Lib.hid e2
              clear DG hd0 e1 e2 hdrop hdg
              by_cases h46 : x = 46
              · subst h46
                clear d1 d2
                have E3 := Lib.hid (show pj l (j + 1) = true by rw [HP2.out]; simp)
                go_wp2_with fail
                refine HDG.out.mono ?_
                rintro e w' ⟨rfl, rfl⟩
                go_wp2_with fail
                exact ⟨⟨j + 1, v, by rw [E2.out], by rw [E3.out], by go_num, by omega, HT2, HPB, Lib.hid (by rw [E1.out]; exact HO.out), HBW⟩, by simp [intOf]; omega⟩
              · have E3 := Lib.hid (show pj l (j + 1) = pj l j by rw [HP2.out, decide_eq_false h46, Bool.or_false])
                go_wp2_with fail
                refine HDG.out.mono ?_
                rintro e w' ⟨rfl, rfl⟩
                go_wp2_with fail
                exact ⟨⟨j + 1, v, by rw [E2.out], by rw [E3.out], by go_num, by omega, HT2, HPB, Lib.hid (by rw [E1.out]; exact HO.out), HBW⟩, by simp [intOf]; omega⟩
          · have hnl' : nl x = false := by simpa using hnl
            have E1 := Lib.hid (scan_end (l := l) (j := j) (by have := HN.out; omega) HT.out (.inr ⟨x, HX.out, hnl'⟩))
            have hxx : x = 101 ∨ x = 69 := by
              unfold nl at hnl'
              have := of_decide_eq_false hnl'
              omega
            clear hnl hnl' DG hdrop hjx
            rcases hxx with rfl | rfl
            all_goals
              go_wp2_with fail
              all_goals
                go_meet
                exact ⟨j, _, v, by rw [E1.out.2.1], rfl, rfl, by omega, Lib.hid E1.out.2.2, HPB, Lib.hid (by rw [← E1.out.1]; exact HO.out), HBW⟩
    case rest =>
      obtain ⟨j, pv, v, rfl, rfl, rfl, hj, HJ, HPB, HO, HBW⟩ := hcut
      obtain ⟨Av, ca, rfl, sv, hAv⟩ := HO.out.sl
      have SV := Lib.hid sv
      have HF := Lib.hid (show Far Av (P + 1) from hAv)
      clear sv hAv HO
      generalize (dgs l).length = L at *
      go_upto_block 2 with fail
      go_cut [] from 70 to 84 (fun wx => ∃ (A' : Option Addr) (n' c' : Nat), Hid (PB wx P false (.slice A' n' c') 0) ∧ Hid (Sl .u8 wx A' n' c' (nz (dgs l))) ∧ Hid (Far A' (P + 1)) ∧ Hid (Below P w1 wx))
      case first =>
        go_wp2_with fail
        go_loopw [] (fun wr => ∃ (A' : Option Addr) (n' c' : Nat) (m : List Int), Hid (PB wr P false (.slice A' n' c') 0) ∧ Hid (Sl .u8 wr A' n' c' m) ∧ Hid (nz m = nz (dgs l)) ∧ Hid (Far A' (P + 1)) ∧ Hid (Below P w1 wr)) (fun wr => slen9 ((wr.cell? ⟨P, 1, none⟩).getD .nilIface))
        case atStart => exact ⟨Av, L, ca, dgs l, HPB, SV, Lib.hid rfl, HF, HBW⟩
        case round =>
          obtain ⟨A', n', c', m, HP3, SM, HNZ, HF3, HB3⟩ := hrel
          have hle' := SM.out.le
          have hmx' : c' ≤ 9223372036854775807 := by have := SM.out.max; unfold maxLen at this; omega
          have cl := HP3.out.c1
          have fz := HP3.out.fz 1
          rcases first_of m with hm | ⟨y, hy, hm⟩
          · have hz : ¬ (0 : Int) < (n' : Int) := by have := SM.out.len; rw [hm.1] at this; simp at this; omega
            have HD := Lib.hid (show Sl .u8 wr A' n' c' (nz (dgs l)) by rw [← HNZ.out, hm.2]; exact SM.out)
            clear hm
            go_wp2_with fail
            all_goals
              go_meet
              exact ⟨_, _, _, HP3, HD, HF3, HB3⟩
          · have hz : (0 : Int) < (n' : Int) := by have := SM.out.len; have := lt_of_some hy; omega
            obtain ⟨b2, off2, hA2, hc2⟩ := SM.out.row.2 (by rintro rfl; simp at hy)
            subst hA2
            have c2 : wr.cell? ⟨b2, off2, none⟩ = some (.int .u8 y) := hc2 0 y hy
            clear hc2
            rcases hm with ⟨hy48, hm⟩ | ⟨rfl, hm⟩
            · have HD := Lib.hid (show Sl .u8 wr (some ⟨b2, off2, none⟩) n' c' (nz (dgs l)) by rw [← HNZ.out, hm]; exact SM.out)
              clear hm hy
              go_wp2_with fail
              all_goals
                go_meet
                exact ⟨_, _, _, HP3, HD, HF3, HB3⟩
            · have hn1 : 1 ≤ n' := by omega
              have HNZ2 := Lib.hid (show nz (m.drop 1) = nz (dgs l) by rw [← HNZ.out, hm])
              have S2 := Sl.from9 SM.out 1 hn1
              have hPB : ∀ u : Value, Below P w1 (wr.setCell ⟨P, 1, none⟩ u) := fun u => HB3.out.setCell (p := ⟨P, 1, none⟩) (Nat.le_refl _) u
              have HPB3 := Lib.hid hPB
              clear hm hy hPB
              by_cases hc1 : c' = 1
              · rw [if_pos hc1] at S2
                subst hc1
                obtain rfl : n' = 1 := by omega
                have HS2 := Lib.hid S2
                clear S2
                go_wp2_with fail
                exact ⟨⟨_, _, _, m.drop 1, Lib.hid (HP3.out.set1 _), Lib.hid (Sl.keep9 HS2.out HF3.out _ (Nat.lt_succ_self P) _), HNZ2, HF3, Lib.hid (HPB3.out _)⟩, by rw [(HP3.out.set1 _).c1, cl]; simp [slen9]⟩
              · rw [if_neg hc1] at S2
                have HS2 := Lib.hid S2
                have HF4 := Lib.hid (show Far ((some (⟨b2, off2, none⟩ : Addr)).map (fun x => x.add 1)) (P + 1) from fun x hx => by
                  have h := HF3.out _ rfl
                  simp only [Option.map_some] at hx
                  injection hx with hx
                  rw [← hx]; exact h)
                clear S2
                go_wp2_with fail
                exact ⟨⟨_, _, _, m.drop 1, Lib.hid (HP3.out.set1 _), Lib.hid (Sl.keep9 HS2.out HF4.out _ (Nat.lt_succ_self P) _), HNZ2, HF4, Lib.hid (HPB3.out _)⟩, by rw [(HP3.out.set1 _).c1, cl]; simp [slen9]; omega⟩
      case rest =>
        obtain ⟨A', n', c', HP3, SM, HF3, HB3⟩ := hcut
        have hRP : w.heap.size < P := HL1.out
        have hBw : Below w.heap.size w w1 := BW1.out
        have hBW3 : Below w.heap.size w wc := hBw.trans (HB3.out.mono (by omega))
        have R3 := Lib.hid (show PB wc w.heap.size false (.slice none 0 0) 0 from (HB3.out.block _ hRP).trans R1.out)
        have HBW3 := Lib.hid hBW3
        have cl := HP3.out.c1
        have hle' := SM.out.le
        have hmx' : c' ≤ 9223372036854775807 := by have := SM.out.max; unfold maxLen at this; omega
        clear hBw hBW3
        by_cases hD : nz (dgs l) = []
        · have hn0 : n' = 0 := by have := SM.out.len; rw [hD] at this; exact this.symm
          have HV := Lib.hid (show val l = some (false, [], 0) by unfold val; rw [if_neg (fun g => g HKG.out), if_pos hD])
          subst hn0
          have r0 := R3.out.c0
          have r1 := R3.out.c1
          have r2 := R3.out.c2
          have f0 := R3.out.fz 0
          have f1 := R3.out.fz 1
          have f2 := R3.out.fz 2
          clear hD
          go_wp2_with fail
          refine bodyPost_ret (v := .tuple #[.agg #[.bool false, .slice none 0 0, .int .i64 0], .bool true]) ?_ rfl ⟨?_, false, none, 0, 0, 0, true, rfl, .inr ⟨rfl, [], HV.out, Sl.none_, ds_nil⟩⟩
          · simp only [results]
            go_simp
          · exact ((HBW3.out.setCell (p := ⟨w.heap.size, 0, none⟩) (Nat.le_refl _) _).setCell (p := ⟨w.heap.size, 1, none⟩) (Nat.le_refl _) _).setCell (p := ⟨w.heap.size, 2, none⟩) (Nat.le_refl _) _
        · have hn1 : 1 ≤ n' := by
            have := SM.out.len
            rcases Nat.eq_zero_or_pos n' with g | g
            · rw [g] at this; exact absurd (List.eq_nil_of_length_eq_zero this) hD
            · exact g
          have hnz : ¬ n' = 0 := by omega
          have hnz' : ¬ (n' : Int) = 0 := by omega
          have HD := Lib.hid hD
          clear hD
          go_upto_if 93 with fail
          go_cut [11, 12, 13] from 85 to 104 (fun s11 s12 s13 wx => s11 = .bool (xpo l).isSome ∧ Hid (PB wx P false (.slice A' n' c') ((xpo l).getD 0)) ∧ Hid (Sl .u8 wx A' n' c' (nz (dgs l))) ∧ Hid (Below P w1 wx))
          case first =>
            have cp := HP3.out.c2
            have fp2 := HP3.out.fz 2
            by_cases hjN : j = N
            · subst hjN
              have HX := Lib.hid (show xpo l = some 0 by
                have h0 : l.drop j = [] := List.drop_of_length_le (by rw [HN.out]; exact Nat.le_refl _)
                unfold xpo; rw [← HJ.out, h0]; rfl)
              go_wp2_with fail
              go_meet
              exact ⟨by rw [HX.out]; rfl, Lib.hid (by rw [HX.out]; exact HP3.out), SM, HB3⟩
            · have hjN' : (j : Int) < (N : Int) := by omega
              have hjn1 : j + 1 ≤ N := by omega
              have hjl : j < l.length := by have := HN.out; omega
              have hdr : l.drop j = l[j]'hjl :: l.drop (j + 1) := List.drop_eq_getElem_cons hjl
              have HX := Lib.hid (show xpo l = pw (l.drop (j + 1)) by unfold xpo; rw [← HJ.out, hdr]; rfl)
              have HDS := rest_ds HKG.out
              rw [← HJ.out, hdr] at HDS
              have hBW' : Below w1.heap.size w1 wc := by rw [HP.out]; exact HB3.out
              have sb := Sl.from9 (T1.out.below hBW') (j + 1) hjn1
              clear hdr hBW'
              by_cases hcj : c = j + 1
              · rw [if_pos hcj] at sb
                have hNj : N = j + 1 := by omega
                have RP := Lib.hid (rpower_any _ _ _ _ wc sb HDS)
                rw [← HX.out] at RP
                clear sb HDS HX
                obtain ⟨M, hM⟩ : ∃ M, j + 1 = M := ⟨_, rfl⟩
                rw [hM] at RP hcj hNj
                have hMi : (j : Int) + 1 = (M : Int) := by omega
                subst hcj
                subst hNj
                rw [Nat.sub_self] at RP
                have q1 : (j : Int) < (N : Int) := by omega
                have q2 : (0 : Int) ≤ (N : Int) := by omega
                clear hjn1 hM hjN' hcn
                go_wp2_with fail
                refine RP.out.mono ?_
                rintro e w' ⟨rfl, rfl⟩
                go_wp2_with fail
                go_meet
                exact ⟨rfl, Lib.hid (HP3.out.set2 _), Lib.hid (Sl.keep9 SM.out HF3.out _ (Nat.lt_succ_self P) _), Lib.hid (HB3.out.setCell (p := ⟨P, 2, none⟩) (Nat.le_refl _) _)⟩
              · rw [if_neg hcj] at sb
                have sb : Sl .u8 wc (some ⟨w.heap.size + 1, j + 1, none⟩) (N - (j + 1)) (c - (j + 1)) (l.drop (j + 1)) := by have h := sb; simpa [Addr.add] using h
                have RP := Lib.hid (rpower_any _ _ _ _ wc sb HDS)
                rw [← HX.out] at RP
                clear sb HDS
                have q1 : ¬ (c : Int) = (j : Int) + 1 := by omega
                have q2 : (0 : Int) ≤ (j : Int) + 1 := by omega
                have q3 : (j : Int) + 1 ≤ (N : Int) := by omega
                have q4 : (N : Int) ≤ (c : Int) := by omega
                go_wp2_with fail
                refine RP.out.mono ?_
                rintro e w' ⟨rfl, rfl⟩
                go_wp2_with fail
                go_meet
                exact ⟨rfl, Lib.hid (HP3.out.set2 _), Lib.hid (Sl.keep9 SM.out HF3.out _ (Nat.lt_succ_self P) _), Lib.hid (HB3.out.setCell (p := ⟨P, 2, none⟩) (Nat.le_refl _) _)⟩
          case rest =>
            obtain ⟨rfl, HP4, SM4, HB4⟩ := hcut
            have hqb := xpo_le HKG.out
            have hfl := frc_le l
            have HXO : Hid ((xpo l).getD 0 = (xpo l).getD 0) := Lib.hid rfl
            obtain ⟨q, hq⟩ : ∃ q, (xpo l).getD 0 = q := ⟨_, rfl⟩
            obtain ⟨F, hF⟩ : ∃ F, frc l = F := ⟨_, rfl⟩
            obtain ⟨so, hso⟩ : ∃ so, (xpo l).isSome = so := ⟨_, rfl⟩
            rw [hq] at HP4 hqb
            rw [hF] at hfl ⊢
            rw [hso]
            have hFN : F ≤ N := by have := HN.out; omega
            have HQ := Lib.hid hq
            have HFF := Lib.hid hF
            have HSO := Lib.hid hso
            have cp := HP4.out.c2
            have fp2 := HP4.out.fz 2
            have HP5 := Lib.hid (HP4.out.set2 (q - F))
            have SM5 := Lib.hid (Sl.keep9 SM4.out HF3.out ⟨P, 2, none⟩ (Nat.lt_succ_self P) (.int .i64 (q - F)))
            have HB5 := Lib.hid (HB4.out.setCell (p := ⟨P, 2, none⟩) (Nat.le_refl _) (.int .i64 (q - F)))
            obtain ⟨D, hD⟩ : ∃ D, nz (dgs l) = D := ⟨_, rfl⟩
            have HDF := Lib.hid (show ∀ x, D[0]? = some x → x ≠ 48 by rw [← hD]; exact nz_first)
            rw [hD] at SM5 HD
            have HDD := Lib.hid hD
            have hlD := SM5.out.len
            have HLD := Lib.hid hlD
            obtain ⟨m0, rfl⟩ : ∃ m0, n' = m0 + 1 := ⟨n' - 1, by omega⟩
            have hcc := SM5.out.le
            have SM6 : Hid (Sl .u8 (wc.setCell ⟨P, 2, none⟩ (.int .i64 (q - F))) A' (m0 + 1) c' (D.take (m0 + 1))) := Lib.hid (by rw [List.take_of_length_le (by omega)]; exact SM5.out)
            have HZA := Lib.hid (Zs.all hlD)
            have hmx3 : m0 + 1 ≤ 140737488351232 := by
              have h1 := nz_length (dgs l)
              have h2 : (dgs l).length ≤ l.length := by
                have a1 := (List.filter_sublist (p := dg) (l := l.takeWhile nl)).length_le
                have a2 := (List.takeWhile_sublist (l := l) nl).length_le
                unfold dgs; omega
              have := HN.out
              rw [hD] at h1; omega
            clear hq hF hso hD SM SM4 SM5 HP3 HB3 HB4 hlD hn1 hnz hnz' cl
            go_wp2_with fail
            obtain ⟨y0, hy0⟩ : ∃ y0, l[0]? = some y0 := by
              cases h : l[0]? with
              | none =>
                exfalso
                have h1 := nz_length (dgs l)
                have h2 : l = [] := by
                  rcases l with _ | ⟨a, l⟩
                  · rfl
                  · cases h
                rw [HDD.out, HLD.out] at h1
                rw [h2] at h1
                exact absurd h1 (by show ¬ (m0 + 1 ≤ 0); omega)
              | some y => exact ⟨y, rfl⟩
            have HY0 := Lib.hid hy0
            have hN0 : (0 : Int) < (N : Int) := by have := lt_of_some hy0; have := HN.out; omega
            obtain ⟨b5, off5, hA5, hcell⟩ := T1.out.row.2 (fun e => by rw [e] at hy0; cases hy0)
            cases hA5
            have C0 := Lib.hid (hcell 0 y0 hy0)
            obtain ⟨t0, ht0⟩ : ∃ t0, q - (F : Int) = t0 := ⟨_, rfl⟩
            rw [ht0] at HP5 SM6 HB5 ⊢
            have HT0 := Lib.hid ht0
            have ht1 : -1000000000000000 - 140737488351232 < t0 ∧ t0 < 1000000000000000 := by omega
            obtain ⟨ht1, ht2⟩ := ht1
            clear hcell hy0 ht0 hqb hfl hFN cp fp2 hmx'
            go_loopw [] (fun wr => ∃ (m : Nat) (t : Int), m ≤ m0 ∧ Hid (t = t0 + ((m0 - m : Nat) : Int)) ∧ Hid (Zs D m) ∧ Hid (PB wr P false (.slice A' (m + 1) c') t) ∧ Hid (Sl .u8 wr A' (m + 1) c' (D.take (m + 1))) ∧ Hid (Below P w1 wr)) (fun wr => slen9 ((wr.cell? ⟨P, 1, none⟩).getD .nilIface))
            case atStart => exact ⟨m0, t0, Nat.le_refl _, Lib.hid (by rw [Nat.sub_self]; simp), HZA, HP5, SM6, HB5⟩
            case round =>
              obtain ⟨m, t, hm, HT, HZ, HP7, SM7, HB7⟩ := hrel
              have htb : -1000000000000000 - 140737488351232 < t ∧ t < 1000000000000000 + 140737488351232 := by have := HT.out; omega
              obtain ⟨htb1, htb2⟩ := htb
              have cl7 := HP7.out.c1
              have cq7 := HP7.out.c2
              have f71 := HP7.out.fz 1
              have f72 := HP7.out.fz 2
              have hDm := HZ.out.1
              have hmD : m < D.length := by omega
              obtain ⟨x, hx⟩ : ∃ x, D[m]'hmD = x := ⟨_, rfl⟩
              have hxm : D[m]? = some x := by rw [List.getElem?_eq_getElem hmD, hx]
              have hxt : (D.take (m + 1))[m]? = some x := by rw [List.getElem?_take, if_pos (Nat.lt_succ_self m), hxm]
              obtain ⟨b2, off2, hA2, hc2⟩ := SM7.out.row.2 (fun e => by rw [e] at hxt; cases hxt)
              subst hA2
              have cx := hc2 m x hxt
              have HXM := Lib.hid hxm
              clear hc2 hx hxt hxm hDm hmD
              by_cases h48 : x = 48
              · subst h48
                obtain ⟨k, rfl, hzk⟩ := HZ.out.next HXM.out HDF.out
                have HZK := Lib.hid hzk
                have HPK := Lib.hid ((HP7.out.set1 (.slice (some ⟨b2, off2, none⟩) (k + 1) c')).set2 (t + 1))
                have SMK : Hid (Sl .u8 ((wr.setCell ⟨P, 1, none⟩ (.slice (some ⟨b2, off2, none⟩) (k + 1) c')).setCell ⟨P, 2, none⟩ (.int .i64 (t + 1))) (some ⟨b2, off2, none⟩) (k + 1) c' (D.take (k + 1))) := Lib.hid (by
                  have h1 := SM7.out.cut0 (k + 1) (by omega)
                  rw [List.take_take, Nat.min_eq_left (by omega)] at h1
                  exact Sl.keep9 (Sl.keep9 h1 HF3.out _ (Nat.lt_succ_self P) _) HF3.out _ (Nat.lt_succ_self P) _)
                have HBK := Lib.hid ((HB7.out.setCell (p := ⟨P, 1, none⟩) (Nat.le_refl _) (.slice (some ⟨b2, off2, none⟩) (k + 1) c')).setCell (p := ⟨P, 2, none⟩) (Nat.le_refl _) (.int .i64 (t + 1)))
                have HTK := Lib.hid (show t + 1 = t0 + ((m0 - k : Nat) : Int) by have := HT.out; omega)
                have hcp := HPK.out.c1
                clear hzk
                go_wp2_with fail
                exact ⟨⟨k, t + 1, by omega, HTK, HZK, HPK, SMK, HBK⟩, by rw [hcp, cl7]; simp [slen9]⟩
              · have c0 : wr.cell? ⟨w.heap.size + 1, 0, none⟩ = some (.int .u8 y0) := by
                  have hBW' : Below w1.heap.size w1 wr := by rw [HP.out]; exact HB7.out
                  exact (hBW'.cell (p := ⟨w.heap.size + 1, 0, none⟩) (lt_of_cell C0.out)).trans C0.out
                have c70 := HP7.out.c0
                have f70 := HP7.out.fz 0
                have RW : PB wr w.heap.size false (.slice none 0 0) 0 := (HB7.out.block _ hRP).trans R1.out
                have r0 := RW.c0
                have r1 := RW.c1
                have r2 := RW.c2
                have g0 := RW.fz 0
                have g1 := RW.fz 1
                have g2 := RW.fz 2
                have hne : ¬ P = w.heap.size := by omega
                have hne' : ¬ w.heap.size = P := by omega
                clear RW
                go_wp2_with fail
                have hfin := HZ.out.fin HXM.out h48
                have hsg : hd1 45 45 l = (y0 == 45) := by
                  have h := HY0.out
                  rcases l with _ | ⟨a, l⟩
                  · cases h
                  · injection h with h
                    subst h
                    show decide (_ ∨ _) = _
                    by_cases g : a = 45
                    · subst g; rfl
                    · rw [decide_eq_false (by omega)]; simp [g]
                have hval : (so = false → val l = none) ∧ (so = true → val l = some (y0 == 45, D.take (m + 1), t)) := by
                  have hD := HDD.out
                  have h1 : val l = match xpo l with
                    | none => none
                    | some v => some (hd1 45 45 l, ez (nz (dgs l)), v - (frc l : Int) + (tz (nz (dgs l)) : Int)) := by
                    unfold val; rw [if_neg (fun g => g HKG.out), if_neg (by rw [hD]; exact HD.out)]; rfl
                  cases hx : xpo l with
                  | none => rw [hx] at h1; exact ⟨fun _ => h1, fun g => absurd (show false = true by have := HSO.out; rw [hx, g] at this; exact this) (by decide)⟩
                  | some v =>
                    rw [hx] at h1
                    refine ⟨fun g => absurd (show true = false by have := HSO.out; rw [hx, g] at this; exact this) (by decide), fun _ => ?_⟩
                    have hv : v = q := by have := HQ.out; rw [hx] at this; exact this
                    have ht : v - (frc l : Int) + (tz D : Int) = t := by
                      have a1 := HT.out; have a2 := HT0.out; have a3 := HFF.out; have a4 := hfin.2; have a5 := HLD.out
                      omega
                    rw [h1, hD, hsg, hfin.1]
                    simp only [ht]
                refine bodyPost_ret (v := .tuple #[.agg #[.bool (y0 == 45), .slice (some ⟨b2, off2, none⟩) (m + 1) c', .int .i64 t], .bool so]) ?_ rfl ⟨?_, y0 == 45, some ⟨b2, off2, none⟩, m + 1, c', t, so, rfl, ?_⟩
                · simp only [results]
                  go_simp
                · have hbw : Below w.heap.size w wr := (BW1.out : Below w.heap.size w w1).trans (HB7.out.mono (by omega))
                  exact (((hbw.setCell (p := ⟨P, 0, none⟩) (by show w.heap.size ≤ P; omega) _).setCell (p := ⟨w.heap.size, 0, none⟩) (Nat.le_refl _) _).setCell (p := ⟨w.heap.size, 1, none⟩) (Nat.le_refl _) _).setCell (p := ⟨w.heap.size, 2, none⟩) (Nat.le_refl _) _
                · cases so with
                  | false => exact .inl ⟨rfl, hval.1 rfl⟩
                  | true =>
                    refine .inr ⟨rfl, D.take (m + 1), hval.2 rfl, ?_, ?_⟩
                    · have hR1 : w.heap.size < P + 1 := by omega
                      exact Sl.keep9 (Sl.keep9 (Sl.keep9 (Sl.keep9 SM7.out HF3.out ⟨P, 0, none⟩ (Nat.lt_succ_self P) _) HF3.out ⟨w.heap.size, 0, none⟩ hR1 _) HF3.out ⟨w.heap.size, 1, none⟩ hR1 _) HF3.out ⟨w.heap.size, 2, none⟩ hR1 _
                    · intro x hx
                      have h1 : Ds (dgs l) := fun y hy => dg_ds (List.mem_filter.1 hy).2
                      have h2 := nz_ds h1
                      rw [HDD.out] at h2
                      exact h2 x (List.mem_of_mem_take hx)
  · have HV := Lib.hid (val_bad (l := l) (by rw [HK.out]; intro g; have g1 := congrArg Prod.fst g; have g2 := congrArg Prod.snd g; exact hbad ⟨g2, by rw [← hN]; exact g1⟩))
    have fin : Hid (∀ w2, Below w.heap.size w w2 → OP l w (.returned (.tuple #[.agg #[.bool false, .slice none 0 0, .int .i64 0], .bool false])) w2) := Lib.hid (fun w2 h2 => ⟨h2, _, _, _, _, _, _, rfl, .inl ⟨rfl, HV.out⟩⟩)
    have hR := R1.out
    unfold PB at hR
    have r0 : w1.cell? ⟨w.heap.size, 0, none⟩ = some (.bool false) := by simp only [World.cell?, hR]; rfl
    have r1 : w1.cell? ⟨w.heap.size, 1, none⟩ = some (.slice none 0 0) := by simp only [World.cell?, hR]; rfl
    have r2 : w1.cell? ⟨w.heap.size, 2, none⟩ = some (.int .i64 0) := by simp only [World.cell?, hR]; rfl
    have f0 : w1.frozen? ⟨w.heap.size, 0, none⟩ = false := by simp [World.frozen?, hR]
    have f1 : w1.frozen? ⟨w.heap.size, 1, none⟩ = false := by simp [World.frozen?, hR]
    have f2 : w1.frozen? ⟨w.heap.size, 2, none⟩ = false := by simp [World.frozen?, hR]
    clear hR
    by_cases he : e = 0
    · have hm : ¬ (m : Int) = (N : Int) := fun g => hbad ⟨he, by omega⟩
      subst he
      clear hbad hN hsz
      go_enter Tryd.func36, Tryd.ntmps36
      go_wp2_with fail
      refine HC.out.mono ?_
      rintro e w' ⟨rfl, rfl⟩
      go_wp2
      refine bodyPost_ret (v := .tuple #[.agg #[.bool false, .slice none 0 0, .int .i64 0], .bool false]) ?_ rfl (fin.out _ ?_)
      · simp only [results]
        go_simp
      · exact ((BW1.out.setCell (p := ⟨w.heap.size, 0, none⟩) (Nat.le_refl _) _).setCell (p := ⟨w.heap.size, 1, none⟩) (Nat.le_refl _) _).setCell (p := ⟨w.heap.size, 2, none⟩) (Nat.le_refl _) _
    · clear hbad hN hsz
      have he' : (e != 0) = true := by simpa using he
      go_enter Tryd.func36, Tryd.ntmps36
      go_wp2_with fail
      refine HC.out.mono ?_
      rintro e w' ⟨rfl, rfl⟩
      go_wp2
      refine bodyPost_ret (v := .tuple #[.agg #[.bool false, .slice none 0 0, .int .i64 0], .bool false]) ?_ rfl (fin.out _ ?_)
      · simp only [results]
        go_simp
      · exact ((BW1.out.setCell (p := ⟨w.heap.size, 0, none⟩) (Nat.le_refl _) _).setCell (p := ⟨w.heap.size, 1, none⟩) (Nat.le_refl _) _).setCell (p := ⟨w.heap.size, 2, none⟩) (Nat.le_refl _) _
end Nu
end Go.Proofs.YtjgkaccmfdjffaaDoor
