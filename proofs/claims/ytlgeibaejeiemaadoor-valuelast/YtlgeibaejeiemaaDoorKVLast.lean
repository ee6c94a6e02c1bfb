/-
  The walk of ValueLast.
-/
import Derived.Test.YtlgeibaejeiemaaDoorVv
namespace Go.Proofs.YtlgeibaejeiemaaDoor
set_option linter.unusedVariables false
set_option linter.unusedSimpArgs false
open Go.RowKit
open Wd We Vt

set_option maxRecDepth 100000 in
set_option maxHeartbeats 16000000 in
theorem walk_ValueLast (A0 : Option Addr) (n0 c0 : Nat) (l0 : List Int) (w : World) (s0 : Sl .u8 w A0 n0 c0 l0) (b0 : ∀ x ∈ l0, (Lit.int .u8 x).wf = true) (z0 : c0 * 1 ≤ 140737488351232) (tab : It.Tab w) :
    Calls Tryd.prog 9 #[.slice A0 n0 c0] w fun e w' => e = .returned (.bool true) ∧ Below w.heap.size w w' := by
  obtain ⟨iS, si, sz0, sz1, sz2⟩ := info_parts s_info
  obtain ⟨iV, hif, hz0, hz1, hz2⟩ := info_parts v_info
  have TB := Lib.hid (fun (w' : World) (h : Below w.heap.size w w') => tab.below h)
  have HS0 := Lib.hid s0
  have HB0 : Hid (∀ x ∈ l0, 0 ≤ x ∧ x ≤ 255) := Lib.hid (fun x hx => u8_of (b0 x hx))
  have hlen : l0.length = n0 := s0.len
  have hn0 : n0 ≤ 140737488351232 := by have := s0.le; omega
  obtain ⟨ks, hks⟩ : ∃ ks, l0.map (fun x => (x % 8).toNat) = ks := ⟨_, rfl⟩
  have HKL : Hid (ks.length = n0) := Lib.hid (by rw [← hks, List.length_map, hlen])
  have HK8 : Hid (∀ x ∈ ks, x < 8) := Lib.hid (by
    rw [← hks]
    intro x hx
    obtain ⟨y, hy, rfl⟩ := List.mem_map.1 hx
    omega)
  have HKA : Hid (∀ (i : Nat) (x : Int), l0[i]? = some x → ks[i]? = some (x % 8).toNat) := Lib.hid (fun i x hx => by rw [← hks, List.getElem?_map, hx]; rfl)
  obtain ⟨R5, hR5⟩ : ∃ R, w.heap.size = R := ⟨_, rfl⟩
  obtain ⟨G, hG0⟩ : ∃ R, R5 + 1 = R := ⟨_, rfl⟩
  obtain ⟨W1, hW1⟩ : ∃ W, w.alloc (.cells #[.int .i64 0, .int .i64 0, .int .i64 0, .int .i64 0, .int .i64 0, .int .i64 0, .int .i64 0, .int .i64 0] 49) = W := ⟨_, rfl⟩
  have zW1 : W1.heap.size = G := by rw [← hW1, World.size_alloc, hR5, hG0]
  obtain ⟨W2, hW2⟩ : ∃ W, W1.alloc (.cells #[.string ⟨#[]⟩, .string ⟨#[97]⟩, .string ⟨#[98]⟩, .string ⟨#[97, 97]⟩, .string ⟨#[65]⟩, .string ⟨#[106, 115, 111, 110, 114, 112, 99]⟩, .string ⟨#[105, 100]⟩, .string ⟨#[0]⟩] 9) = W := ⟨_, rfl⟩
  have zW2 : W2.heap.size = G + 1 := by rw [← hW2, World.size_alloc, zW1]
  have b1 : Below w.heap.size w W1 := by rw [← hW1]; exact below_allocV w _
  have b2 : Below W1.heap.size W1 W2 := by rw [← hW2]; exact below_allocV W1 _
  have h5 : W2.heap[R5]? = some (.cells #[.int .i64 0, .int .i64 0, .int .i64 0, .int .i64 0, .int .i64 0, .int .i64 0, .int .i64 0, .int .i64 0] 49 (0, 0)) := by rw [b2.block R5 (by omega), ← hW1, ← hR5]; exact heap_alloc_new w _
  have hA : W2.heap[G]? = some (.cells #[.string ⟨#[]⟩, .string ⟨#[97]⟩, .string ⟨#[98]⟩, .string ⟨#[97, 97]⟩, .string ⟨#[65]⟩, .string ⟨#[106, 115, 111, 110, 114, 112, 99]⟩, .string ⟨#[105, 100]⟩, .string ⟨#[0]⟩] 9 (0, 0)) := by rw [← hW2, ← zW1]; exact heap_alloc_new W1 _
  have LS0 : Hid (LS w W2 (G + 1) R5 G (.slice none 0 0) (.slice none 0 0) ks 0) := Lib.hid ⟨World.ownsRow_nil _ _ _ _, World.ownsRow_nil _ _ _ _, (fun g h => by cases h), (fun k hk => by
      simp only [World.cell?, h5]
      rcases (by omega : k = 0 ∨ k = 1 ∨ k = 2 ∨ k = 3 ∨ k = 4 ∨ k = 5 ∨ k = 6 ∨ k = 7) with rfl | rfl | rfl | rfl | rfl | rfl | rfl | rfl <;> rfl), ⟨_, _, h5⟩, (fun k s hs => by
      have hk : k < 8 := by have := (List.getElem?_eq_some_iff.1 hs).1; exact this
      simp only [World.cell?, hA]
      rcases (by omega : k = 0 ∨ k = 1 ∨ k = 2 ∨ k = 3 ∨ k = 4 ∨ k = 5 ∨ k = 6 ∨ k = 7) with rfl | rfl | rfl | rfl | rfl | rfl | rfl | rfl <;> (injection hs with hs; subst hs; rfl)), extV b1 b2, ⟨by omega, by omega, by omega, by omega, by omega⟩⟩
  have HR5 := Lib.hid hR5
  have HG0 := Lib.hid hG0
  have HW1 := Lib.hid hW1
  have HW2 := Lib.hid hW2
  clear tab b0 s0 hks hlen hR5 hG0 hW1 hW2 zW1 zW2 b1 b2 h5 hA
  go_enter Tryd.func9, Tryd.ntmps9
  go_upto_region 5 with fail
  rw [HW1.out, HW2.out, HR5.out, HG0.out]
  go_wp2_with fail
  go_loopw [3, 4, 7] (fun v3 v4 iv wr => ∃ i : Nat, iv = .int .i64 i ∧ i ≤ n0 ∧ i ≤ 40 ∧ Hid (LS w wr (G + 1) R5 G v3 v4 ks i)) (fun _ _ iv _ => 40 - (intOf iv).toNat)
  case atStart => exact ⟨0, rfl, by omega, by omega, LS0⟩
  case round =>
    obtain ⟨i, rfl, hi, hi4, hL⟩ := hrel
    by_cases hin : i < n0
    · have i1 : (i : Int) < (n0 : Int) := by omega
      by_cases hi40 : i < 40
      · have i2 : (i : Int) < 40 := by omega
        obtain ⟨x, hx⟩ : ∃ x, l0[i]? = some x := ⟨_, List.getElem?_eq_getElem (by have := HS0.out.len; omega)⟩
        have hxb := HB0.out x (List.mem_of_getElem? hx)
        have hne : l0 ≠ [] := fun e => by rw [e] at hx; cases hx
        obtain ⟨bb, off, hAd, hcell⟩ := (HS0.out.below hL.out.up).row.2 hne
        subst hAd
        have r0 := hcell i x hx
        obtain ⟨k, hk⟩ : ∃ k, (x % 8).toNat = k := ⟨_, rfl⟩
        have hk8 : k < 8 := by omega
        have HKX : Hid (ks[i]? = some k) := Lib.hid (by rw [← hk]; exact HKA.out i x hx)
        obtain ⟨s, hs⟩ : ∃ s, nm8[k]? = some s := ⟨_, List.getElem?_eq_getElem hk8⟩
        have r1 := hL.out.all k s hs
        have r2 := hL.out.arr k hk8
        have hxk : x % 8 = (k : Int) := by omega
        obtain ⟨QS, hQS⟩ : ∃ Q, wr.heap.size = Q := ⟨_, rfl⟩
        obtain ⟨W7, hW7⟩ : ∃ W, wr.alloc (.cells #[.string s] 9) = W := ⟨_, rfl⟩
        have b7 : Below wr.heap.size wr W7 := by rw [← hW7]; exact below_allocV wr _
        have hh7 : W7.heap[QS]? = some (.cells #[.string s] 9 (0, 0)) := by rw [← hW7, ← hQS]; exact heap_alloc_new wr _
        have hc7 : ∀ (j : Nat) u, [Value.string s][j]? = some u → W7.cell? ((⟨QS, 0, none⟩ : Addr).add j) = some u := fun j u hu => by
          obtain rfl : j = 0 := by have := (List.getElem?_eq_some_iff.1 hu).1; simp at this; omega
          simp at hu; subst hu
          simp [Addr.add, World.cell?, hh7]
        have ho7 := own_up hL.out.n3 b7
        have hba7 : G + 1 ≤ W7.heap.size := by have := hL.out.lt; have := b7.size; omega
        have HB7 := Lib.hid b7
        have HX := Lib.hid hx
        have HS := Lib.hid hs
        clear hcell hx hne b7 hh7
        go_upto_region 9 with (at_builtin; refine wpList_append_own_at (P := Tryd.prog) W7 rfl _ _ _ rfl (G + 1) 9 iS _ 1 16 Tryd.underlying23 si sz0 sz1 sz2 rfl (by decide) _ i _ rfl ho7 _ 1 1 [.string s] rfl rfl hc7 (fun u hu => by simp at hu; subst hu; rfl) (by unfold maxLen; omega) (by omega) hba7 ?_; intro v3' w8 hown8 hg8 _ hat8; have HO8 := Lib.hid hown8; have HG8 := Lib.hid hg8; have HA8 := Lib.hid hat8; clear hown8 hg8 hat8)
        have U8 := Lib.hid (hL.out.up8 HB7.out HG8.out)
        clear r0 r1 r2 ho7 hba7 hc7 hW7 hQS
        go_wp2_with fail
        refine (number_any ((i : Int) + 1) (by omega) (by omega) w8 (TB.out w8 U8.out)).mono ?_
        rintro e w9 ⟨rfl, hb9⟩
        obtain ⟨QV, hQV⟩ : ∃ Q, w9.heap.size = Q := ⟨_, rfl⟩
        obtain ⟨sn, hsn⟩ : ∃ s, numT ((i : Int) + 1) = s := ⟨_, rfl⟩
        rw [hsn]
        obtain ⟨W10, hW10⟩ : ∃ W, w9.alloc (.cells #[.int .i64 2, .bool false, .string sn, .slice none 0 0, .slice none 0 0] 25) = W := ⟨_, rfl⟩
        have b10 : Below w9.heap.size w9 W10 := by rw [← hW10]; exact below_allocV w9 _
        have hc10 : ∀ (j : Nat) u, [Value.int .i64 2, .bool false, .string sn, .slice none 0 0, .slice none 0 0][j]? = some u → W10.cell? ((⟨QV, 0, none⟩ : Addr).add j) = some u := fun j u hu => by rw [← hW10, ← hQV]; exact cells5_new w9 _ _ _ _ _ _ j u hu
        have HB10 := Lib.hid (extV hb9 b10)
        obtain ⟨ho10, hba10⟩ := hL.out.mid HB7.out HG8.out HB10.out
        have HSN := Lib.hid hsn
        clear hb9 hsn b10
        go_upto_region 10 with (at_builtin; refine wpList_append_own_at (P := Tryd.prog) W10 rfl _ _ _ rfl (G + 1) 25 iV _ 5 80 Tryd.underlying22 hif hz0 hz1 hz2 rfl (by decide) _ i _ rfl ho10 _ 1 1 [.int .i64 2, .bool false, .string sn, .slice none 0 0, .slice none 0 0] rfl rfl hc10 (fun u hu => by simp at hu; rcases hu with rfl | rfl | rfl | rfl | rfl <;> rfl) (by unfold maxLen; omega) (by omega) hba10 ?_; intro v4' w11 hown11 hg11 _ hat11; have HO11 := Lib.hid hown11; have HG11 := Lib.hid hg11; have HA11 := Lib.hid hat11; clear hown11 hg11 hat11)
        obtain ⟨hbl, hlow⟩ := hL.out.late HB7.out HG8.out HB10.out HG11.out
        have r0 : w11.cell? ⟨bb, off + i, none⟩ = some (.int .u8 x) := by
          obtain ⟨bb', off', e', hcell⟩ := (HS0.out.below hbl).row.2 (fun e => by rw [e] at HX; cases HX.out)
          injection e' with e'
          injection e' with e1 e2
          subst e1 e2
          exact hcell i x HX.out
        have r2 : w11.cell? ⟨R5, k, none⟩ = some (.int .i64 (lastN ks i k : Nat)) := by rw [cell_same (hlow R5 (by have := hL.out.lt; omega))]; exact hL.out.arr k hk8
        have ff : w11.frozen? ⟨R5, k, none⟩ = false := by
          obtain ⟨cu, ty, hcu⟩ := hL.out.fz
          have := (hlow R5 (by have := hL.out.lt; omega)).trans hcu
          simp [World.frozen?, this]
        have HST : Hid (LS w (w11.setCell ⟨R5, k, none⟩ (.int .i64 ((i : Int) + 1))) (G + 1) R5 G v3' v4' ks (i + 1)) := Lib.hid (LS.step hL.out HB7.out HG8.out HO8.out HA8.out HB10.out HG11.out (by rw [five, HSN.out]; exact HO11.out) HA11.out HKX.out HS.out)
        clear hbl hlow ho10 hba10 hc10 hW10 hQV
        go_wp2_with fail
        generalize w11.setCell ⟨R5, k, none⟩ (.int .i64 ((i : Int) + 1)) = w12 at *
        exact ⟨⟨i + 1, by go_num, by omega, by omega, HST⟩, by simp [intOf]; omega⟩
      · have i2 : ¬ (i : Int) < 40 := by omega
        obtain ⟨m, rfl⟩ : ∃ m, m = i := ⟨i, rfl⟩
        obtain ⟨B3, d3, h3⟩ := own_form hL.out.n3
        obtain ⟨A4, c4, h4⟩ := own_form hL.out.n4
        subst h3 h4
        have hnm := nm_of_own hL.out.n3 (by omega)
        have hvl := (vl_nums hL.out.n4 (by omega)).2
        have hml : m ≤ ks.length := by have := HKL.out; omega
        have CM := Lib.hid (vmake_any _ _ _ _ _ _ _ _ wr hvl hnm)
        have HML := Lib.hid hml
        clear hnm hvl hml
        go_wp2_with fail
        refine CM.out.mono ?_
        rintro e w5 ⟨hb5, hm5⟩
        rw [if_pos (by rw [nmsOf_length HML.out, nums_length])] at hm5
        obtain ⟨A5, m5, c5, B5, q5, d5, rfl, ho5⟩ := hm5
        have O5 := Lib.hid (ho5.vl _)
        have HB5 := Lib.hid hb5
        clear hb5 ho5
        obtain ⟨R1, hR1⟩ : ∃ R, w5.heap.size = R := ⟨_, rfl⟩
        obtain ⟨U1, hU1⟩ : ∃ U, w5.alloc (.cells #[.int .i64 0, .bool false, .string ⟨#[]⟩, .slice none 0 0, .slice none 0 0] 25) = U := ⟨_, rfl⟩
        obtain ⟨nb, nb2⟩ := newbox hR1 hU1
        obtain ⟨nb3, nb4, nb5⟩ := nb2 (.int .i64 5) (.bool false) (.string ⟨#[]⟩) (.slice A5 m5 c5) (.slice B5 q5 d5)
        have e0 := nb.c0; have e1 := nb.c1; have e2 := nb.c2; have e3 := nb.c3; have e4 := nb.c4
        have f0 := nb.fz 0; have f1 := nb.fz 1; have f2 := nb.fz 2; have f3 := nb.fz 3; have f4 := nb.fz 4
        obtain ⟨V1, hV1⟩ : ∃ V, put5 U1 R1 (.int .i64 5) (.bool false) (.string ⟨#[]⟩) (.slice A5 m5 c5) (.slice B5 q5 d5) = V := ⟨_, rfl⟩
        rw [hV1] at nb3 nb4 nb5
        have HV1 := Lib.hid hV1
        have HR1 := Lib.hid hR1
        have N1 := Lib.hid nb3
        have NB1 := Lib.hid nb4
        have NS1 := Lib.hid nb5
        clear hV1 nb nb2 nb3 nb4 nb5
        go_upto_region 12 with fail
        rw [show ((((U1.setCell ⟨R1, 0, none⟩ (.int .i64 5)).setCell ⟨R1, 1, none⟩ (.bool false)).setCell ⟨R1, 2, none⟩ (.string ⟨#[]⟩)).setCell ⟨R1, 3, none⟩ (.slice A5 m5 c5)).setCell ⟨R1, 4, none⟩ (.slice B5 q5 d5) = V1 from HV1.out]
        clear e0 e1 e2 e3 e4 f0 f1 f2 f3 f4 hU1
        have hbv := extV HB5.out NB1.out
        have BV1 := Lib.hid (hL.out.up.trans (hbv.mono hL.out.up.size))
        have ARR : Hid (∀ k, k < 8 → V1.cell? ⟨R5, k, none⟩ = some (.int .i64 (lastN ks m k : Nat))) := Lib.hid (fun k hk => (hbv.cell (p := ⟨R5, k, none⟩) (lt_of_cell (hL.out.arr k hk))).trans (hL.out.arr k hk))
        have ALL : Hid (∀ (k : Nat) (s : ByteArray), nm8[k]? = some s → V1.cell? ⟨G, k, none⟩ = some (.string s)) := Lib.hid (fun k s hs => (hbv.cell (p := ⟨G, k, none⟩) (lt_of_cell (hL.out.all k s hs))).trans (hL.out.all k s hs))
        have OV1 := Lib.hid (Vl.up NB1.out _ O5.out)
        clear hbv hR1 O5
        go_wp2_with fail
        go_loopw [10] (fun iv wq => ∃ i : Nat, iv = .int .i64 i ∧ i ≤ 8 ∧ Hid (Below V1.heap.size V1 wq)) (fun iv _ => 8 - (intOf iv).toNat)
        case atStart => exact ⟨0, rfl, by omega, Lib.hid (Below.refl _ _)⟩
        case round =>
          obtain ⟨i, rfl, hi8, hB⟩ := hrel
          obtain ⟨wq, rfl⟩ : ∃ x, x = wr := ⟨wr, rfl⟩
          by_cases hin8 : i < 8
          · have i8 : (i : Int) < 8 := by omega
            obtain ⟨s, hs⟩ : ∃ s, nm8[i]? = some s := ⟨_, List.getElem?_eq_getElem (show i < nm8.length from hin8)⟩
            have mv0 := ALL.out i s hs
            have mv : wq.cell? ⟨G, i, none⟩ = some (.string s) := (hB.out.cell (p := ⟨G, i, none⟩) (lt_of_cell mv0)).trans mv0
            have ca0 := ARR.out i hin8
            have ca5 : wq.cell? ⟨R5, i, none⟩ = some (.int .i64 (lastN ks m i : Nat)) := (hB.out.cell (p := ⟨R5, i, none⟩) (lt_of_cell ca0)).trans ca0
            have hu := N1.out.below hB.out N1.out.lt
            have hvw := Vl.up hB.out _ OV1.out
            have hget := get_last HK8.out HML.out hin8 hs
            have hle := lastN_le ks i m
            obtain ⟨L, hLL⟩ : ∃ L, lastN ks m i = L := ⟨_, rfl⟩
            rw [hLL] at ca5 hget hle
            obtain ⟨tt, htt0⟩ : ∃ t, (getT (.mk 5 false ⟨#[]⟩ (nums m) (nmsOf ks m)) s).getD zeroT = t := ⟨_, rfl⟩
            obtain ⟨oo, hoo0⟩ : ∃ o, (getT (.mk 5 false ⟨#[]⟩ (nums m) (nmsOf ks m)) s).isSome = o := ⟨_, rfl⟩
            have CG : Hid (∀ w', Below wq.heap.size wq w' → Calls Tryd.prog 24 #[.agg #[.int .i64 5, .bool false, .string ⟨#[]⟩, .slice A5 m5 c5, .slice B5 q5 d5], .string s] w' (GtR tt oo w')) := Lib.hid (fun w' h => (vget_any (.mk 5 false ⟨#[]⟩ (nums m) (nmsOf ks m)) _ s w' (Vl.up h _ hvw)).mono (fun e w'' hh => by rw [← htt0, ← hoo0]; exact gtQ hh))
            have hcase : (L = 0 ∧ oo = false) ∨ (0 < L ∧ oo = true ∧ tt = num (L : Nat)) := by
              rw [hget] at htt0 hoo0
              by_cases hz : L = 0
              · rw [if_pos hz] at hoo0
                exact .inl ⟨hz, hoo0.symm⟩
              · rw [if_neg hz] at htt0 hoo0
                exact .inr ⟨by omega, hoo0.symm, htt0.symm⟩
            clear htt0 hoo0 hs mv0 ca0 hvw hget hLL
            go_upto_region 17 with fail
            have HSS : Bx wq.drew R1 (.int .i64 5) (.bool false) (.string ⟨#[]⟩) (.slice A5 m5 c5) (.slice B5 q5 d5) ∧ wq.drew.cell? ⟨G, i, none⟩ = some (.string s) := ⟨Bx.same hu rfl, mv⟩
            refine region_calm (fun w' => Bx w' R1 (.int .i64 5) (.bool false) (.string ⟨#[]⟩) (.slice A5 m5 c5) (.slice B5 q5 d5) ∧ w'.cell? ⟨G, i, none⟩ = some (.string s)) [0, 1, 2, 3, 4, 6, 7, 8] (by kernel_rfl) ?_
            have hd0 : Below wq.heap.size wq wq.drew := ⟨rfl, rfl, rfl, Nat.le_refl _, fun _ _ => rfl⟩
            refine any_takeD 0 63 (.agg #[.int .i64 5, .bool false, .string ⟨#[]⟩, .slice A5 m5 c5, .slice B5 q5 d5]) rfl rfl (by kernel_rfl) (by kernel_rfl) (by kernel_rfl) (by kernel_rfl) (fun _ _ _ h => h) (by rfl) ?_ HSS ?_
            · rintro w' ⟨hS, hc⟩
              have z0 := hS.c0; have z1 := hS.c1; have z2 := hS.c2; have z3 := hS.c3; have z4 := hS.c4
              go_simp
            simp only [Act.put, List.setIfInBounds_toArray, List.set_cons_zero, List.set_cons_succ]
            refine any_takeD 1 64 (.slice (some ⟨G, 0, none⟩) 8 8) rfl rfl (by kernel_rfl) (by kernel_rfl) (by kernel_rfl) (by kernel_rfl) (fun _ _ _ h => h) (by rfl) ?_ HSS ?_
            · rintro w' ⟨hS, hc⟩
              have z0 := hS.c0; have z1 := hS.c1; have z2 := hS.c2; have z3 := hS.c3; have z4 := hS.c4
              go_simp
            simp only [Act.put, List.setIfInBounds_toArray, List.set_cons_zero, List.set_cons_succ]
            refine any_takeD 2 65 (.int .i64 (i : Int)) rfl rfl (by kernel_rfl) (by kernel_rfl) (by kernel_rfl) (by kernel_rfl) (fun _ _ _ h => h) (by rfl) ?_ HSS ?_
            · rintro w' ⟨hS, hc⟩
              have z0 := hS.c0; have z1 := hS.c1; have z2 := hS.c2; have z3 := hS.c3; have z4 := hS.c4
              go_simp
            simp only [Act.put, List.setIfInBounds_toArray, List.set_cons_zero, List.set_cons_succ]
            refine any_takeD 3 66 (.pointer (some ⟨G, i, none⟩)) rfl rfl (by kernel_rfl) (by kernel_rfl) (by kernel_rfl) (by kernel_rfl) (fun _ _ _ h => h) (by rfl) ?_ HSS ?_
            · rintro w' ⟨hS, hc⟩
              have z0 := hS.c0; have z1 := hS.c1; have z2 := hS.c2; have z3 := hS.c3; have z4 := hS.c4
              go_simp
            simp only [Act.put, List.setIfInBounds_toArray, List.set_cons_zero, List.set_cons_succ]
            refine any_takeD 4 67 (.string s) rfl rfl (by kernel_rfl) (by kernel_rfl) (by kernel_rfl) (by kernel_rfl) (fun _ _ _ h => h) (by rfl) ?_ HSS ?_
            · rintro w' ⟨hS, hc⟩
              have z0 := hS.c0; have z1 := hS.c1; have z2 := hS.c2; have z3 := hS.c3; have z4 := hS.c4
              go_simp
            simp only [Act.put, List.setIfInBounds_toArray, List.set_cons_zero, List.set_cons_succ]
            refine any_two 5 9 (by kernel_rfl) rfl rfl (by rfl) (by rfl) ?_ ?_
            · refine st_call 5 68 rfl (fn := 24) (args := #[.agg #[.int .i64 5, .bool false, .string ⟨#[]⟩, .slice A5 m5 c5, .slice B5 q5 d5], .string s]) ?_ (CG.out wq.drew hd0) ?_
              · go_simp
              rintro e w1 ⟨Aa, ma, ca, Ba, qa, da, rfl, hb1, ho1⟩
              have HS1 : Bx w1 R1 (.int .i64 5) (.bool false) (.string ⟨#[]⟩) (.slice A5 m5 c5) (.slice B5 q5 d5) ∧ w1.cell? ⟨G, i, none⟩ = some (.string s) := ⟨HSS.1.below hb1 HSS.1.lt, (hb1.cell (p := ⟨G, i, none⟩) (lt_of_cell HSS.2)).trans HSS.2⟩
              refine ⟨_, rfl, .inr HS1, ?_⟩
              simp only [Act.put, List.setIfInBounds_toArray, List.set_cons_zero, List.set_cons_succ]
              refine any_takeD 6 62 (.tuple #[.agg #[.int .i64 (tt).kind, .bool (tt).isB, .string (tt).text, .slice Aa ma ca, .slice Ba qa da], .bool oo]) rfl rfl (by kernel_rfl) (by kernel_rfl) (by kernel_rfl) (by kernel_rfl) (fun _ _ _ h => h) (by rfl) ?_ HS1 ?_
              · rintro w' ⟨hS, hc⟩
                have z0 := hS.c0; have z1 := hS.c1; have z2 := hS.c2; have z3 := hS.c3; have z4 := hS.c4
                go_simp
              simp only [Act.put, List.setIfInBounds_toArray, List.set_cons_zero, List.set_cons_succ]
              refine any_takeD 7 69 (.agg #[.int .i64 (tt).kind, .bool (tt).isB, .string (tt).text, .slice Aa ma ca, .slice Ba qa da]) rfl rfl (by kernel_rfl) (by kernel_rfl) (by kernel_rfl) (by kernel_rfl) (fun _ _ _ h => h) (by rfl) ?_ HS1 ?_
              · rintro w' ⟨hS, hc⟩
                have z0 := hS.c0; have z1 := hS.c1; have z2 := hS.c2; have z3 := hS.c3; have z4 := hS.c4
                go_simp
              simp only [Act.put, List.setIfInBounds_toArray, List.set_cons_zero, List.set_cons_succ]
              refine any_takeD 8 70 (.bool oo) rfl rfl (by kernel_rfl) (by kernel_rfl) (by kernel_rfl) (by kernel_rfl) (fun _ _ _ h => h) (by rfl) ?_ HS1 ?_
              · rintro w' ⟨hS, hc⟩
                have z0 := hS.c0; have z1 := hS.c1; have z2 := hS.c2; have z3 := hS.c3; have z4 := hS.c4
                go_simp
              simp only [Act.put, List.setIfInBounds_toArray, List.set_cons_zero, List.set_cons_succ]
              obtain ⟨Ra, hRa⟩ : ∃ R, w1.heap.size = R := ⟨_, rfl⟩
              obtain ⟨Ua, hUa⟩ : ∃ U, w1.alloc (.cells #[.int .i64 0, .bool false, .string ⟨#[]⟩, .slice none 0 0, .slice none 0 0] 25) = U := ⟨_, rfl⟩
              obtain ⟨nb, nb2⟩ := newbox hRa hUa
              have hbU : Below w1.heap.size w1 Ua := by rw [← hUa]; exact below_allocV w1 _
              obtain ⟨nb3, nb4, nb5⟩ := nb2 (.int .i64 (tt).kind) (.bool (tt).isB) (.string (tt).text) (.slice Aa ma ca) (.slice Ba qa da)
              have HS2 : Bx Ua R1 (.int .i64 5) (.bool false) (.string ⟨#[]⟩) (.slice A5 m5 c5) (.slice B5 q5 d5) ∧ Ua.cell? ⟨G, i, none⟩ = some (.string s) := ⟨HS1.1.below hbU HS1.1.lt, (hbU.cell (p := ⟨G, i, none⟩) (lt_of_cell HS1.2)).trans HS1.2⟩
              refine any_runD 9 11 (.pointer (some ⟨Ra, 0, none⟩)) Ua (by kernel_rfl) rfl rfl (by rfl) ?_ (.inr HS2) ?_
              · rw [← hUa, ← hRa]; go_simp
              simp only [Act.put, List.setIfInBounds_toArray, List.set_cons_zero, List.set_cons_succ]
              have e0 := nb.c0; have f0 := nb.fz 0; have e1 := nb.c1; have f1 := nb.fz 1; have e2 := nb.c2; have f2 := nb.fz 2; have e3 := nb.c3; have f3 := nb.fz 3; have e4 := nb.c4; have f4 := nb.fz 4
              have hq9 : put5 Ua Ra (.int .i64 (tt).kind) (.bool (tt).isB) (.string (tt).text) (.slice Aa ma ca) (.slice Ba qa da) = ((((Ua.setCell ⟨Ra, 0, none⟩ (.int .i64 (tt).kind)).setCell ⟨Ra, 1, none⟩ (.bool (tt).isB)).setCell ⟨Ra, 2, none⟩ (.string (tt).text)).setCell ⟨Ra, 3, none⟩ (.slice Aa ma ca)).setCell ⟨Ra, 4, none⟩ (.slice Ba qa da) := rfl
              have HS9 : Bx (put5 Ua Ra (.int .i64 (tt).kind) (.bool (tt).isB) (.string (tt).text) (.slice Aa ma ca) (.slice Ba qa da)) R1 (.int .i64 5) (.bool false) (.string ⟨#[]⟩) (.slice A5 m5 c5) (.slice B5 q5 d5) ∧ (put5 Ua Ra (.int .i64 (tt).kind) (.bool (tt).isB) (.string (tt).text) (.slice Aa ma ca) (.slice Ba qa da)).cell? ⟨G, i, none⟩ = some (.string s) := ⟨HS1.1.below nb4 HS1.1.lt, (nb4.cell (p := ⟨G, i, none⟩) (lt_of_cell HS1.2)).trans HS1.2⟩
              rw [hq9] at HS9
              refine any_run0 10 (((((Ua.setCell ⟨Ra, 0, none⟩ (.int .i64 (tt).kind)).setCell ⟨Ra, 1, none⟩ (.bool (tt).isB)).setCell ⟨Ra, 2, none⟩ (.string (tt).text)).setCell ⟨Ra, 3, none⟩ (.slice Aa ma ca)).setCell ⟨Ra, 4, none⟩ (.slice Ba qa da)) (by kernel_rfl) rfl rfl (by rfl) ?_ (.inr HS9) ?_
              · go_simp
              rw [← hq9] at HS9 ⊢
              clear hq9
              obtain ⟨aw, hw9⟩ : ∃ W, put5 Ua Ra (.int .i64 (tt).kind) (.bool (tt).isB) (.string (tt).text) (.slice Aa ma ca) (.slice Ba qa da) = W := ⟨_, rfl⟩
              rw [hw9] at nb3 nb4 nb5 HS9 ⊢
              have hXa := nb3
              have hLa : Below wq.heap.size wq aw := extV hd0 (extV hb1 nb4)
              have hs1 := hb1.size
              have hs0 : wq.drew.heap.size = wq.heap.size := rfl
              have hAa := (ho1.kept _ (fun x hx => nb4.block x hx.2)).mono (T := fun x => wq.heap.size ≤ x ∧ x < aw.heap.size ∧ x ≠ Ra) (fun x hx => ⟨hx.1, by have := hx.2; omega, by have := hx.2; omega⟩)
              have hlta : Ra < aw.heap.size ∧ wq.heap.size ≤ Ra := ⟨by omega, by omega⟩
              clear nb nb2 nb3 nb4 nb5 hw9 hbU HS1 HS2 hb1 ho1 hs1 hs0 hUa hRa
              clear e0 f0 e1 f1 e2 f2 e3 f3 e4 f4
              refine any_runD 11 12 (.bool oo) aw (by kernel_rfl) rfl rfl (by rfl) ?_ (.inr HS9) ?_
              · go_simp
              simp only [Act.put, List.setIfInBounds_toArray, List.set_cons_zero, List.set_cons_succ]
              refine any_done (by kernel_rfl) ?_ _
              refine calm_normal ?_
              clear HS9 HSS hd0
              have c5 : aw.cell? ⟨R5, i, none⟩ = some (.int .i64 (L : Nat)) := (hLa.cell (p := ⟨R5, i, none⟩) (lt_of_cell ca5)).trans ca5
              have BWA : Below w.heap.size w aw := BV1.out.trans ((extV hB.out hLa).mono BV1.out.size)
              go_upto_region 18 with fail
              rcases hcase with ⟨hz, rfl⟩ | ⟨hz, rfl, htt⟩
              · have hz1 : ¬ (0 : Int) < (L : Int) := by omega
                have HSS : Bx aw.drew Ra (.int .i64 tt.kind) (.bool tt.isB) (.string tt.text) (.slice Aa ma ca) (.slice Ba qa da) ∧ aw.drew.cell? ⟨R5, i, none⟩ = some (.int .i64 (L : Nat)) := ⟨Bx.same hXa rfl, c5⟩
                refine region_calm (fun w' => Bx w' Ra (.int .i64 tt.kind) (.bool tt.isB) (.string tt.text) (.slice Aa ma ca) (.slice Ba qa da) ∧ w'.cell? ⟨R5, i, none⟩ = some (.int .i64 (L : Nat))) [0, 9] (by kernel_rfl) ?_
                have rk0 : Below aw.heap.size aw aw.drew := ⟨rfl, rfl, rfl, Nat.le_refl _, fun _ _ => rfl⟩
                refine any_takeD 0 71 (.bool false) rfl rfl (by kernel_rfl) (by kernel_rfl) (by kernel_rfl) (by kernel_rfl) (fun _ _ _ h => h) (by rfl) ?_ HSS ?_
                · intro w' hS
                  obtain ⟨za, zb⟩ := hS
                  have za_0 := za.c0; have za_1 := za.c1; have za_2 := za.c2; have za_3 := za.c3; have za_4 := za.c4
                  go_simp
                simp only [Act.put, List.setIfInBounds_toArray, List.set_cons_zero, List.set_cons_succ]
                refine any_runD 1 72 (.int .i64 (i : Int)) aw.drew (by kernel_rfl) rfl rfl (by rfl) ?_ (.inr HSS) ?_
                · obtain ⟨za, zb⟩ := HSS
                  have za_0 := za.c0; have za_1 := za.c1; have za_2 := za.c2; have za_3 := za.c3; have za_4 := za.c4
                  go_simp
                simp only [Act.put, List.setIfInBounds_toArray, List.set_cons_zero, List.set_cons_succ]
                refine any_runD 2 73 (.pointer (some ⟨R5, i, none⟩)) aw.drew (by kernel_rfl) rfl rfl (by rfl) ?_ (.inr HSS) ?_
                · obtain ⟨za, zb⟩ := HSS
                  have za_0 := za.c0; have za_1 := za.c1; have za_2 := za.c2; have za_3 := za.c3; have za_4 := za.c4
                  go_simp
                simp only [Act.put, List.setIfInBounds_toArray, List.set_cons_zero, List.set_cons_succ]
                refine any_runD 3 74 (.int .i64 (L : Nat)) aw.drew (by kernel_rfl) rfl rfl (by rfl) ?_ (.inr HSS) ?_
                · obtain ⟨za, zb⟩ := HSS
                  have za_0 := za.c0; have za_1 := za.c1; have za_2 := za.c2; have za_3 := za.c3; have za_4 := za.c4
                  go_simp
                simp only [Act.put, List.setIfInBounds_toArray, List.set_cons_zero, List.set_cons_succ]
                refine any_runD 4 75 (.bool false) aw.drew (by kernel_rfl) rfl rfl (by rfl) ?_ (.inr HSS) ?_
                · obtain ⟨za, zb⟩ := HSS
                  have za_0 := za.c0; have za_1 := za.c1; have za_2 := za.c2; have za_3 := za.c3; have za_4 := za.c4
                  go_simp
                simp only [Act.put, List.setIfInBounds_toArray, List.set_cons_zero, List.set_cons_succ]
                refine any_runD 5 76 (.bool false) aw.drew (by kernel_rfl) rfl rfl (by rfl) ?_ (.inr HSS) ?_
                · obtain ⟨za, zb⟩ := HSS
                  have za_0 := za.c0; have za_1 := za.c1; have za_2 := za.c2; have za_3 := za.c3; have za_4 := za.c4
                  go_simp
                simp only [Act.put, List.setIfInBounds_toArray, List.set_cons_zero, List.set_cons_succ]
                refine any_runD 6 77 (.bool false) aw.drew (by kernel_rfl) rfl rfl (by rfl) ?_ (.inr HSS) ?_
                · obtain ⟨za, zb⟩ := HSS
                  have za_0 := za.c0; have za_1 := za.c1; have za_2 := za.c2; have za_3 := za.c3; have za_4 := za.c4
                  go_simp
                simp only [Act.put, List.setIfInBounds_toArray, List.set_cons_zero, List.set_cons_succ]
                refine any_runD 7 78 (.bool false) aw.drew (by kernel_rfl) rfl rfl (by rfl) ?_ (.inr HSS) ?_
                · obtain ⟨za, zb⟩ := HSS
                  have za_0 := za.c0; have za_1 := za.c1; have za_2 := za.c2; have za_3 := za.c3; have za_4 := za.c4
                  go_simp
                simp only [Act.put, List.setIfInBounds_toArray, List.set_cons_zero, List.set_cons_succ]
                refine any_runD 8 79 (.bool false) aw.drew (by kernel_rfl) rfl rfl (by rfl) ?_ (.inr HSS) ?_
                · obtain ⟨za, zb⟩ := HSS
                  have za_0 := za.c0; have za_1 := za.c1; have za_2 := za.c2; have za_3 := za.c3; have za_4 := za.c4
                  go_simp
                simp only [Act.put, List.setIfInBounds_toArray, List.set_cons_zero, List.set_cons_succ]
                refine any_takeU 9 80 rfl rfl (by kernel_rfl) (by kernel_rfl) (by kernel_rfl) (by kernel_rfl) (fun _ _ _ h => h) (by rfl) HSS ?_
                simp only [Act.put, List.setIfInBounds_toArray, List.set_cons_zero, List.set_cons_succ]
                refine any_skip 10 81 (by kernel_rfl) rfl rfl (by rfl) (.inr HSS) ?_
                simp only [Act.put, List.setIfInBounds_toArray, List.set_cons_zero, List.set_cons_succ]
                refine any_skip 11 82 (by kernel_rfl) rfl rfl (by rfl) (.inr HSS) ?_
                simp only [Act.put, List.setIfInBounds_toArray, List.set_cons_zero, List.set_cons_succ]
                refine any_skip 12 83 (by kernel_rfl) rfl rfl (by rfl) (.inr HSS) ?_
                simp only [Act.put, List.setIfInBounds_toArray, List.set_cons_zero, List.set_cons_succ]
                refine any_skip 13 84 (by kernel_rfl) rfl rfl (by rfl) (.inr HSS) ?_
                simp only [Act.put, List.setIfInBounds_toArray, List.set_cons_zero, List.set_cons_succ]
                refine any_skip 14 85 (by kernel_rfl) rfl rfl (by rfl) (.inr HSS) ?_
                simp only [Act.put, List.setIfInBounds_toArray, List.set_cons_zero, List.set_cons_succ]
                refine any_skip 15 86 (by kernel_rfl) rfl rfl (by rfl) (.inr HSS) ?_
                simp only [Act.put, List.setIfInBounds_toArray, List.set_cons_zero, List.set_cons_succ]
                refine any_runD 16 87 (.bool false) aw.drew (by kernel_rfl) rfl rfl (by rfl) ?_ (.inr HSS) ?_
                · obtain ⟨za, zb⟩ := HSS
                  have za_0 := za.c0; have za_1 := za.c1; have za_2 := za.c2; have za_3 := za.c3; have za_4 := za.c4
                  go_simp
                simp only [Act.put, List.setIfInBounds_toArray, List.set_cons_zero, List.set_cons_succ]
                refine any_runD 17 88 (.bool false) aw.drew (by kernel_rfl) rfl rfl (by rfl) ?_ (.inr HSS) ?_
                · obtain ⟨za, zb⟩ := HSS
                  have za_0 := za.c0; have za_1 := za.c1; have za_2 := za.c2; have za_3 := za.c3; have za_4 := za.c4
                  go_simp
                simp only [Act.put, List.setIfInBounds_toArray, List.set_cons_zero, List.set_cons_succ]
                refine any_done (by kernel_rfl) ?_ _
                refine calm_normal ?_
                have LB := Lib.hid (extV hB.out (extV hLa rk0))
                clear HSS hXa hAa hLa c5 BWA hlta hu mv ca5
                go_wp2_with fail
                exact ⟨⟨i + 1, by go_num, by omega, LB⟩, by simp [intOf]; omega⟩
              · have hz1 : (0 : Int) < (L : Int) := by omega
                have HSS : Bx aw.drew Ra (.int .i64 tt.kind) (.bool tt.isB) (.string tt.text) (.slice Aa ma ca) (.slice Ba qa da) ∧ aw.drew.cell? ⟨R5, i, none⟩ = some (.int .i64 (L : Nat)) := ⟨Bx.same hXa rfl, c5⟩
                refine region_calm (fun w' => Bx w' Ra (.int .i64 tt.kind) (.bool tt.isB) (.string tt.text) (.slice Aa ma ca) (.slice Ba qa da) ∧ w'.cell? ⟨R5, i, none⟩ = some (.int .i64 (L : Nat))) [0, 9] (by kernel_rfl) ?_
                have rk0 : Below aw.heap.size aw aw.drew := ⟨rfl, rfl, rfl, Nat.le_refl _, fun _ _ => rfl⟩
                refine any_takeD 0 71 (.bool true) rfl rfl (by kernel_rfl) (by kernel_rfl) (by kernel_rfl) (by kernel_rfl) (fun _ _ _ h => h) (by rfl) ?_ HSS ?_
                · intro w' hS
                  obtain ⟨za, zb⟩ := hS
                  have za_0 := za.c0; have za_1 := za.c1; have za_2 := za.c2; have za_3 := za.c3; have za_4 := za.c4
                  go_simp
                simp only [Act.put, List.setIfInBounds_toArray, List.set_cons_zero, List.set_cons_succ]
                refine any_runD 1 72 (.int .i64 (i : Int)) aw.drew (by kernel_rfl) rfl rfl (by rfl) ?_ (.inr HSS) ?_
                · obtain ⟨za, zb⟩ := HSS
                  have za_0 := za.c0; have za_1 := za.c1; have za_2 := za.c2; have za_3 := za.c3; have za_4 := za.c4
                  go_simp
                simp only [Act.put, List.setIfInBounds_toArray, List.set_cons_zero, List.set_cons_succ]
                refine any_runD 2 73 (.pointer (some ⟨R5, i, none⟩)) aw.drew (by kernel_rfl) rfl rfl (by rfl) ?_ (.inr HSS) ?_
                · obtain ⟨za, zb⟩ := HSS
                  have za_0 := za.c0; have za_1 := za.c1; have za_2 := za.c2; have za_3 := za.c3; have za_4 := za.c4
                  go_simp
                simp only [Act.put, List.setIfInBounds_toArray, List.set_cons_zero, List.set_cons_succ]
                refine any_runD 3 74 (.int .i64 (L : Nat)) aw.drew (by kernel_rfl) rfl rfl (by rfl) ?_ (.inr HSS) ?_
                · obtain ⟨za, zb⟩ := HSS
                  have za_0 := za.c0; have za_1 := za.c1; have za_2 := za.c2; have za_3 := za.c3; have za_4 := za.c4
                  go_simp
                simp only [Act.put, List.setIfInBounds_toArray, List.set_cons_zero, List.set_cons_succ]
                refine any_runD 4 75 (.bool true) aw.drew (by kernel_rfl) rfl rfl (by rfl) ?_ (.inr HSS) ?_
                · obtain ⟨za, zb⟩ := HSS
                  have za_0 := za.c0; have za_1 := za.c1; have za_2 := za.c2; have za_3 := za.c3; have za_4 := za.c4
                  go_simp
                simp only [Act.put, List.setIfInBounds_toArray, List.set_cons_zero, List.set_cons_succ]
                refine any_runD 5 76 (.bool false) aw.drew (by kernel_rfl) rfl rfl (by rfl) ?_ (.inr HSS) ?_
                · obtain ⟨za, zb⟩ := HSS
                  have za_0 := za.c0; have za_1 := za.c1; have za_2 := za.c2; have za_3 := za.c3; have za_4 := za.c4
                  go_simp
                simp only [Act.put, List.setIfInBounds_toArray, List.set_cons_zero, List.set_cons_succ]
                refine any_runD 6 77 (.bool false) aw.drew (by kernel_rfl) rfl rfl (by rfl) ?_ (.inr HSS) ?_
                · obtain ⟨za, zb⟩ := HSS
                  have za_0 := za.c0; have za_1 := za.c1; have za_2 := za.c2; have za_3 := za.c3; have za_4 := za.c4
                  go_simp
                simp only [Act.put, List.setIfInBounds_toArray, List.set_cons_zero, List.set_cons_succ]
                refine any_runD 7 78 (.bool true) aw.drew (by kernel_rfl) rfl rfl (by rfl) ?_ (.inr HSS) ?_
                · obtain ⟨za, zb⟩ := HSS
                  have za_0 := za.c0; have za_1 := za.c1; have za_2 := za.c2; have za_3 := za.c3; have za_4 := za.c4
                  go_simp
                simp only [Act.put, List.setIfInBounds_toArray, List.set_cons_zero, List.set_cons_succ]
                refine any_runD 8 79 (.bool true) aw.drew (by kernel_rfl) rfl rfl (by rfl) ?_ (.inr HSS) ?_
                · obtain ⟨za, zb⟩ := HSS
                  have za_0 := za.c0; have za_1 := za.c1; have za_2 := za.c2; have za_3 := za.c3; have za_4 := za.c4
                  go_simp
                simp only [Act.put, List.setIfInBounds_toArray, List.set_cons_zero, List.set_cons_succ]
                refine any_takeD 9 80 (.agg #[.int .i64 tt.kind, .bool tt.isB, .string tt.text, .slice Aa ma ca, .slice Ba qa da]) rfl rfl (by kernel_rfl) (by kernel_rfl) (by kernel_rfl) (by kernel_rfl) (fun _ _ _ h => h) (by rfl) ?_ HSS ?_
                · intro w' hS
                  obtain ⟨za, zb⟩ := hS
                  have za_0 := za.c0; have za_1 := za.c1; have za_2 := za.c2; have za_3 := za.c3; have za_4 := za.c4
                  go_simp
                simp only [Act.put, List.setIfInBounds_toArray, List.set_cons_zero, List.set_cons_succ]
                refine any_runD 10 81 (.int .i64 (i : Int)) aw.drew (by kernel_rfl) rfl rfl (by rfl) ?_ (.inr HSS) ?_
                · obtain ⟨za, zb⟩ := HSS
                  have za_0 := za.c0; have za_1 := za.c1; have za_2 := za.c2; have za_3 := za.c3; have za_4 := za.c4
                  go_simp
                simp only [Act.put, List.setIfInBounds_toArray, List.set_cons_zero, List.set_cons_succ]
                refine any_runD 11 82 (.pointer (some ⟨R5, i, none⟩)) aw.drew (by kernel_rfl) rfl rfl (by rfl) ?_ (.inr HSS) ?_
                · obtain ⟨za, zb⟩ := HSS
                  have za_0 := za.c0; have za_1 := za.c1; have za_2 := za.c2; have za_3 := za.c3; have za_4 := za.c4
                  go_simp
                simp only [Act.put, List.setIfInBounds_toArray, List.set_cons_zero, List.set_cons_succ]
                refine any_runD 12 83 (.int .i64 (L : Nat)) aw.drew (by kernel_rfl) rfl rfl (by rfl) ?_ (.inr HSS) ?_
                · obtain ⟨za, zb⟩ := HSS
                  have za_0 := za.c0; have za_1 := za.c1; have za_2 := za.c2; have za_3 := za.c3; have za_4 := za.c4
                  go_simp
                simp only [Act.put, List.setIfInBounds_toArray, List.set_cons_zero, List.set_cons_succ]
                refine any_callV 13 84 (by kernel_rfl) rfl rfl (by rfl) (fn := 30) (args := #[.int .i64 (L : Nat)]) ?_ (number_any (L : Nat) (by omega) (by omega) aw.drew (TB.out aw.drew (extV BWA rk0))) ?_
                · go_simp
                rintro e r1 ⟨rfl, hr1⟩
                have rk1 := extV rk0 hr1
                have HSS : Bx r1 Ra (.int .i64 tt.kind) (.bool tt.isB) (.string tt.text) (.slice Aa ma ca) (.slice Ba qa da) ∧ r1.cell? ⟨R5, i, none⟩ = some (.int .i64 (L : Nat)) := ⟨HSS.1.below hr1 HSS.1.lt, (hr1.cell (p := ⟨R5, i, none⟩) (lt_of_cell HSS.2)).trans HSS.2⟩
                refine ⟨_, rfl, .inr HSS, ?_⟩
                simp only [Act.put, List.setIfInBounds_toArray, List.set_cons_zero, List.set_cons_succ]
                refine any_callV 14 85 (by kernel_rfl) rfl rfl (by rfl) (fn := 22) (args := #[.agg #[.int .i64 tt.kind, .bool tt.isB, .string tt.text, .slice Aa ma ca, .slice Ba qa da], .agg #[.int .i64 2, .bool false, .string (numT (L : Nat)), .slice none 0 0, .slice none 0 0]]) ?_ (equal_any tt (num (L : Nat)) _ _ r1 (Vl.up rk1 _ (hAa.vl _)) (vl_num r1 (by omega) (by omega))) ?_
                · go_simp
                rintro e r2 ⟨rfl, hr2⟩
                have rk2 := extV rk1 hr2
                rw [show alk tt (num (L : Nat)) = true by rw [htt]; exact alk_self _]
                have HSS : Bx r2 Ra (.int .i64 tt.kind) (.bool tt.isB) (.string tt.text) (.slice Aa ma ca) (.slice Ba qa da) ∧ r2.cell? ⟨R5, i, none⟩ = some (.int .i64 (L : Nat)) := ⟨HSS.1.below hr2 HSS.1.lt, (hr2.cell (p := ⟨R5, i, none⟩) (lt_of_cell HSS.2)).trans HSS.2⟩
                refine ⟨_, rfl, .inr HSS, ?_⟩
                simp only [Act.put, List.setIfInBounds_toArray, List.set_cons_zero, List.set_cons_succ]
                refine any_runD 15 86 (.bool false) r2 (by kernel_rfl) rfl rfl (by rfl) ?_ (.inr HSS) ?_
                · obtain ⟨za, zb⟩ := HSS
                  have za_0 := za.c0; have za_1 := za.c1; have za_2 := za.c2; have za_3 := za.c3; have za_4 := za.c4
                  go_simp
                simp only [Act.put, List.setIfInBounds_toArray, List.set_cons_zero, List.set_cons_succ]
                refine any_runD 16 87 (.bool false) r2 (by kernel_rfl) rfl rfl (by rfl) ?_ (.inr HSS) ?_
                · obtain ⟨za, zb⟩ := HSS
                  have za_0 := za.c0; have za_1 := za.c1; have za_2 := za.c2; have za_3 := za.c3; have za_4 := za.c4
                  go_simp
                simp only [Act.put, List.setIfInBounds_toArray, List.set_cons_zero, List.set_cons_succ]
                refine any_runD 17 88 (.bool false) r2 (by kernel_rfl) rfl rfl (by rfl) ?_ (.inr HSS) ?_
                · obtain ⟨za, zb⟩ := HSS
                  have za_0 := za.c0; have za_1 := za.c1; have za_2 := za.c2; have za_3 := za.c3; have za_4 := za.c4
                  go_simp
                simp only [Act.put, List.setIfInBounds_toArray, List.set_cons_zero, List.set_cons_succ]
                refine any_done (by kernel_rfl) ?_ _
                refine calm_normal ?_
                have LB := Lib.hid (extV hB.out (extV hLa rk2))
                clear HSS hXa hAa hLa c5 BWA hlta hu mv ca5
                go_wp2_with fail
                exact ⟨⟨i + 1, by go_num, by omega, LB⟩, by simp [intOf]; omega⟩
            · obtain ⟨Ra, hRa⟩ : ∃ R, wq.heap.size = R := ⟨_, rfl⟩
              obtain ⟨Ua, hUa⟩ : ∃ U, wq.drew.alloc (.cells #[.int .i64 0, .bool false, .string ⟨#[]⟩, .slice none 0 0, .slice none 0 0] 25) = U := ⟨_, rfl⟩
              obtain ⟨nb0, nb2⟩ := newbox (w := wq.drew) hRa hUa
              clear nb2
              have hbU : Below wq.drew.heap.size wq.drew Ua := by rw [← hUa]; exact below_allocV wq.drew _
              have hsU : Ua.heap.size = Ra + 1 := by rw [← hUa, World.size_alloc]; show wq.heap.size + 1 = _; rw [hRa]
              have HS2 : Bx Ua R1 (.int .i64 5) (.bool false) (.string ⟨#[]⟩) (.slice A5 m5 c5) (.slice B5 q5 d5) ∧ Ua.cell? ⟨G, i, none⟩ = some (.string s) := ⟨HSS.1.below hbU HSS.1.lt, (hbU.cell (p := ⟨G, i, none⟩) (lt_of_cell HSS.2)).trans HSS.2⟩
              refine st_run 9 11 (.pointer (some ⟨Ra, 0, none⟩)) Ua rfl ?_ (.inr HS2) ?_
              · rw [← hUa, ← hRa]; go_simp
              simp only [Act.put, List.setIfInBounds_toArray, List.set_cons_zero, List.set_cons_succ]
              refine any_callV 5 68 (by kernel_rfl) rfl rfl (by rfl) (fn := 24) (args := #[.agg #[.int .i64 5, .bool false, .string ⟨#[]⟩, .slice A5 m5 c5, .slice B5 q5 d5], .string s]) ?_ (CG.out Ua (extV hd0 hbU)) ?_
              · go_simp
              rintro e w1 ⟨Aa, ma, ca, Ba, qa, da, rfl, hb1, ho1⟩
              have HS1 : Bx w1 R1 (.int .i64 5) (.bool false) (.string ⟨#[]⟩) (.slice A5 m5 c5) (.slice B5 q5 d5) ∧ w1.cell? ⟨G, i, none⟩ = some (.string s) := ⟨HS2.1.below hb1 HS2.1.lt, (hb1.cell (p := ⟨G, i, none⟩) (lt_of_cell HS2.2)).trans HS2.2⟩
              refine ⟨_, rfl, .inr HS1, ?_⟩
              simp only [Act.put, List.setIfInBounds_toArray, List.set_cons_zero, List.set_cons_succ]
              refine any_takeD 6 62 (.tuple #[.agg #[.int .i64 (tt).kind, .bool (tt).isB, .string (tt).text, .slice Aa ma ca, .slice Ba qa da], .bool oo]) rfl rfl (by kernel_rfl) (by kernel_rfl) (by kernel_rfl) (by kernel_rfl) (fun _ _ _ h => h) (by rfl) ?_ HS1 ?_
              · rintro w' ⟨hS, hc⟩
                have z0 := hS.c0; have z1 := hS.c1; have z2 := hS.c2; have z3 := hS.c3; have z4 := hS.c4
                go_simp
              simp only [Act.put, List.setIfInBounds_toArray, List.set_cons_zero, List.set_cons_succ]
              refine any_takeD 7 69 (.agg #[.int .i64 (tt).kind, .bool (tt).isB, .string (tt).text, .slice Aa ma ca, .slice Ba qa da]) rfl rfl (by kernel_rfl) (by kernel_rfl) (by kernel_rfl) (by kernel_rfl) (fun _ _ _ h => h) (by rfl) ?_ HS1 ?_
              · rintro w' ⟨hS, hc⟩
                have z0 := hS.c0; have z1 := hS.c1; have z2 := hS.c2; have z3 := hS.c3; have z4 := hS.c4
                go_simp
              simp only [Act.put, List.setIfInBounds_toArray, List.set_cons_zero, List.set_cons_succ]
              refine any_takeD 8 70 (.bool oo) rfl rfl (by kernel_rfl) (by kernel_rfl) (by kernel_rfl) (by kernel_rfl) (fun _ _ _ h => h) (by rfl) ?_ HS1 ?_
              · rintro w' ⟨hS, hc⟩
                have z0 := hS.c0; have z1 := hS.c1; have z2 := hS.c2; have z3 := hS.c3; have z4 := hS.c4
                go_simp
              simp only [Act.put, List.setIfInBounds_toArray, List.set_cons_zero, List.set_cons_succ]
              have nb := nb0.below hb1 nb0.lt
              have e0 := nb.c0; have f0 := nb.fz 0; have e1 := nb.c1; have f1 := nb.fz 1; have e2 := nb.c2; have f2 := nb.fz 2; have e3 := nb.c3; have f3 := nb.fz 3; have e4 := nb.c4; have f4 := nb.fz 4
              have hq9 : put5 w1 Ra (.int .i64 (tt).kind) (.bool (tt).isB) (.string (tt).text) (.slice Aa ma ca) (.slice Ba qa da) = ((((w1.setCell ⟨Ra, 0, none⟩ (.int .i64 (tt).kind)).setCell ⟨Ra, 1, none⟩ (.bool (tt).isB)).setCell ⟨Ra, 2, none⟩ (.string (tt).text)).setCell ⟨Ra, 3, none⟩ (.slice Aa ma ca)).setCell ⟨Ra, 4, none⟩ (.slice Ba qa da) := rfl
              have hk9 : ∀ z, z ≠ Ra → (put5 w1 Ra (.int .i64 (tt).kind) (.bool (tt).isB) (.string (tt).text) (.slice Aa ma ca) (.slice Ba qa da)).heap[z]? = w1.heap[z]? := fun z hz => put5_heap z hz
              have hz9 : (put5 w1 Ra (.int .i64 (tt).kind) (.bool (tt).isB) (.string (tt).text) (.slice Aa ma ca) (.slice Ba qa da)).heap.size = w1.heap.size := put5_size
              have hx9 : Bx (put5 w1 Ra (.int .i64 (tt).kind) (.bool (tt).isB) (.string (tt).text) (.slice Aa ma ca) (.slice Ba qa da)) Ra (.int .i64 (tt).kind) (.bool (tt).isB) (.string (tt).text) (.slice Aa ma ca) (.slice Ba qa da) := put5_bx nb
              have hRw : wq.heap.size ≤ Ra := by omega
              have hL0 : Below wq.heap.size wq (put5 w1 Ra (.int .i64 (tt).kind) (.bool (tt).isB) (.string (tt).text) (.slice Aa ma ca) (.slice Ba qa da)) := put5_below (extV hd0 (extV hbU hb1)) hRw
              have HS9 : Bx (put5 w1 Ra (.int .i64 (tt).kind) (.bool (tt).isB) (.string (tt).text) (.slice Aa ma ca) (.slice Ba qa da)) R1 (.int .i64 5) (.bool false) (.string ⟨#[]⟩) (.slice A5 m5 c5) (.slice B5 q5 d5) ∧ (put5 w1 Ra (.int .i64 (tt).kind) (.bool (tt).isB) (.string (tt).text) (.slice Aa ma ca) (.slice Ba qa da)).cell? ⟨G, i, none⟩ = some (.string s) := ⟨(Bx.below hu hL0 (Bx.lt hu)), (hL0.cell (p := ⟨G, i, none⟩) (lt_of_cell mv)).trans mv⟩
              rw [hq9] at HS9
              refine any_run0 10 (((((w1.setCell ⟨Ra, 0, none⟩ (.int .i64 (tt).kind)).setCell ⟨Ra, 1, none⟩ (.bool (tt).isB)).setCell ⟨Ra, 2, none⟩ (.string (tt).text)).setCell ⟨Ra, 3, none⟩ (.slice Aa ma ca)).setCell ⟨Ra, 4, none⟩ (.slice Ba qa da)) (by kernel_rfl) rfl rfl (by rfl) ?_ (.inr HS9) ?_
              · go_simp
              rw [← hq9] at HS9 ⊢
              clear hq9
              obtain ⟨aw, hw9⟩ : ∃ W, put5 w1 Ra (.int .i64 (tt).kind) (.bool (tt).isB) (.string (tt).text) (.slice Aa ma ca) (.slice Ba qa da) = W := ⟨_, rfl⟩
              rw [hw9] at hk9 hz9 hx9 hL0 HS9 ⊢
              have hXa := hx9
              have hLa : Below wq.heap.size wq aw := hL0
              have hs1 := hb1.size
              have hAa := (ho1.kept _ (fun x hx => hk9 x (by have := hx.1; omega))).mono (T := fun x => wq.heap.size ≤ x ∧ x < aw.heap.size ∧ x ≠ Ra) (fun x hx => ⟨by have := hx.1; omega, by have := hx.2; omega, by have := hx.1; omega⟩)
              have hlta : Ra < aw.heap.size ∧ wq.heap.size ≤ Ra := ⟨by omega, by omega⟩
              clear nb nb0 hk9 hz9 hx9 hL0 hw9 hbU hsU HS1 HS2 hb1 ho1 hs1 hRw hUa hRa
              clear e0 f0 e1 f1 e2 f2 e3 f3 e4 f4
              refine any_runD 11 12 (.bool oo) aw (by kernel_rfl) rfl rfl (by rfl) ?_ (.inr HS9) ?_
              · go_simp
              simp only [Act.put, List.setIfInBounds_toArray, List.set_cons_zero, List.set_cons_succ]
              refine any_done (by kernel_rfl) ?_ _
              refine calm_normal ?_
              clear HS9 HSS hd0
              have c5 : aw.cell? ⟨R5, i, none⟩ = some (.int .i64 (L : Nat)) := (hLa.cell (p := ⟨R5, i, none⟩) (lt_of_cell ca5)).trans ca5
              have BWA : Below w.heap.size w aw := BV1.out.trans ((extV hB.out hLa).mono BV1.out.size)
              go_upto_region 18 with fail
              rcases hcase with ⟨hz, rfl⟩ | ⟨hz, rfl, htt⟩
              · have hz1 : ¬ (0 : Int) < (L : Int) := by omega
                have HSS : Bx aw.drew Ra (.int .i64 tt.kind) (.bool tt.isB) (.string tt.text) (.slice Aa ma ca) (.slice Ba qa da) ∧ aw.drew.cell? ⟨R5, i, none⟩ = some (.int .i64 (L : Nat)) := ⟨Bx.same hXa rfl, c5⟩
                refine region_calm (fun w' => Bx w' Ra (.int .i64 tt.kind) (.bool tt.isB) (.string tt.text) (.slice Aa ma ca) (.slice Ba qa da) ∧ w'.cell? ⟨R5, i, none⟩ = some (.int .i64 (L : Nat))) [0, 9] (by kernel_rfl) ?_
                have rk0 : Below aw.heap.size aw aw.drew := ⟨rfl, rfl, rfl, Nat.le_refl _, fun _ _ => rfl⟩
                refine any_takeD 0 71 (.bool false) rfl rfl (by kernel_rfl) (by kernel_rfl) (by kernel_rfl) (by kernel_rfl) (fun _ _ _ h => h) (by rfl) ?_ HSS ?_
                · intro w' hS
                  obtain ⟨za, zb⟩ := hS
                  have za_0 := za.c0; have za_1 := za.c1; have za_2 := za.c2; have za_3 := za.c3; have za_4 := za.c4
                  go_simp
                simp only [Act.put, List.setIfInBounds_toArray, List.set_cons_zero, List.set_cons_succ]
                refine any_runD 1 72 (.int .i64 (i : Int)) aw.drew (by kernel_rfl) rfl rfl (by rfl) ?_ (.inr HSS) ?_
                · obtain ⟨za, zb⟩ := HSS
                  have za_0 := za.c0; have za_1 := za.c1; have za_2 := za.c2; have za_3 := za.c3; have za_4 := za.c4
                  go_simp
                simp only [Act.put, List.setIfInBounds_toArray, List.set_cons_zero, List.set_cons_succ]
                refine any_runD 2 73 (.pointer (some ⟨R5, i, none⟩)) aw.drew (by kernel_rfl) rfl rfl (by rfl) ?_ (.inr HSS) ?_
                · obtain ⟨za, zb⟩ := HSS
                  have za_0 := za.c0; have za_1 := za.c1; have za_2 := za.c2; have za_3 := za.c3; have za_4 := za.c4
                  go_simp
                simp only [Act.put, List.setIfInBounds_toArray, List.set_cons_zero, List.set_cons_succ]
                refine any_runD 3 74 (.int .i64 (L : Nat)) aw.drew (by kernel_rfl) rfl rfl (by rfl) ?_ (.inr HSS) ?_
                · obtain ⟨za, zb⟩ := HSS
                  have za_0 := za.c0; have za_1 := za.c1; have za_2 := za.c2; have za_3 := za.c3; have za_4 := za.c4
                  go_simp
                simp only [Act.put, List.setIfInBounds_toArray, List.set_cons_zero, List.set_cons_succ]
                refine any_runD 4 75 (.bool false) aw.drew (by kernel_rfl) rfl rfl (by rfl) ?_ (.inr HSS) ?_
                · obtain ⟨za, zb⟩ := HSS
                  have za_0 := za.c0; have za_1 := za.c1; have za_2 := za.c2; have za_3 := za.c3; have za_4 := za.c4
                  go_simp
                simp only [Act.put, List.setIfInBounds_toArray, List.set_cons_zero, List.set_cons_succ]
                refine any_runD 5 76 (.bool false) aw.drew (by kernel_rfl) rfl rfl (by rfl) ?_ (.inr HSS) ?_
                · obtain ⟨za, zb⟩ := HSS
                  have za_0 := za.c0; have za_1 := za.c1; have za_2 := za.c2; have za_3 := za.c3; have za_4 := za.c4
                  go_simp
                simp only [Act.put, List.setIfInBounds_toArray, List.set_cons_zero, List.set_cons_succ]
                refine any_runD 6 77 (.bool false) aw.drew (by kernel_rfl) rfl rfl (by rfl) ?_ (.inr HSS) ?_
                · obtain ⟨za, zb⟩ := HSS
                  have za_0 := za.c0; have za_1 := za.c1; have za_2 := za.c2; have za_3 := za.c3; have za_4 := za.c4
                  go_simp
                simp only [Act.put, List.setIfInBounds_toArray, List.set_cons_zero, List.set_cons_succ]
                refine any_runD 7 78 (.bool false) aw.drew (by kernel_rfl) rfl rfl (by rfl) ?_ (.inr HSS) ?_
                · obtain ⟨za, zb⟩ := HSS
                  have za_0 := za.c0; have za_1 := za.c1; have za_2 := za.c2; have za_3 := za.c3; have za_4 := za.c4
                  go_simp
                simp only [Act.put, List.setIfInBounds_toArray, List.set_cons_zero, List.set_cons_succ]
                refine any_runD 8 79 (.bool false) aw.drew (by kernel_rfl) rfl rfl (by rfl) ?_ (.inr HSS) ?_
                · obtain ⟨za, zb⟩ := HSS
                  have za_0 := za.c0; have za_1 := za.c1; have za_2 := za.c2; have za_3 := za.c3; have za_4 := za.c4
                  go_simp
                simp only [Act.put, List.setIfInBounds_toArray, List.set_cons_zero, List.set_cons_succ]
                refine any_takeU 9 80 rfl rfl (by kernel_rfl) (by kernel_rfl) (by kernel_rfl) (by kernel_rfl) (fun _ _ _ h => h) (by rfl) HSS ?_
                simp only [Act.put, List.setIfInBounds_toArray, List.set_cons_zero, List.set_cons_succ]
                refine any_skip 10 81 (by kernel_rfl) rfl rfl (by rfl) (.inr HSS) ?_
                simp only [Act.put, List.setIfInBounds_toArray, List.set_cons_zero, List.set_cons_succ]
                refine any_skip 11 82 (by kernel_rfl) rfl rfl (by rfl) (.inr HSS) ?_
                simp only [Act.put, List.setIfInBounds_toArray, List.set_cons_zero, List.set_cons_succ]
                refine any_skip 12 83 (by kernel_rfl) rfl rfl (by rfl) (.inr HSS) ?_
                simp only [Act.put, List.setIfInBounds_toArray, List.set_cons_zero, List.set_cons_succ]
                refine any_skip 13 84 (by kernel_rfl) rfl rfl (by rfl) (.inr HSS) ?_
                simp only [Act.put, List.setIfInBounds_toArray, List.set_cons_zero, List.set_cons_succ]
                refine any_skip 14 85 (by kernel_rfl) rfl rfl (by rfl) (.inr HSS) ?_
                simp only [Act.put, List.setIfInBounds_toArray, List.set_cons_zero, List.set_cons_succ]
                refine any_skip 15 86 (by kernel_rfl) rfl rfl (by rfl) (.inr HSS) ?_
                simp only [Act.put, List.setIfInBounds_toArray, List.set_cons_zero, List.set_cons_succ]
                refine any_runD 16 87 (.bool false) aw.drew (by kernel_rfl) rfl rfl (by rfl) ?_ (.inr HSS) ?_
                · obtain ⟨za, zb⟩ := HSS
                  have za_0 := za.c0; have za_1 := za.c1; have za_2 := za.c2; have za_3 := za.c3; have za_4 := za.c4
                  go_simp
                simp only [Act.put, List.setIfInBounds_toArray, List.set_cons_zero, List.set_cons_succ]
                refine any_runD 17 88 (.bool false) aw.drew (by kernel_rfl) rfl rfl (by rfl) ?_ (.inr HSS) ?_
                · obtain ⟨za, zb⟩ := HSS
                  have za_0 := za.c0; have za_1 := za.c1; have za_2 := za.c2; have za_3 := za.c3; have za_4 := za.c4
                  go_simp
                simp only [Act.put, List.setIfInBounds_toArray, List.set_cons_zero, List.set_cons_succ]
                refine any_done (by kernel_rfl) ?_ _
                refine calm_normal ?_
                have LB := Lib.hid (extV hB.out (extV hLa rk0))
                clear HSS hXa hAa hLa c5 BWA hlta hu mv ca5
                go_wp2_with fail
                exact ⟨⟨i + 1, by go_num, by omega, LB⟩, by simp [intOf]; omega⟩
              · have hz1 : (0 : Int) < (L : Int) := by omega
                have HSS : Bx aw.drew Ra (.int .i64 tt.kind) (.bool tt.isB) (.string tt.text) (.slice Aa ma ca) (.slice Ba qa da) ∧ aw.drew.cell? ⟨R5, i, none⟩ = some (.int .i64 (L : Nat)) := ⟨Bx.same hXa rfl, c5⟩
                refine region_calm (fun w' => Bx w' Ra (.int .i64 tt.kind) (.bool tt.isB) (.string tt.text) (.slice Aa ma ca) (.slice Ba qa da) ∧ w'.cell? ⟨R5, i, none⟩ = some (.int .i64 (L : Nat))) [0, 9] (by kernel_rfl) ?_
                have rk0 : Below aw.heap.size aw aw.drew := ⟨rfl, rfl, rfl, Nat.le_refl _, fun _ _ => rfl⟩
                refine any_takeD 0 71 (.bool true) rfl rfl (by kernel_rfl) (by kernel_rfl) (by kernel_rfl) (by kernel_rfl) (fun _ _ _ h => h) (by rfl) ?_ HSS ?_
                · intro w' hS
                  obtain ⟨za, zb⟩ := hS
                  have za_0 := za.c0; have za_1 := za.c1; have za_2 := za.c2; have za_3 := za.c3; have za_4 := za.c4
                  go_simp
                simp only [Act.put, List.setIfInBounds_toArray, List.set_cons_zero, List.set_cons_succ]
                refine any_runD 1 72 (.int .i64 (i : Int)) aw.drew (by kernel_rfl) rfl rfl (by rfl) ?_ (.inr HSS) ?_
                · obtain ⟨za, zb⟩ := HSS
                  have za_0 := za.c0; have za_1 := za.c1; have za_2 := za.c2; have za_3 := za.c3; have za_4 := za.c4
                  go_simp
                simp only [Act.put, List.setIfInBounds_toArray, List.set_cons_zero, List.set_cons_succ]
                refine any_runD 2 73 (.pointer (some ⟨R5, i, none⟩)) aw.drew (by kernel_rfl) rfl rfl (by rfl) ?_ (.inr HSS) ?_
                · obtain ⟨za, zb⟩ := HSS
                  have za_0 := za.c0; have za_1 := za.c1; have za_2 := za.c2; have za_3 := za.c3; have za_4 := za.c4
                  go_simp
                simp only [Act.put, List.setIfInBounds_toArray, List.set_cons_zero, List.set_cons_succ]
                refine any_runD 3 74 (.int .i64 (L : Nat)) aw.drew (by kernel_rfl) rfl rfl (by rfl) ?_ (.inr HSS) ?_
                · obtain ⟨za, zb⟩ := HSS
                  have za_0 := za.c0; have za_1 := za.c1; have za_2 := za.c2; have za_3 := za.c3; have za_4 := za.c4
                  go_simp
                simp only [Act.put, List.setIfInBounds_toArray, List.set_cons_zero, List.set_cons_succ]
                refine any_runD 4 75 (.bool true) aw.drew (by kernel_rfl) rfl rfl (by rfl) ?_ (.inr HSS) ?_
                · obtain ⟨za, zb⟩ := HSS
                  have za_0 := za.c0; have za_1 := za.c1; have za_2 := za.c2; have za_3 := za.c3; have za_4 := za.c4
                  go_simp
                simp only [Act.put, List.setIfInBounds_toArray, List.set_cons_zero, List.set_cons_succ]
                refine any_runD 5 76 (.bool false) aw.drew (by kernel_rfl) rfl rfl (by rfl) ?_ (.inr HSS) ?_
                · obtain ⟨za, zb⟩ := HSS
                  have za_0 := za.c0; have za_1 := za.c1; have za_2 := za.c2; have za_3 := za.c3; have za_4 := za.c4
                  go_simp
                simp only [Act.put, List.setIfInBounds_toArray, List.set_cons_zero, List.set_cons_succ]
                refine any_runD 6 77 (.bool false) aw.drew (by kernel_rfl) rfl rfl (by rfl) ?_ (.inr HSS) ?_
                · obtain ⟨za, zb⟩ := HSS
                  have za_0 := za.c0; have za_1 := za.c1; have za_2 := za.c2; have za_3 := za.c3; have za_4 := za.c4
                  go_simp
                simp only [Act.put, List.setIfInBounds_toArray, List.set_cons_zero, List.set_cons_succ]
                refine any_runD 7 78 (.bool true) aw.drew (by kernel_rfl) rfl rfl (by rfl) ?_ (.inr HSS) ?_
                · obtain ⟨za, zb⟩ := HSS
                  have za_0 := za.c0; have za_1 := za.c1; have za_2 := za.c2; have za_3 := za.c3; have za_4 := za.c4
                  go_simp
                simp only [Act.put, List.setIfInBounds_toArray, List.set_cons_zero, List.set_cons_succ]
                refine any_runD 8 79 (.bool true) aw.drew (by kernel_rfl) rfl rfl (by rfl) ?_ (.inr HSS) ?_
                · obtain ⟨za, zb⟩ := HSS
                  have za_0 := za.c0; have za_1 := za.c1; have za_2 := za.c2; have za_3 := za.c3; have za_4 := za.c4
                  go_simp
                simp only [Act.put, List.setIfInBounds_toArray, List.set_cons_zero, List.set_cons_succ]
                refine any_takeD 9 80 (.agg #[.int .i64 tt.kind, .bool tt.isB, .string tt.text, .slice Aa ma ca, .slice Ba qa da]) rfl rfl (by kernel_rfl) (by kernel_rfl) (by kernel_rfl) (by kernel_rfl) (fun _ _ _ h => h) (by rfl) ?_ HSS ?_
                · intro w' hS
                  obtain ⟨za, zb⟩ := hS
                  have za_0 := za.c0; have za_1 := za.c1; have za_2 := za.c2; have za_3 := za.c3; have za_4 := za.c4
                  go_simp
                simp only [Act.put, List.setIfInBounds_toArray, List.set_cons_zero, List.set_cons_succ]
                refine any_runD 10 81 (.int .i64 (i : Int)) aw.drew (by kernel_rfl) rfl rfl (by rfl) ?_ (.inr HSS) ?_
                · obtain ⟨za, zb⟩ := HSS
                  have za_0 := za.c0; have za_1 := za.c1; have za_2 := za.c2; have za_3 := za.c3; have za_4 := za.c4
                  go_simp
                simp only [Act.put, List.setIfInBounds_toArray, List.set_cons_zero, List.set_cons_succ]
                refine any_runD 11 82 (.pointer (some ⟨R5, i, none⟩)) aw.drew (by kernel_rfl) rfl rfl (by rfl) ?_ (.inr HSS) ?_
                · obtain ⟨za, zb⟩ := HSS
                  have za_0 := za.c0; have za_1 := za.c1; have za_2 := za.c2; have za_3 := za.c3; have za_4 := za.c4
                  go_simp
                simp only [Act.put, List.setIfInBounds_toArray, List.set_cons_zero, List.set_cons_succ]
                refine any_runD 12 83 (.int .i64 (L : Nat)) aw.drew (by kernel_rfl) rfl rfl (by rfl) ?_ (.inr HSS) ?_
                · obtain ⟨za, zb⟩ := HSS
                  have za_0 := za.c0; have za_1 := za.c1; have za_2 := za.c2; have za_3 := za.c3; have za_4 := za.c4
                  go_simp
                simp only [Act.put, List.setIfInBounds_toArray, List.set_cons_zero, List.set_cons_succ]
                refine any_callV 13 84 (by kernel_rfl) rfl rfl (by rfl) (fn := 30) (args := #[.int .i64 (L : Nat)]) ?_ (number_any (L : Nat) (by omega) (by omega) aw.drew (TB.out aw.drew (extV BWA rk0))) ?_
                · go_simp
                rintro e r1 ⟨rfl, hr1⟩
                have rk1 := extV rk0 hr1
                have HSS : Bx r1 Ra (.int .i64 tt.kind) (.bool tt.isB) (.string tt.text) (.slice Aa ma ca) (.slice Ba qa da) ∧ r1.cell? ⟨R5, i, none⟩ = some (.int .i64 (L : Nat)) := ⟨HSS.1.below hr1 HSS.1.lt, (hr1.cell (p := ⟨R5, i, none⟩) (lt_of_cell HSS.2)).trans HSS.2⟩
                refine ⟨_, rfl, .inr HSS, ?_⟩
                simp only [Act.put, List.setIfInBounds_toArray, List.set_cons_zero, List.set_cons_succ]
                refine any_callV 14 85 (by kernel_rfl) rfl rfl (by rfl) (fn := 22) (args := #[.agg #[.int .i64 tt.kind, .bool tt.isB, .string tt.text, .slice Aa ma ca, .slice Ba qa da], .agg #[.int .i64 2, .bool false, .string (numT (L : Nat)), .slice none 0 0, .slice none 0 0]]) ?_ (equal_any tt (num (L : Nat)) _ _ r1 (Vl.up rk1 _ (hAa.vl _)) (vl_num r1 (by omega) (by omega))) ?_
                · go_simp
                rintro e r2 ⟨rfl, hr2⟩
                have rk2 := extV rk1 hr2
                rw [show alk tt (num (L : Nat)) = true by rw [htt]; exact alk_self _]
                have HSS : Bx r2 Ra (.int .i64 tt.kind) (.bool tt.isB) (.string tt.text) (.slice Aa ma ca) (.slice Ba qa da) ∧ r2.cell? ⟨R5, i, none⟩ = some (.int .i64 (L : Nat)) := ⟨HSS.1.below hr2 HSS.1.lt, (hr2.cell (p := ⟨R5, i, none⟩) (lt_of_cell HSS.2)).trans HSS.2⟩
                refine ⟨_, rfl, .inr HSS, ?_⟩
                simp only [Act.put, List.setIfInBounds_toArray, List.set_cons_zero, List.set_cons_succ]
                refine any_runD 15 86 (.bool false) r2 (by kernel_rfl) rfl rfl (by rfl) ?_ (.inr HSS) ?_
                · obtain ⟨za, zb⟩ := HSS
                  have za_0 := za.c0; have za_1 := za.c1; have za_2 := za.c2; have za_3 := za.c3; have za_4 := za.c4
                  go_simp
                simp only [Act.put, List.setIfInBounds_toArray, List.set_cons_zero, List.set_cons_succ]
                refine any_runD 16 87 (.bool false) r2 (by kernel_rfl) rfl rfl (by rfl) ?_ (.inr HSS) ?_
                · obtain ⟨za, zb⟩ := HSS
                  have za_0 := za.c0; have za_1 := za.c1; have za_2 := za.c2; have za_3 := za.c3; have za_4 := za.c4
                  go_simp
                simp only [Act.put, List.setIfInBounds_toArray, List.set_cons_zero, List.set_cons_succ]
                refine any_runD 17 88 (.bool false) r2 (by kernel_rfl) rfl rfl (by rfl) ?_ (.inr HSS) ?_
                · obtain ⟨za, zb⟩ := HSS
                  have za_0 := za.c0; have za_1 := za.c1; have za_2 := za.c2; have za_3 := za.c3; have za_4 := za.c4
                  go_simp
                simp only [Act.put, List.setIfInBounds_toArray, List.set_cons_zero, List.set_cons_succ]
                refine any_done (by kernel_rfl) ?_ _
                refine calm_normal ?_
                have LB := Lib.hid (extV hB.out (extV hLa rk2))
                clear HSS hXa hAa hLa c5 BWA hlta hu mv ca5
                go_wp2_with fail
                exact ⟨⟨i + 1, by go_num, by omega, LB⟩, by simp [intOf]; omega⟩
          · obtain rfl : i = 8 := by omega
            have BQ := Lib.hid (BV1.out.trans (hB.out.mono BV1.out.size))
            go_wp2_with fail
            refine (awake_any _ (TB.out _ BQ.out)).mono ?_
            rintro e wz ⟨rfl, hbz⟩
            have BZ := Lib.hid (extV BQ.out hbz)
            clear hbz
            go_wp2_with fail
            go_ret
            exact ⟨rfl, BZ.out⟩
    · have i1 : ¬ (i : Int) < (n0 : Int) := by omega
      obtain ⟨m, rfl⟩ : ∃ m, m = i := ⟨i, rfl⟩
      obtain ⟨B3, d3, h3⟩ := own_form hL.out.n3
      obtain ⟨A4, c4, h4⟩ := own_form hL.out.n4
      subst h3 h4
      have hnm := nm_of_own hL.out.n3 (by omega)
      have hvl := (vl_nums hL.out.n4 (by omega)).2
      have hml : m ≤ ks.length := by have := HKL.out; omega
      have CM := Lib.hid (vmake_any _ _ _ _ _ _ _ _ wr hvl hnm)
      have HML := Lib.hid hml
      clear hnm hvl hml
      go_wp2_with fail
      refine CM.out.mono ?_
      rintro e w5 ⟨hb5, hm5⟩
      rw [if_pos (by rw [nmsOf_length HML.out, nums_length])] at hm5
      obtain ⟨A5, m5, c5, B5, q5, d5, rfl, ho5⟩ := hm5
      have O5 := Lib.hid (ho5.vl _)
      have HB5 := Lib.hid hb5
      clear hb5 ho5
      obtain ⟨R1, hR1⟩ : ∃ R, w5.heap.size = R := ⟨_, rfl⟩
      obtain ⟨U1, hU1⟩ : ∃ U, w5.alloc (.cells #[.int .i64 0, .bool false, .string ⟨#[]⟩, .slice none 0 0, .slice none 0 0] 25) = U := ⟨_, rfl⟩
      obtain ⟨nb, nb2⟩ := newbox hR1 hU1
      obtain ⟨nb3, nb4, nb5⟩ := nb2 (.int .i64 5) (.bool false) (.string ⟨#[]⟩) (.slice A5 m5 c5) (.slice B5 q5 d5)
      have e0 := nb.c0; have e1 := nb.c1; have e2 := nb.c2; have e3 := nb.c3; have e4 := nb.c4
      have f0 := nb.fz 0; have f1 := nb.fz 1; have f2 := nb.fz 2; have f3 := nb.fz 3; have f4 := nb.fz 4
      obtain ⟨V1, hV1⟩ : ∃ V, put5 U1 R1 (.int .i64 5) (.bool false) (.string ⟨#[]⟩) (.slice A5 m5 c5) (.slice B5 q5 d5) = V := ⟨_, rfl⟩
      rw [hV1] at nb3 nb4 nb5
      have HV1 := Lib.hid hV1
      have HR1 := Lib.hid hR1
      have N1 := Lib.hid nb3
      have NB1 := Lib.hid nb4
      have NS1 := Lib.hid nb5
      clear hV1 nb nb2 nb3 nb4 nb5
      go_upto_region 12 with fail
      rw [show ((((U1.setCell ⟨R1, 0, none⟩ (.int .i64 5)).setCell ⟨R1, 1, none⟩ (.bool false)).setCell ⟨R1, 2, none⟩ (.string ⟨#[]⟩)).setCell ⟨R1, 3, none⟩ (.slice A5 m5 c5)).setCell ⟨R1, 4, none⟩ (.slice B5 q5 d5) = V1 from HV1.out]
      clear e0 e1 e2 e3 e4 f0 f1 f2 f3 f4 hU1
      have hbv := extV HB5.out NB1.out
      have BV1 := Lib.hid (hL.out.up.trans (hbv.mono hL.out.up.size))
      have ARR : Hid (∀ k, k < 8 → V1.cell? ⟨R5, k, none⟩ = some (.int .i64 (lastN ks m k : Nat))) := Lib.hid (fun k hk => (hbv.cell (p := ⟨R5, k, none⟩) (lt_of_cell (hL.out.arr k hk))).trans (hL.out.arr k hk))
      have ALL : Hid (∀ (k : Nat) (s : ByteArray), nm8[k]? = some s → V1.cell? ⟨G, k, none⟩ = some (.string s)) := Lib.hid (fun k s hs => (hbv.cell (p := ⟨G, k, none⟩) (lt_of_cell (hL.out.all k s hs))).trans (hL.out.all k s hs))
      have OV1 := Lib.hid (Vl.up NB1.out _ O5.out)
      clear hbv hR1 O5
      go_wp2_with fail
      go_loopw [10] (fun iv wq => ∃ i : Nat, iv = .int .i64 i ∧ i ≤ 8 ∧ Hid (Below V1.heap.size V1 wq)) (fun iv _ => 8 - (intOf iv).toNat)
      case atStart => exact ⟨0, rfl, by omega, Lib.hid (Below.refl _ _)⟩
      case round =>
        obtain ⟨i, rfl, hi8, hB⟩ := hrel
        obtain ⟨wq, rfl⟩ : ∃ x, x = wr := ⟨wr, rfl⟩
        by_cases hin8 : i < 8
        · have i8 : (i : Int) < 8 := by omega
          obtain ⟨s, hs⟩ : ∃ s, nm8[i]? = some s := ⟨_, List.getElem?_eq_getElem (show i < nm8.length from hin8)⟩
          have mv0 := ALL.out i s hs
          have mv : wq.cell? ⟨G, i, none⟩ = some (.string s) := (hB.out.cell (p := ⟨G, i, none⟩) (lt_of_cell mv0)).trans mv0
          have ca0 := ARR.out i hin8
          have ca5 : wq.cell? ⟨R5, i, none⟩ = some (.int .i64 (lastN ks m i : Nat)) := (hB.out.cell (p := ⟨R5, i, none⟩) (lt_of_cell ca0)).trans ca0
          have hu := N1.out.below hB.out N1.out.lt
          have hvw := Vl.up hB.out _ OV1.out
          have hget := get_last HK8.out HML.out hin8 hs
          have hle := lastN_le ks i m
          obtain ⟨L, hLL⟩ : ∃ L, lastN ks m i = L := ⟨_, rfl⟩
          rw [hLL] at ca5 hget hle
          obtain ⟨tt, htt0⟩ : ∃ t, (getT (.mk 5 false ⟨#[]⟩ (nums m) (nmsOf ks m)) s).getD zeroT = t := ⟨_, rfl⟩
          obtain ⟨oo, hoo0⟩ : ∃ o, (getT (.mk 5 false ⟨#[]⟩ (nums m) (nmsOf ks m)) s).isSome = o := ⟨_, rfl⟩
          have CG : Hid (∀ w', Below wq.heap.size wq w' → Calls Tryd.prog 24 #[.agg #[.int .i64 5, .bool false, .string ⟨#[]⟩, .slice A5 m5 c5, .slice B5 q5 d5], .string s] w' (GtR tt oo w')) := Lib.hid (fun w' h => (vget_any (.mk 5 false ⟨#[]⟩ (nums m) (nmsOf ks m)) _ s w' (Vl.up h _ hvw)).mono (fun e w'' hh => by rw [← htt0, ← hoo0]; exact gtQ hh))
          have hcase : (L = 0 ∧ oo = false) ∨ (0 < L ∧ oo = true ∧ tt = num (L : Nat)) := by
            rw [hget] at htt0 hoo0
            by_cases hz : L = 0
            · rw [if_pos hz] at hoo0
              exact .inl ⟨hz, hoo0.symm⟩
            · rw [if_neg hz] at htt0 hoo0
              exact .inr ⟨by omega, hoo0.symm, htt0.symm⟩
          clear htt0 hoo0 hs mv0 ca0 hvw hget hLL
          go_upto_region 17 with fail
          have HSS : Bx wq.drew R1 (.int .i64 5) (.bool false) (.string ⟨#[]⟩) (.slice A5 m5 c5) (.slice B5 q5 d5) ∧ wq.drew.cell? ⟨G, i, none⟩ = some (.string s) := ⟨Bx.same hu rfl, mv⟩
          refine region_calm (fun w' => Bx w' R1 (.int .i64 5) (.bool false) (.string ⟨#[]⟩) (.slice A5 m5 c5) (.slice B5 q5 d5) ∧ w'.cell? ⟨G, i, none⟩ = some (.string s)) [0, 1, 2, 3, 4, 6, 7, 8] (by kernel_rfl) ?_
          have hd0 : Below wq.heap.size wq wq.drew := ⟨rfl, rfl, rfl, Nat.le_refl _, fun _ _ => rfl⟩
          refine any_takeD 0 63 (.agg #[.int .i64 5, .bool false, .string ⟨#[]⟩, .slice A5 m5 c5, .slice B5 q5 d5]) rfl rfl (by kernel_rfl) (by kernel_rfl) (by kernel_rfl) (by kernel_rfl) (fun _ _ _ h => h) (by rfl) ?_ HSS ?_
          · rintro w' ⟨hS, hc⟩
            have z0 := hS.c0; have z1 := hS.c1; have z2 := hS.c2; have z3 := hS.c3; have z4 := hS.c4
            go_simp
          simp only [Act.put, List.setIfInBounds_toArray, List.set_cons_zero, List.set_cons_succ]
          refine any_takeD 1 64 (.slice (some ⟨G, 0, none⟩) 8 8) rfl rfl (by kernel_rfl) (by kernel_rfl) (by kernel_rfl) (by kernel_rfl) (fun _ _ _ h => h) (by rfl) ?_ HSS ?_
          · rintro w' ⟨hS, hc⟩
            have z0 := hS.c0; have z1 := hS.c1; have z2 := hS.c2; have z3 := hS.c3; have z4 := hS.c4
            go_simp
          simp only [Act.put, List.setIfInBounds_toArray, List.set_cons_zero, List.set_cons_succ]
          refine any_takeD 2 65 (.int .i64 (i : Int)) rfl rfl (by kernel_rfl) (by kernel_rfl) (by kernel_rfl) (by kernel_rfl) (fun _ _ _ h => h) (by rfl) ?_ HSS ?_
          · rintro w' ⟨hS, hc⟩
            have z0 := hS.c0; have z1 := hS.c1; have z2 := hS.c2; have z3 := hS.c3; have z4 := hS.c4
            go_simp
          simp only [Act.put, List.setIfInBounds_toArray, List.set_cons_zero, List.set_cons_succ]
          refine any_takeD 3 66 (.pointer (some ⟨G, i, none⟩)) rfl rfl (by kernel_rfl) (by kernel_rfl) (by kernel_rfl) (by kernel_rfl) (fun _ _ _ h => h) (by rfl) ?_ HSS ?_
          · rintro w' ⟨hS, hc⟩
            have z0 := hS.c0; have z1 := hS.c1; have z2 := hS.c2; have z3 := hS.c3; have z4 := hS.c4
            go_simp
          simp only [Act.put, List.setIfInBounds_toArray, List.set_cons_zero, List.set_cons_succ]
          refine any_takeD 4 67 (.string s) rfl rfl (by kernel_rfl) (by kernel_rfl) (by kernel_rfl) (by kernel_rfl) (fun _ _ _ h => h) (by rfl) ?_ HSS ?_
          · rintro w' ⟨hS, hc⟩
            have z0 := hS.c0; have z1 := hS.c1; have z2 := hS.c2; have z3 := hS.c3; have z4 := hS.c4
            go_simp
          simp only [Act.put, List.setIfInBounds_toArray, List.set_cons_zero, List.set_cons_succ]
          refine any_two 5 9 (by kernel_rfl) rfl rfl (by rfl) (by rfl) ?_ ?_
          · refine st_call 5 68 rfl (fn := 24) (args := #[.agg #[.int .i64 5, .bool false, .string ⟨#[]⟩, .slice A5 m5 c5, .slice B5 q5 d5], .string s]) ?_ (CG.out wq.drew hd0) ?_
            · go_simp
            rintro e w1 ⟨Aa, ma, ca, Ba, qa, da, rfl, hb1, ho1⟩
            have HS1 : Bx w1 R1 (.int .i64 5) (.bool false) (.string ⟨#[]⟩) (.slice A5 m5 c5) (.slice B5 q5 d5) ∧ w1.cell? ⟨G, i, none⟩ = some (.string s) := ⟨HSS.1.below hb1 HSS.1.lt, (hb1.cell (p := ⟨G, i, none⟩) (lt_of_cell HSS.2)).trans HSS.2⟩
            refine ⟨_, rfl, .inr HS1, ?_⟩
            simp only [Act.put, List.setIfInBounds_toArray, List.set_cons_zero, List.set_cons_succ]
            refine any_takeD 6 62 (.tuple #[.agg #[.int .i64 (tt).kind, .bool (tt).isB, .string (tt).text, .slice Aa ma ca, .slice Ba qa da], .bool oo]) rfl rfl (by kernel_rfl) (by kernel_rfl) (by kernel_rfl) (by kernel_rfl) (fun _ _ _ h => h) (by rfl) ?_ HS1 ?_
            · rintro w' ⟨hS, hc⟩
              have z0 := hS.c0; have z1 := hS.c1; have z2 := hS.c2; have z3 := hS.c3; have z4 := hS.c4
              go_simp
            simp only [Act.put, List.setIfInBounds_toArray, List.set_cons_zero, List.set_cons_succ]
            refine any_takeD 7 69 (.agg #[.int .i64 (tt).kind, .bool (tt).isB, .string (tt).text, .slice Aa ma ca, .slice Ba qa da]) rfl rfl (by kernel_rfl) (by kernel_rfl) (by kernel_rfl) (by kernel_rfl) (fun _ _ _ h => h) (by rfl) ?_ HS1 ?_
            · rintro w' ⟨hS, hc⟩
              have z0 := hS.c0; have z1 := hS.c1; have z2 := hS.c2; have z3 := hS.c3; have z4 := hS.c4
              go_simp
            simp only [Act.put, List.setIfInBounds_toArray, List.set_cons_zero, List.set_cons_succ]
            refine any_takeD 8 70 (.bool oo) rfl rfl (by kernel_rfl) (by kernel_rfl) (by kernel_rfl) (by kernel_rfl) (fun _ _ _ h => h) (by rfl) ?_ HS1 ?_
            · rintro w' ⟨hS, hc⟩
              have z0 := hS.c0; have z1 := hS.c1; have z2 := hS.c2; have z3 := hS.c3; have z4 := hS.c4
              go_simp
            simp only [Act.put, List.setIfInBounds_toArray, List.set_cons_zero, List.set_cons_succ]
            obtain ⟨Ra, hRa⟩ : ∃ R, w1.heap.size = R := ⟨_, rfl⟩
            obtain ⟨Ua, hUa⟩ : ∃ U, w1.alloc (.cells #[.int .i64 0, .bool false, .string ⟨#[]⟩, .slice none 0 0, .slice none 0 0] 25) = U := ⟨_, rfl⟩
            obtain ⟨nb, nb2⟩ := newbox hRa hUa
            have hbU : Below w1.heap.size w1 Ua := by rw [← hUa]; exact below_allocV w1 _
            obtain ⟨nb3, nb4, nb5⟩ := nb2 (.int .i64 (tt).kind) (.bool (tt).isB) (.string (tt).text) (.slice Aa ma ca) (.slice Ba qa da)
            have HS2 : Bx Ua R1 (.int .i64 5) (.bool false) (.string ⟨#[]⟩) (.slice A5 m5 c5) (.slice B5 q5 d5) ∧ Ua.cell? ⟨G, i, none⟩ = some (.string s) := ⟨HS1.1.below hbU HS1.1.lt, (hbU.cell (p := ⟨G, i, none⟩) (lt_of_cell HS1.2)).trans HS1.2⟩
            refine any_runD 9 11 (.pointer (some ⟨Ra, 0, none⟩)) Ua (by kernel_rfl) rfl rfl (by rfl) ?_ (.inr HS2) ?_
            · rw [← hUa, ← hRa]; go_simp
            simp only [Act.put, List.setIfInBounds_toArray, List.set_cons_zero, List.set_cons_succ]
            have e0 := nb.c0; have f0 := nb.fz 0; have e1 := nb.c1; have f1 := nb.fz 1; have e2 := nb.c2; have f2 := nb.fz 2; have e3 := nb.c3; have f3 := nb.fz 3; have e4 := nb.c4; have f4 := nb.fz 4
            have hq9 : put5 Ua Ra (.int .i64 (tt).kind) (.bool (tt).isB) (.string (tt).text) (.slice Aa ma ca) (.slice Ba qa da) = ((((Ua.setCell ⟨Ra, 0, none⟩ (.int .i64 (tt).kind)).setCell ⟨Ra, 1, none⟩ (.bool (tt).isB)).setCell ⟨Ra, 2, none⟩ (.string (tt).text)).setCell ⟨Ra, 3, none⟩ (.slice Aa ma ca)).setCell ⟨Ra, 4, none⟩ (.slice Ba qa da) := rfl
            have HS9 : Bx (put5 Ua Ra (.int .i64 (tt).kind) (.bool (tt).isB) (.string (tt).text) (.slice Aa ma ca) (.slice Ba qa da)) R1 (.int .i64 5) (.bool false) (.string ⟨#[]⟩) (.slice A5 m5 c5) (.slice B5 q5 d5) ∧ (put5 Ua Ra (.int .i64 (tt).kind) (.bool (tt).isB) (.string (tt).text) (.slice Aa ma ca) (.slice Ba qa da)).cell? ⟨G, i, none⟩ = some (.string s) := ⟨HS1.1.below nb4 HS1.1.lt, (nb4.cell (p := ⟨G, i, none⟩) (lt_of_cell HS1.2)).trans HS1.2⟩
            rw [hq9] at HS9
            refine any_run0 10 (((((Ua.setCell ⟨Ra, 0, none⟩ (.int .i64 (tt).kind)).setCell ⟨Ra, 1, none⟩ (.bool (tt).isB)).setCell ⟨Ra, 2, none⟩ (.string (tt).text)).setCell ⟨Ra, 3, none⟩ (.slice Aa ma ca)).setCell ⟨Ra, 4, none⟩ (.slice Ba qa da)) (by kernel_rfl) rfl rfl (by rfl) ?_ (.inr HS9) ?_
            · go_simp
            rw [← hq9] at HS9 ⊢
            clear hq9
            obtain ⟨aw, hw9⟩ : ∃ W, put5 Ua Ra (.int .i64 (tt).kind) (.bool (tt).isB) (.string (tt).text) (.slice Aa ma ca) (.slice Ba qa da) = W := ⟨_, rfl⟩
            rw [hw9] at nb3 nb4 nb5 HS9 ⊢
            have hXa := nb3
            have hLa : Below wq.heap.size wq aw := extV hd0 (extV hb1 nb4)
            have hs1 := hb1.size
            have hs0 : wq.drew.heap.size = wq.heap.size := rfl
            have hAa := (ho1.kept _ (fun x hx => nb4.block x hx.2)).mono (T := fun x => wq.heap.size ≤ x ∧ x < aw.heap.size ∧ x ≠ Ra) (fun x hx => ⟨hx.1, by have := hx.2; omega, by have := hx.2; omega⟩)
            have hlta : Ra < aw.heap.size ∧ wq.heap.size ≤ Ra := ⟨by omega, by omega⟩
            clear nb nb2 nb3 nb4 nb5 hw9 hbU HS1 HS2 hb1 ho1 hs1 hs0 hUa hRa
            clear e0 f0 e1 f1 e2 f2 e3 f3 e4 f4
            refine any_runD 11 12 (.bool oo) aw (by kernel_rfl) rfl rfl (by rfl) ?_ (.inr HS9) ?_
            · go_simp
            simp only [Act.put, List.setIfInBounds_toArray, List.set_cons_zero, List.set_cons_succ]
            refine any_done (by kernel_rfl) ?_ _
            refine calm_normal ?_
            clear HS9 HSS hd0
            have c5 : aw.cell? ⟨R5, i, none⟩ = some (.int .i64 (L : Nat)) := (hLa.cell (p := ⟨R5, i, none⟩) (lt_of_cell ca5)).trans ca5
            have BWA : Below w.heap.size w aw := BV1.out.trans ((extV hB.out hLa).mono BV1.out.size)
            go_upto_region 18 with fail
            rcases hcase with ⟨hz, rfl⟩ | ⟨hz, rfl, htt⟩
            · have hz1 : ¬ (0 : Int) < (L : Int) := by omega
              have HSS : Bx aw.drew Ra (.int .i64 tt.kind) (.bool tt.isB) (.string tt.text) (.slice Aa ma ca) (.slice Ba qa da) ∧ aw.drew.cell? ⟨R5, i, none⟩ = some (.int .i64 (L : Nat)) := ⟨Bx.same hXa rfl, c5⟩
              refine region_calm (fun w' => Bx w' Ra (.int .i64 tt.kind) (.bool tt.isB) (.string tt.text) (.slice Aa ma ca) (.slice Ba qa da) ∧ w'.cell? ⟨R5, i, none⟩ = some (.int .i64 (L : Nat))) [0, 9] (by kernel_rfl) ?_
              have rk0 : Below aw.heap.size aw aw.drew := ⟨rfl, rfl, rfl, Nat.le_refl _, fun _ _ => rfl⟩
              refine any_takeD 0 71 (.bool false) rfl rfl (by kernel_rfl) (by kernel_rfl) (by kernel_rfl) (by kernel_rfl) (fun _ _ _ h => h) (by rfl) ?_ HSS ?_
              · intro w' hS
                obtain ⟨za, zb⟩ := hS
                have za_0 := za.c0; have za_1 := za.c1; have za_2 := za.c2; have za_3 := za.c3; have za_4 := za.c4
                go_simp
              simp only [Act.put, List.setIfInBounds_toArray, List.set_cons_zero, List.set_cons_succ]
              refine any_runD 1 72 (.int .i64 (i : Int)) aw.drew (by kernel_rfl) rfl rfl (by rfl) ?_ (.inr HSS) ?_
              · obtain ⟨za, zb⟩ := HSS
                have za_0 := za.c0; have za_1 := za.c1; have za_2 := za.c2; have za_3 := za.c3; have za_4 := za.c4
                go_simp
              simp only [Act.put, List.setIfInBounds_toArray, List.set_cons_zero, List.set_cons_succ]
              refine any_runD 2 73 (.pointer (some ⟨R5, i, none⟩)) aw.drew (by kernel_rfl) rfl rfl (by rfl) ?_ (.inr HSS) ?_
              · obtain ⟨za, zb⟩ := HSS
                have za_0 := za.c0; have za_1 := za.c1; have za_2 := za.c2; have za_3 := za.c3; have za_4 := za.c4
                go_simp
              simp only [Act.put, List.setIfInBounds_toArray, List.set_cons_zero, List.set_cons_succ]
              refine any_runD 3 74 (.int .i64 (L : Nat)) aw.drew (by kernel_rfl) rfl rfl (by rfl) ?_ (.inr HSS) ?_
              · obtain ⟨za, zb⟩ := HSS
                have za_0 := za.c0; have za_1 := za.c1; have za_2 := za.c2; have za_3 := za.c3; have za_4 := za.c4
                go_simp
              simp only [Act.put, List.setIfInBounds_toArray, List.set_cons_zero, List.set_cons_succ]
              refine any_runD 4 75 (.bool false) aw.drew (by kernel_rfl) rfl rfl (by rfl) ?_ (.inr HSS) ?_
              · obtain ⟨za, zb⟩ := HSS
                have za_0 := za.c0; have za_1 := za.c1; have za_2 := za.c2; have za_3 := za.c3; have za_4 := za.c4
                go_simp
              simp only [Act.put, List.setIfInBounds_toArray, List.set_cons_zero, List.set_cons_succ]
              refine any_runD 5 76 (.bool false) aw.drew (by kernel_rfl) rfl rfl (by rfl) ?_ (.inr HSS) ?_
              · obtain ⟨za, zb⟩ := HSS
                have za_0 := za.c0; have za_1 := za.c1; have za_2 := za.c2; have za_3 := za.c3; have za_4 := za.c4
                go_simp
              simp only [Act.put, List.setIfInBounds_toArray, List.set_cons_zero, List.set_cons_succ]
              refine any_runD 6 77 (.bool false) aw.drew (by kernel_rfl) rfl rfl (by rfl) ?_ (.inr HSS) ?_
              · obtain ⟨za, zb⟩ := HSS
                have za_0 := za.c0; have za_1 := za.c1; have za_2 := za.c2; have za_3 := za.c3; have za_4 := za.c4
                go_simp
              simp only [Act.put, List.setIfInBounds_toArray, List.set_cons_zero, List.set_cons_succ]
              refine any_runD 7 78 (.bool false) aw.drew (by kernel_rfl) rfl rfl (by rfl) ?_ (.inr HSS) ?_
              · obtain ⟨za, zb⟩ := HSS
                have za_0 := za.c0; have za_1 := za.c1; have za_2 := za.c2; have za_3 := za.c3; have za_4 := za.c4
                go_simp
              simp only [Act.put, List.setIfInBounds_toArray, List.set_cons_zero, List.set_cons_succ]
              refine any_runD 8 79 (.bool false) aw.drew (by kernel_rfl) rfl rfl (by rfl) ?_ (.inr HSS) ?_
              · obtain ⟨za, zb⟩ := HSS
                have za_0 := za.c0; have za_1 := za.c1; have za_2 := za.c2; have za_3 := za.c3; have za_4 := za.c4
                go_simp
              simp only [Act.put, List.setIfInBounds_toArray, List.set_cons_zero, List.set_cons_succ]
              refine any_takeU 9 80 rfl rfl (by kernel_rfl) (by kernel_rfl) (by kernel_rfl) (by kernel_rfl) (fun _ _ _ h => h) (by rfl) HSS ?_
              simp only [Act.put, List.setIfInBounds_toArray, List.set_cons_zero, List.set_cons_succ]
              refine any_skip 10 81 (by kernel_rfl) rfl rfl (by rfl) (.inr HSS) ?_
              simp only [Act.put, List.setIfInBounds_toArray, List.set_cons_zero, List.set_cons_succ]
              refine any_skip 11 82 (by kernel_rfl) rfl rfl (by rfl) (.inr HSS) ?_
              simp only [Act.put, List.setIfInBounds_toArray, List.set_cons_zero, List.set_cons_succ]
              refine any_skip 12 83 (by kernel_rfl) rfl rfl (by rfl) (.inr HSS) ?_
              simp only [Act.put, List.setIfInBounds_toArray, List.set_cons_zero, List.set_cons_succ]
              refine any_skip 13 84 (by kernel_rfl) rfl rfl (by rfl) (.inr HSS) ?_
              simp only [Act.put, List.setIfInBounds_toArray, List.set_cons_zero, List.set_cons_succ]
              refine any_skip 14 85 (by kernel_rfl) rfl rfl (by rfl) (.inr HSS) ?_
              simp only [Act.put, List.setIfInBounds_toArray, List.set_cons_zero, List.set_cons_succ]
              refine any_skip 15 86 (by kernel_rfl) rfl rfl (by rfl) (.inr HSS) ?_
              simp only [Act.put, List.setIfInBounds_toArray, List.set_cons_zero, List.set_cons_succ]
              refine any_runD 16 87 (.bool false) aw.drew (by kernel_rfl) rfl rfl (by rfl) ?_ (.inr HSS) ?_
              · obtain ⟨za, zb⟩ := HSS
                have za_0 := za.c0; have za_1 := za.c1; have za_2 := za.c2; have za_3 := za.c3; have za_4 := za.c4
                go_simp
              simp only [Act.put, List.setIfInBounds_toArray, List.set_cons_zero, List.set_cons_succ]
              refine any_runD 17 88 (.bool false) aw.drew (by kernel_rfl) rfl rfl (by rfl) ?_ (.inr HSS) ?_
              · obtain ⟨za, zb⟩ := HSS
                have za_0 := za.c0; have za_1 := za.c1; have za_2 := za.c2; have za_3 := za.c3; have za_4 := za.c4
                go_simp
              simp only [Act.put, List.setIfInBounds_toArray, List.set_cons_zero, List.set_cons_succ]
              refine any_done (by kernel_rfl) ?_ _
              refine calm_normal ?_
              have LB := Lib.hid (extV hB.out (extV hLa rk0))
              clear HSS hXa hAa hLa c5 BWA hlta hu mv ca5
              go_wp2_with fail
              exact ⟨⟨i + 1, by go_num, by omega, LB⟩, by simp [intOf]; omega⟩
            · have hz1 : (0 : Int) < (L : Int) := by omega
              have HSS : Bx aw.drew Ra (.int .i64 tt.kind) (.bool tt.isB) (.string tt.text) (.slice Aa ma ca) (.slice Ba qa da) ∧ aw.drew.cell? ⟨R5, i, none⟩ = some (.int .i64 (L : Nat)) := ⟨Bx.same hXa rfl, c5⟩
              refine region_calm (fun w' => Bx w' Ra (.int .i64 tt.kind) (.bool tt.isB) (.string tt.text) (.slice Aa ma ca) (.slice Ba qa da) ∧ w'.cell? ⟨R5, i, none⟩ = some (.int .i64 (L : Nat))) [0, 9] (by kernel_rfl) ?_
              have rk0 : Below aw.heap.size aw aw.drew := ⟨rfl, rfl, rfl, Nat.le_refl _, fun _ _ => rfl⟩
              refine any_takeD 0 71 (.bool true) rfl rfl (by kernel_rfl) (by kernel_rfl) (by kernel_rfl) (by kernel_rfl) (fun _ _ _ h => h) (by rfl) ?_ HSS ?_
              · intro w' hS
                obtain ⟨za, zb⟩ := hS
                have za_0 := za.c0; have za_1 := za.c1; have za_2 := za.c2; have za_3 := za.c3; have za_4 := za.c4
                go_simp
              simp only [Act.put, List.setIfInBounds_toArray, List.set_cons_zero, List.set_cons_succ]
              refine any_runD 1 72 (.int .i64 (i : Int)) aw.drew (by kernel_rfl) rfl rfl (by rfl) ?_ (.inr HSS) ?_
              · obtain ⟨za, zb⟩ := HSS
                have za_0 := za.c0; have za_1 := za.c1; have za_2 := za.c2; have za_3 := za.c3; have za_4 := za.c4
                go_simp
              simp only [Act.put, List.setIfInBounds_toArray, List.set_cons_zero, List.set_cons_succ]
              refine any_runD 2 73 (.pointer (some ⟨R5, i, none⟩)) aw.drew (by kernel_rfl) rfl rfl (by rfl) ?_ (.inr HSS) ?_
              · obtain ⟨za, zb⟩ := HSS
                have za_0 := za.c0; have za_1 := za.c1; have za_2 := za.c2; have za_3 := za.c3; have za_4 := za.c4
                go_simp
              simp only [Act.put, List.setIfInBounds_toArray, List.set_cons_zero, List.set_cons_succ]
              refine any_runD 3 74 (.int .i64 (L : Nat)) aw.drew (by kernel_rfl) rfl rfl (by rfl) ?_ (.inr HSS) ?_
              · obtain ⟨za, zb⟩ := HSS
                have za_0 := za.c0; have za_1 := za.c1; have za_2 := za.c2; have za_3 := za.c3; have za_4 := za.c4
                go_simp
              simp only [Act.put, List.setIfInBounds_toArray, List.set_cons_zero, List.set_cons_succ]
              refine any_runD 4 75 (.bool true) aw.drew (by kernel_rfl) rfl rfl (by rfl) ?_ (.inr HSS) ?_
              · obtain ⟨za, zb⟩ := HSS
                have za_0 := za.c0; have za_1 := za.c1; have za_2 := za.c2; have za_3 := za.c3; have za_4 := za.c4
                go_simp
              simp only [Act.put, List.setIfInBounds_toArray, List.set_cons_zero, List.set_cons_succ]
              refine any_runD 5 76 (.bool false) aw.drew (by kernel_rfl) rfl rfl (by rfl) ?_ (.inr HSS) ?_
              · obtain ⟨za, zb⟩ := HSS
                have za_0 := za.c0; have za_1 := za.c1; have za_2 := za.c2; have za_3 := za.c3; have za_4 := za.c4
                go_simp
              simp only [Act.put, List.setIfInBounds_toArray, List.set_cons_zero, List.set_cons_succ]
              refine any_runD 6 77 (.bool false) aw.drew (by kernel_rfl) rfl rfl (by rfl) ?_ (.inr HSS) ?_
              · obtain ⟨za, zb⟩ := HSS
                have za_0 := za.c0; have za_1 := za.c1; have za_2 := za.c2; have za_3 := za.c3; have za_4 := za.c4
                go_simp
              simp only [Act.put, List.setIfInBounds_toArray, List.set_cons_zero, List.set_cons_succ]
              refine any_runD 7 78 (.bool true) aw.drew (by kernel_rfl) rfl rfl (by rfl) ?_ (.inr HSS) ?_
              · obtain ⟨za, zb⟩ := HSS
                have za_0 := za.c0; have za_1 := za.c1; have za_2 := za.c2; have za_3 := za.c3; have za_4 := za.c4
                go_simp
              simp only [Act.put, List.setIfInBounds_toArray, List.set_cons_zero, List.set_cons_succ]
              refine any_runD 8 79 (.bool true) aw.drew (by kernel_rfl) rfl rfl (by rfl) ?_ (.inr HSS) ?_
              · obtain ⟨za, zb⟩ := HSS
                have za_0 := za.c0; have za_1 := za.c1; have za_2 := za.c2; have za_3 := za.c3; have za_4 := za.c4
                go_simp
              simp only [Act.put, List.setIfInBounds_toArray, List.set_cons_zero, List.set_cons_succ]
              refine any_takeD 9 80 (.agg #[.int .i64 tt.kind, .bool tt.isB, .string tt.text, .slice Aa ma ca, .slice Ba qa da]) rfl rfl (by kernel_rfl) (by kernel_rfl) (by kernel_rfl) (by kernel_rfl) (fun _ _ _ h => h) (by rfl) ?_ HSS ?_
              · intro w' hS
                obtain ⟨za, zb⟩ := hS
                have za_0 := za.c0; have za_1 := za.c1; have za_2 := za.c2; have za_3 := za.c3; have za_4 := za.c4
                go_simp
              simp only [Act.put, List.setIfInBounds_toArray, List.set_cons_zero, List.set_cons_succ]
              refine any_runD 10 81 (.int .i64 (i : Int)) aw.drew (by kernel_rfl) rfl rfl (by rfl) ?_ (.inr HSS) ?_
              · obtain ⟨za, zb⟩ := HSS
                have za_0 := za.c0; have za_1 := za.c1; have za_2 := za.c2; have za_3 := za.c3; have za_4 := za.c4
                go_simp
              simp only [Act.put, List.setIfInBounds_toArray, List.set_cons_zero, List.set_cons_succ]
              refine any_runD 11 82 (.pointer (some ⟨R5, i, none⟩)) aw.drew (by kernel_rfl) rfl rfl (by rfl) ?_ (.inr HSS) ?_
              · obtain ⟨za, zb⟩ := HSS
                have za_0 := za.c0; have za_1 := za.c1; have za_2 := za.c2; have za_3 := za.c3; have za_4 := za.c4
                go_simp
              simp only [Act.put, List.setIfInBounds_toArray, List.set_cons_zero, List.set_cons_succ]
              refine any_runD 12 83 (.int .i64 (L : Nat)) aw.drew (by kernel_rfl) rfl rfl (by rfl) ?_ (.inr HSS) ?_
              · obtain ⟨za, zb⟩ := HSS
                have za_0 := za.c0; have za_1 := za.c1; have za_2 := za.c2; have za_3 := za.c3; have za_4 := za.c4
                go_simp
              simp only [Act.put, List.setIfInBounds_toArray, List.set_cons_zero, List.set_cons_succ]
              refine any_callV 13 84 (by kernel_rfl) rfl rfl (by rfl) (fn := 30) (args := #[.int .i64 (L : Nat)]) ?_ (number_any (L : Nat) (by omega) (by omega) aw.drew (TB.out aw.drew (extV BWA rk0))) ?_
              · go_simp
              rintro e r1 ⟨rfl, hr1⟩
              have rk1 := extV rk0 hr1
              have HSS : Bx r1 Ra (.int .i64 tt.kind) (.bool tt.isB) (.string tt.text) (.slice Aa ma ca) (.slice Ba qa da) ∧ r1.cell? ⟨R5, i, none⟩ = some (.int .i64 (L : Nat)) := ⟨HSS.1.below hr1 HSS.1.lt, (hr1.cell (p := ⟨R5, i, none⟩) (lt_of_cell HSS.2)).trans HSS.2⟩
              refine ⟨_, rfl, .inr HSS, ?_⟩
              simp only [Act.put, List.setIfInBounds_toArray, List.set_cons_zero, List.set_cons_succ]
              refine any_callV 14 85 (by kernel_rfl) rfl rfl (by rfl) (fn := 22) (args := #[.agg #[.int .i64 tt.kind, .bool tt.isB, .string tt.text, .slice Aa ma ca, .slice Ba qa da], .agg #[.int .i64 2, .bool false, .string (numT (L : Nat)), .slice none 0 0, .slice none 0 0]]) ?_ (equal_any tt (num (L : Nat)) _ _ r1 (Vl.up rk1 _ (hAa.vl _)) (vl_num r1 (by omega) (by omega))) ?_
              · go_simp
              rintro e r2 ⟨rfl, hr2⟩
              have rk2 := extV rk1 hr2
              rw [show alk tt (num (L : Nat)) = true by rw [htt]; exact alk_self _]
              have HSS : Bx r2 Ra (.int .i64 tt.kind) (.bool tt.isB) (.string tt.text) (.slice Aa ma ca) (.slice Ba qa da) ∧ r2.cell? ⟨R5, i, none⟩ = some (.int .i64 (L : Nat)) := ⟨HSS.1.below hr2 HSS.1.lt, (hr2.cell (p := ⟨R5, i, none⟩) (lt_of_cell HSS.2)).trans HSS.2⟩
              refine ⟨_, rfl, .inr HSS, ?_⟩
              simp only [Act.put, List.setIfInBounds_toArray, List.set_cons_zero, List.set_cons_succ]
              refine any_runD 15 86 (.bool false) r2 (by kernel_rfl) rfl rfl (by rfl) ?_ (.inr HSS) ?_
              · obtain ⟨za, zb⟩ := HSS
                have za_0 := za.c0; have za_1 := za.c1; have za_2 := za.c2; have za_3 := za.c3; have za_4 := za.c4
                go_simp
              simp only [Act.put, List.setIfInBounds_toArray, List.set_cons_zero, List.set_cons_succ]
              refine any_runD 16 87 (.bool false) r2 (by kernel_rfl) rfl rfl (by rfl) ?_ (.inr HSS) ?_
              · obtain ⟨za, zb⟩ := HSS
                have za_0 := za.c0; have za_1 := za.c1; have za_2 := za.c2; have za_3 := za.c3; have za_4 := za.c4
                go_simp
              simp only [Act.put, List.setIfInBounds_toArray, List.set_cons_zero, List.set_cons_succ]
              refine any_runD 17 88 (.bool false) r2 (by kernel_rfl) rfl rfl (by rfl) ?_ (.inr HSS) ?_
              · obtain ⟨za, zb⟩ := HSS
                have za_0 := za.c0; have za_1 := za.c1; have za_2 := za.c2; have za_3 := za.c3; have za_4 := za.c4
                go_simp
              simp only [Act.put, List.setIfInBounds_toArray, List.set_cons_zero, List.set_cons_succ]
              refine any_done (by kernel_rfl) ?_ _
              refine calm_normal ?_
              have LB := Lib.hid (extV hB.out (extV hLa rk2))
              clear HSS hXa hAa hLa c5 BWA hlta hu mv ca5
              go_wp2_with fail
              exact ⟨⟨i + 1, by go_num, by omega, LB⟩, by simp [intOf]; omega⟩
          · obtain ⟨Ra, hRa⟩ : ∃ R, wq.heap.size = R := ⟨_, rfl⟩
            obtain ⟨Ua, hUa⟩ : ∃ U, wq.drew.alloc (.cells #[.int .i64 0, .bool false, .string ⟨#[]⟩, .slice none 0 0, .slice none 0 0] 25) = U := ⟨_, rfl⟩
            obtain ⟨nb0, nb2⟩ := newbox (w := wq.drew) hRa hUa
            clear nb2
            have hbU : Below wq.drew.heap.size wq.drew Ua := by rw [← hUa]; exact below_allocV wq.drew _
            have hsU : Ua.heap.size = Ra + 1 := by rw [← hUa, World.size_alloc]; show wq.heap.size + 1 = _; rw [hRa]
            have HS2 : Bx Ua R1 (.int .i64 5) (.bool false) (.string ⟨#[]⟩) (.slice A5 m5 c5) (.slice B5 q5 d5) ∧ Ua.cell? ⟨G, i, none⟩ = some (.string s) := ⟨HSS.1.below hbU HSS.1.lt, (hbU.cell (p := ⟨G, i, none⟩) (lt_of_cell HSS.2)).trans HSS.2⟩
            refine st_run 9 11 (.pointer (some ⟨Ra, 0, none⟩)) Ua rfl ?_ (.inr HS2) ?_
            · rw [← hUa, ← hRa]; go_simp
            simp only [Act.put, List.setIfInBounds_toArray, List.set_cons_zero, List.set_cons_succ]
            refine any_callV 5 68 (by kernel_rfl) rfl rfl (by rfl) (fn := 24) (args := #[.agg #[.int .i64 5, .bool false, .string ⟨#[]⟩, .slice A5 m5 c5, .slice B5 q5 d5], .string s]) ?_ (CG.out Ua (extV hd0 hbU)) ?_
            · go_simp
            rintro e w1 ⟨Aa, ma, ca, Ba, qa, da, rfl, hb1, ho1⟩
            have HS1 : Bx w1 R1 (.int .i64 5) (.bool false) (.string ⟨#[]⟩) (.slice A5 m5 c5) (.slice B5 q5 d5) ∧ w1.cell? ⟨G, i, none⟩ = some (.string s) := ⟨HS2.1.below hb1 HS2.1.lt, (hb1.cell (p := ⟨G, i, none⟩) (lt_of_cell HS2.2)).trans HS2.2⟩
            refine ⟨_, rfl, .inr HS1, ?_⟩
            simp only [Act.put, List.setIfInBounds_toArray, List.set_cons_zero, List.set_cons_succ]
            refine any_takeD 6 62 (.tuple #[.agg #[.int .i64 (tt).kind, .bool (tt).isB, .string (tt).text, .slice Aa ma ca, .slice Ba qa da], .bool oo]) rfl rfl (by kernel_rfl) (by kernel_rfl) (by kernel_rfl) (by kernel_rfl) (fun _ _ _ h => h) (by rfl) ?_ HS1 ?_
            · rintro w' ⟨hS, hc⟩
              have z0 := hS.c0; have z1 := hS.c1; have z2 := hS.c2; have z3 := hS.c3; have z4 := hS.c4
              go_simp
            simp only [Act.put, List.setIfInBounds_toArray, List.set_cons_zero, List.set_cons_succ]
            refine any_takeD 7 69 (.agg #[.int .i64 (tt).kind, .bool (tt).isB, .string (tt).text, .slice Aa ma ca, .slice Ba qa da]) rfl rfl (by kernel_rfl) (by kernel_rfl) (by kernel_rfl) (by kernel_rfl) (fun _ _ _ h => h) (by rfl) ?_ HS1 ?_
            · rintro w' ⟨hS, hc⟩
              have z0 := hS.c0; have z1 := hS.c1; have z2 := hS.c2; have z3 := hS.c3; have z4 := hS.c4
              go_simp
            simp only [Act.put, List.setIfInBounds_toArray, List.set_cons_zero, List.set_cons_succ]
            refine any_takeD 8 70 (.bool oo) rfl rfl (by kernel_rfl) (by kernel_rfl) (by kernel_rfl) (by kernel_rfl) (fun _ _ _ h => h) (by rfl) ?_ HS1 ?_
            · rintro w' ⟨hS, hc⟩
              have z0 := hS.c0; have z1 := hS.c1; have z2 := hS.c2; have z3 := hS.c3; have z4 := hS.c4
              go_simp
            simp only [Act.put, List.setIfInBounds_toArray, List.set_cons_zero, List.set_cons_succ]
            have nb := nb0.below hb1 nb0.lt
            have e0 := nb.c0; have f0 := nb.fz 0; have e1 := nb.c1; have f1 := nb.fz 1; have e2 := nb.c2; have f2 := nb.fz 2; have e3 := nb.c3; have f3 := nb.fz 3; have e4 := nb.c4; have f4 := nb.fz 4
            have hq9 : put5 w1 Ra (.int .i64 (tt).kind) (.bool (tt).isB) (.string (tt).text) (.slice Aa ma ca) (.slice Ba qa da) = ((((w1.setCell ⟨Ra, 0, none⟩ (.int .i64 (tt).kind)).setCell ⟨Ra, 1, none⟩ (.bool (tt).isB)).setCell ⟨Ra, 2, none⟩ (.string (tt).text)).setCell ⟨Ra, 3, none⟩ (.slice Aa ma ca)).setCell ⟨Ra, 4, none⟩ (.slice Ba qa da) := rfl
            have hk9 : ∀ z, z ≠ Ra → (put5 w1 Ra (.int .i64 (tt).kind) (.bool (tt).isB) (.string (tt).text) (.slice Aa ma ca) (.slice Ba qa da)).heap[z]? = w1.heap[z]? := fun z hz => put5_heap z hz
            have hz9 : (put5 w1 Ra (.int .i64 (tt).kind) (.bool (tt).isB) (.string (tt).text) (.slice Aa ma ca) (.slice Ba qa da)).heap.size = w1.heap.size := put5_size
            have hx9 : Bx (put5 w1 Ra (.int .i64 (tt).kind) (.bool (tt).isB) (.string (tt).text) (.slice Aa ma ca) (.slice Ba qa da)) Ra (.int .i64 (tt).kind) (.bool (tt).isB) (.string (tt).text) (.slice Aa ma ca) (.slice Ba qa da) := put5_bx nb
            have hRw : wq.heap.size ≤ Ra := by omega
            have hL0 : Below wq.heap.size wq (put5 w1 Ra (.int .i64 (tt).kind) (.bool (tt).isB) (.string (tt).text) (.slice Aa ma ca) (.slice Ba qa da)) := put5_below (extV hd0 (extV hbU hb1)) hRw
            have HS9 : Bx (put5 w1 Ra (.int .i64 (tt).kind) (.bool (tt).isB) (.string (tt).text) (.slice Aa ma ca) (.slice Ba qa da)) R1 (.int .i64 5) (.bool false) (.string ⟨#[]⟩) (.slice A5 m5 c5) (.slice B5 q5 d5) ∧ (put5 w1 Ra (.int .i64 (tt).kind) (.bool (tt).isB) (.string (tt).text) (.slice Aa ma ca) (.slice Ba qa da)).cell? ⟨G, i, none⟩ = some (.string s) := ⟨(Bx.below hu hL0 (Bx.lt hu)), (hL0.cell (p := ⟨G, i, none⟩) (lt_of_cell mv)).trans mv⟩
            rw [hq9] at HS9
            refine any_run0 10 (((((w1.setCell ⟨Ra, 0, none⟩ (.int .i64 (tt).kind)).setCell ⟨Ra, 1, none⟩ (.bool (tt).isB)).setCell ⟨Ra, 2, none⟩ (.string (tt).text)).setCell ⟨Ra, 3, none⟩ (.slice Aa ma ca)).setCell ⟨Ra, 4, none⟩ (.slice Ba qa da)) (by kernel_rfl) rfl rfl (by rfl) ?_ (.inr HS9) ?_
            · go_simp
            rw [← hq9] at HS9 ⊢
            clear hq9
            obtain ⟨aw, hw9⟩ : ∃ W, put5 w1 Ra (.int .i64 (tt).kind) (.bool (tt).isB) (.string (tt).text) (.slice Aa ma ca) (.slice Ba qa da) = W := ⟨_, rfl⟩
            rw [hw9] at hk9 hz9 hx9 hL0 HS9 ⊢
            have hXa := hx9
            have hLa : Below wq.heap.size wq aw := hL0
            have hs1 := hb1.size
            have hAa := (ho1.kept _ (fun x hx => hk9 x (by have := hx.1; omega))).mono (T := fun x => wq.heap.size ≤ x ∧ x < aw.heap.size ∧ x ≠ Ra) (fun x hx => ⟨by have := hx.1; omega, by have := hx.2; omega, by have := hx.1; omega⟩)
            have hlta : Ra < aw.heap.size ∧ wq.heap.size ≤ Ra := ⟨by omega, by omega⟩
            clear nb nb0 hk9 hz9 hx9 hL0 hw9 hbU hsU HS1 HS2 hb1 ho1 hs1 hRw hUa hRa
            clear e0 f0 e1 f1 e2 f2 e3 f3 e4 f4
            refine any_runD 11 12 (.bool oo) aw (by kernel_rfl) rfl rfl (by rfl) ?_ (.inr HS9) ?_
            · go_simp
            simp only [Act.put, List.setIfInBounds_toArray, List.set_cons_zero, List.set_cons_succ]
            refine any_done (by kernel_rfl) ?_ _
            refine calm_normal ?_
            clear HS9 HSS hd0
            have c5 : aw.cell? ⟨R5, i, none⟩ = some (.int .i64 (L : Nat)) := (hLa.cell (p := ⟨R5, i, none⟩) (lt_of_cell ca5)).trans ca5
            have BWA : Below w.heap.size w aw := BV1.out.trans ((extV hB.out hLa).mono BV1.out.size)
            go_upto_region 18 with fail
            rcases hcase with ⟨hz, rfl⟩ | ⟨hz, rfl, htt⟩
            · have hz1 : ¬ (0 : Int) < (L : Int) := by omega
              have HSS : Bx aw.drew Ra (.int .i64 tt.kind) (.bool tt.isB) (.string tt.text) (.slice Aa ma ca) (.slice Ba qa da) ∧ aw.drew.cell? ⟨R5, i, none⟩ = some (.int .i64 (L : Nat)) := ⟨Bx.same hXa rfl, c5⟩
              refine region_calm (fun w' => Bx w' Ra (.int .i64 tt.kind) (.bool tt.isB) (.string tt.text) (.slice Aa ma ca) (.slice Ba qa da) ∧ w'.cell? ⟨R5, i, none⟩ = some (.int .i64 (L : Nat))) [0, 9] (by kernel_rfl) ?_
              have rk0 : Below aw.heap.size aw aw.drew := ⟨rfl, rfl, rfl, Nat.le_refl _, fun _ _ => rfl⟩
              refine any_takeD 0 71 (.bool false) rfl rfl (by kernel_rfl) (by kernel_rfl) (by kernel_rfl) (by kernel_rfl) (fun _ _ _ h => h) (by rfl) ?_ HSS ?_
              · intro w' hS
                obtain ⟨za, zb⟩ := hS
                have za_0 := za.c0; have za_1 := za.c1; have za_2 := za.c2; have za_3 := za.c3; have za_4 := za.c4
                go_simp
              simp only [Act.put, List.setIfInBounds_toArray, List.set_cons_zero, List.set_cons_succ]
              refine any_runD 1 72 (.int .i64 (i : Int)) aw.drew (by kernel_rfl) rfl rfl (by rfl) ?_ (.inr HSS) ?_
              · obtain ⟨za, zb⟩ := HSS
                have za_0 := za.c0; have za_1 := za.c1; have za_2 := za.c2; have za_3 := za.c3; have za_4 := za.c4
                go_simp
              simp only [Act.put, List.setIfInBounds_toArray, List.set_cons_zero, List.set_cons_succ]
              refine any_runD 2 73 (.pointer (some ⟨R5, i, none⟩)) aw.drew (by kernel_rfl) rfl rfl (by rfl) ?_ (.inr HSS) ?_
              · obtain ⟨za, zb⟩ := HSS
                have za_0 := za.c0; have za_1 := za.c1; have za_2 := za.c2; have za_3 := za.c3; have za_4 := za.c4
                go_simp
              simp only [Act.put, List.setIfInBounds_toArray, List.set_cons_zero, List.set_cons_succ]
              refine any_runD 3 74 (.int .i64 (L : Nat)) aw.drew (by kernel_rfl) rfl rfl (by rfl) ?_ (.inr HSS) ?_
              · obtain ⟨za, zb⟩ := HSS
                have za_0 := za.c0; have za_1 := za.c1; have za_2 := za.c2; have za_3 := za.c3; have za_4 := za.c4
                go_simp
              simp only [Act.put, List.setIfInBounds_toArray, List.set_cons_zero, List.set_cons_succ]
              refine any_runD 4 75 (.bool false) aw.drew (by kernel_rfl) rfl rfl (by rfl) ?_ (.inr HSS) ?_
              · obtain ⟨za, zb⟩ := HSS
                have za_0 := za.c0; have za_1 := za.c1; have za_2 := za.c2; have za_3 := za.c3; have za_4 := za.c4
                go_simp
              simp only [Act.put, List.setIfInBounds_toArray, List.set_cons_zero, List.set_cons_succ]
              refine any_runD 5 76 (.bool false) aw.drew (by kernel_rfl) rfl rfl (by rfl) ?_ (.inr HSS) ?_
              · obtain ⟨za, zb⟩ := HSS
                have za_0 := za.c0; have za_1 := za.c1; have za_2 := za.c2; have za_3 := za.c3; have za_4 := za.c4
                go_simp
              simp only [Act.put, List.setIfInBounds_toArray, List.set_cons_zero, List.set_cons_succ]
              refine any_runD 6 77 (.bool false) aw.drew (by kernel_rfl) rfl rfl (by rfl) ?_ (.inr HSS) ?_
              · obtain ⟨za, zb⟩ := HSS
                have za_0 := za.c0; have za_1 := za.c1; have za_2 := za.c2; have za_3 := za.c3; have za_4 := za.c4
                go_simp
              simp only [Act.put, List.setIfInBounds_toArray, List.set_cons_zero, List.set_cons_succ]
              refine any_runD 7 78 (.bool false) aw.drew (by kernel_rfl) rfl rfl (by rfl) ?_ (.inr HSS) ?_
              · obtain ⟨za, zb⟩ := HSS
                have za_0 := za.c0; have za_1 := za.c1; have za_2 := za.c2; have za_3 := za.c3; have za_4 := za.c4
                go_simp
              simp only [Act.put, List.setIfInBounds_toArray, List.set_cons_zero, List.set_cons_succ]
              refine any_runD 8 79 (.bool false) aw.drew (by kernel_rfl) rfl rfl (by rfl) ?_ (.inr HSS) ?_
              · obtain ⟨za, zb⟩ := HSS
                have za_0 := za.c0; have za_1 := za.c1; have za_2 := za.c2; have za_3 := za.c3; have za_4 := za.c4
                go_simp
              simp only [Act.put, List.setIfInBounds_toArray, List.set_cons_zero, List.set_cons_succ]
              refine any_takeU 9 80 rfl rfl (by kernel_rfl) (by kernel_rfl) (by kernel_rfl) (by kernel_rfl) (fun _ _ _ h => h) (by rfl) HSS ?_
              simp only [Act.put, List.setIfInBounds_toArray, List.set_cons_zero, List.set_cons_succ]
              refine any_skip 10 81 (by kernel_rfl) rfl rfl (by rfl) (.inr HSS) ?_
              simp only [Act.put, List.setIfInBounds_toArray, List.set_cons_zero, List.set_cons_succ]
              refine any_skip 11 82 (by kernel_rfl) rfl rfl (by rfl) (.inr HSS) ?_
              simp only [Act.put, List.setIfInBounds_toArray, List.set_cons_zero, List.set_cons_succ]
              refine any_skip 12 83 (by kernel_rfl) rfl rfl (by rfl) (.inr HSS) ?_
              simp only [Act.put, List.setIfInBounds_toArray, List.set_cons_zero, List.set_cons_succ]
              refine any_skip 13 84 (by kernel_rfl) rfl rfl (by rfl) (.inr HSS) ?_
              simp only [Act.put, List.setIfInBounds_toArray, List.set_cons_zero, List.set_cons_succ]
              refine any_skip 14 85 (by kernel_rfl) rfl rfl (by rfl) (.inr HSS) ?_
              simp only [Act.put, List.setIfInBounds_toArray, List.set_cons_zero, List.set_cons_succ]
              refine any_skip 15 86 (by kernel_rfl) rfl rfl (by rfl) (.inr HSS) ?_
              simp only [Act.put, List.setIfInBounds_toArray, List.set_cons_zero, List.set_cons_succ]
              refine any_runD 16 87 (.bool false) aw.drew (by kernel_rfl) rfl rfl (by rfl) ?_ (.inr HSS) ?_
              · obtain ⟨za, zb⟩ := HSS
                have za_0 := za.c0; have za_1 := za.c1; have za_2 := za.c2; have za_3 := za.c3; have za_4 := za.c4
                go_simp
              simp only [Act.put, List.setIfInBounds_toArray, List.set_cons_zero, List.set_cons_succ]
              refine any_runD 17 88 (.bool false) aw.drew (by kernel_rfl) rfl rfl (by rfl) ?_ (.inr HSS) ?_
              · obtain ⟨za, zb⟩ := HSS
                have za_0 := za.c0; have za_1 := za.c1; have za_2 := za.c2; have za_3 := za.c3; have za_4 := za.c4
                go_simp
              simp only [Act.put, List.setIfInBounds_toArray, List.set_cons_zero, List.set_cons_succ]
              refine any_done (by kernel_rfl) ?_ _
              refine calm_normal ?_
              have LB := Lib.hid (extV hB.out (extV hLa rk0))
              clear HSS hXa hAa hLa c5 BWA hlta hu mv ca5
              go_wp2_with fail
              exact ⟨⟨i + 1, by go_num, by omega, LB⟩, by simp [intOf]; omega⟩
            · have hz1 : (0 : Int) < (L : Int) := by omega
              have HSS : Bx aw.drew Ra (.int .i64 tt.kind) (.bool tt.isB) (.string tt.text) (.slice Aa ma ca) (.slice Ba qa da) ∧ aw.drew.cell? ⟨R5, i, none⟩ = some (.int .i64 (L : Nat)) := ⟨Bx.same hXa rfl, c5⟩
              refine region_calm (fun w' => Bx w' Ra (.int .i64 tt.kind) (.bool tt.isB) (.string tt.text) (.slice Aa ma ca) (.slice Ba qa da) ∧ w'.cell? ⟨R5, i, none⟩ = some (.int .i64 (L : Nat))) [0, 9] (by kernel_rfl) ?_
              have rk0 : Below aw.heap.size aw aw.drew := ⟨rfl, rfl, rfl, Nat.le_refl _, fun _ _ => rfl⟩
              refine any_takeD 0 71 (.bool true) rfl rfl (by kernel_rfl) (by kernel_rfl) (by kernel_rfl) (by kernel_rfl) (fun _ _ _ h => h) (by rfl) ?_ HSS ?_
              · intro w' hS
                obtain ⟨za, zb⟩ := hS
                have za_0 := za.c0; have za_1 := za.c1; have za_2 := za.c2; have za_3 := za.c3; have za_4 := za.c4
                go_simp
              simp only [Act.put, List.setIfInBounds_toArray, List.set_cons_zero, List.set_cons_succ]
              refine any_runD 1 72 (.int .i64 (i : Int)) aw.drew (by kernel_rfl) rfl rfl (by rfl) ?_ (.inr HSS) ?_
              · obtain ⟨za, zb⟩ := HSS
                have za_0 := za.c0; have za_1 := za.c1; have za_2 := za.c2; have za_3 := za.c3; have za_4 := za.c4
                go_simp
              simp only [Act.put, List.setIfInBounds_toArray, List.set_cons_zero, List.set_cons_succ]
              refine any_runD 2 73 (.pointer (some ⟨R5, i, none⟩)) aw.drew (by kernel_rfl) rfl rfl (by rfl) ?_ (.inr HSS) ?_
              · obtain ⟨za, zb⟩ := HSS
                have za_0 := za.c0; have za_1 := za.c1; have za_2 := za.c2; have za_3 := za.c3; have za_4 := za.c4
                go_simp
              simp only [Act.put, List.setIfInBounds_toArray, List.set_cons_zero, List.set_cons_succ]
              refine any_runD 3 74 (.int .i64 (L : Nat)) aw.drew (by kernel_rfl) rfl rfl (by rfl) ?_ (.inr HSS) ?_
              · obtain ⟨za, zb⟩ := HSS
                have za_0 := za.c0; have za_1 := za.c1; have za_2 := za.c2; have za_3 := za.c3; have za_4 := za.c4
                go_simp
              simp only [Act.put, List.setIfInBounds_toArray, List.set_cons_zero, List.set_cons_succ]
              refine any_runD 4 75 (.bool true) aw.drew (by kernel_rfl) rfl rfl (by rfl) ?_ (.inr HSS) ?_
              · obtain ⟨za, zb⟩ := HSS
                have za_0 := za.c0; have za_1 := za.c1; have za_2 := za.c2; have za_3 := za.c3; have za_4 := za.c4
                go_simp
              simp only [Act.put, List.setIfInBounds_toArray, List.set_cons_zero, List.set_cons_succ]
              refine any_runD 5 76 (.bool false) aw.drew (by kernel_rfl) rfl rfl (by rfl) ?_ (.inr HSS) ?_
              · obtain ⟨za, zb⟩ := HSS
                have za_0 := za.c0; have za_1 := za.c1; have za_2 := za.c2; have za_3 := za.c3; have za_4 := za.c4
                go_simp
              simp only [Act.put, List.setIfInBounds_toArray, List.set_cons_zero, List.set_cons_succ]
              refine any_runD 6 77 (.bool false) aw.drew (by kernel_rfl) rfl rfl (by rfl) ?_ (.inr HSS) ?_
              · obtain ⟨za, zb⟩ := HSS
                have za_0 := za.c0; have za_1 := za.c1; have za_2 := za.c2; have za_3 := za.c3; have za_4 := za.c4
                go_simp
              simp only [Act.put, List.setIfInBounds_toArray, List.set_cons_zero, List.set_cons_succ]
              refine any_runD 7 78 (.bool true) aw.drew (by kernel_rfl) rfl rfl (by rfl) ?_ (.inr HSS) ?_
              · obtain ⟨za, zb⟩ := HSS
                have za_0 := za.c0; have za_1 := za.c1; have za_2 := za.c2; have za_3 := za.c3; have za_4 := za.c4
                go_simp
              simp only [Act.put, List.setIfInBounds_toArray, List.set_cons_zero, List.set_cons_succ]
              refine any_runD 8 79 (.bool true) aw.drew (by kernel_rfl) rfl rfl (by rfl) ?_ (.inr HSS) ?_
              · obtain ⟨za, zb⟩ := HSS
                have za_0 := za.c0; have za_1 := za.c1; have za_2 := za.c2; have za_3 := za.c3; have za_4 := za.c4
                go_simp
              simp only [Act.put, List.setIfInBounds_toArray, List.set_cons_zero, List.set_cons_succ]
              refine any_takeD 9 80 (.agg #[.int .i64 tt.kind, .bool tt.isB, .string tt.text, .slice Aa ma ca, .slice Ba qa da]) rfl rfl (by kernel_rfl) (by kernel_rfl) (by kernel_rfl) (by kernel_rfl) (fun _ _ _ h => h) (by rfl) ?_ HSS ?_
              · intro w' hS
                obtain ⟨za, zb⟩ := hS
                have za_0 := za.c0; have za_1 := za.c1; have za_2 := za.c2; have za_3 := za.c3; have za_4 := za.c4
                go_simp
              simp only [Act.put, List.setIfInBounds_toArray, List.set_cons_zero, List.set_cons_succ]
              refine any_runD 10 81 (.int .i64 (i : Int)) aw.drew (by kernel_rfl) rfl rfl (by rfl) ?_ (.inr HSS) ?_
              · obtain ⟨za, zb⟩ := HSS
                have za_0 := za.c0; have za_1 := za.c1; have za_2 := za.c2; have za_3 := za.c3; have za_4 := za.c4
                go_simp
              simp only [Act.put, List.setIfInBounds_toArray, List.set_cons_zero, List.set_cons_succ]
              refine any_runD 11 82 (.pointer (some ⟨R5, i, none⟩)) aw.drew (by kernel_rfl) rfl rfl (by rfl) ?_ (.inr HSS) ?_
              · obtain ⟨za, zb⟩ := HSS
                have za_0 := za.c0; have za_1 := za.c1; have za_2 := za.c2; have za_3 := za.c3; have za_4 := za.c4
                go_simp
              simp only [Act.put, List.setIfInBounds_toArray, List.set_cons_zero, List.set_cons_succ]
              refine any_runD 12 83 (.int .i64 (L : Nat)) aw.drew (by kernel_rfl) rfl rfl (by rfl) ?_ (.inr HSS) ?_
              · obtain ⟨za, zb⟩ := HSS
                have za_0 := za.c0; have za_1 := za.c1; have za_2 := za.c2; have za_3 := za.c3; have za_4 := za.c4
                go_simp
              simp only [Act.put, List.setIfInBounds_toArray, List.set_cons_zero, List.set_cons_succ]
              refine any_callV 13 84 (by kernel_rfl) rfl rfl (by rfl) (fn := 30) (args := #[.int .i64 (L : Nat)]) ?_ (number_any (L : Nat) (by omega) (by omega) aw.drew (TB.out aw.drew (extV BWA rk0))) ?_
              · go_simp
              rintro e r1 ⟨rfl, hr1⟩
              have rk1 := extV rk0 hr1
              have HSS : Bx r1 Ra (.int .i64 tt.kind) (.bool tt.isB) (.string tt.text) (.slice Aa ma ca) (.slice Ba qa da) ∧ r1.cell? ⟨R5, i, none⟩ = some (.int .i64 (L : Nat)) := ⟨HSS.1.below hr1 HSS.1.lt, (hr1.cell (p := ⟨R5, i, none⟩) (lt_of_cell HSS.2)).trans HSS.2⟩
              refine ⟨_, rfl, .inr HSS, ?_⟩
              simp only [Act.put, List.setIfInBounds_toArray, List.set_cons_zero, List.set_cons_succ]
              refine any_callV 14 85 (by kernel_rfl) rfl rfl (by rfl) (fn := 22) (args := #[.agg #[.int .i64 tt.kind, .bool tt.isB, .string tt.text, .slice Aa ma ca, .slice Ba qa da], .agg #[.int .i64 2, .bool false, .string (numT (L : Nat)), .slice none 0 0, .slice none 0 0]]) ?_ (equal_any tt (num (L : Nat)) _ _ r1 (Vl.up rk1 _ (hAa.vl _)) (vl_num r1 (by omega) (by omega))) ?_
              · go_simp
              rintro e r2 ⟨rfl, hr2⟩
              have rk2 := extV rk1 hr2
              rw [show alk tt (num (L : Nat)) = true by rw [htt]; exact alk_self _]
              have HSS : Bx r2 Ra (.int .i64 tt.kind) (.bool tt.isB) (.string tt.text) (.slice Aa ma ca) (.slice Ba qa da) ∧ r2.cell? ⟨R5, i, none⟩ = some (.int .i64 (L : Nat)) := ⟨HSS.1.below hr2 HSS.1.lt, (hr2.cell (p := ⟨R5, i, none⟩) (lt_of_cell HSS.2)).trans HSS.2⟩
              refine ⟨_, rfl, .inr HSS, ?_⟩
              simp only [Act.put, List.setIfInBounds_toArray, List.set_cons_zero, List.set_cons_succ]
              refine any_runD 15 86 (.bool false) r2 (by kernel_rfl) rfl rfl (by rfl) ?_ (.inr HSS) ?_
              · obtain ⟨za, zb⟩ := HSS
                have za_0 := za.c0; have za_1 := za.c1; have za_2 := za.c2; have za_3 := za.c3; have za_4 := za.c4
                go_simp
              simp only [Act.put, List.setIfInBounds_toArray, List.set_cons_zero, List.set_cons_succ]
              refine any_runD 16 87 (.bool false) r2 (by kernel_rfl) rfl rfl (by rfl) ?_ (.inr HSS) ?_
              · obtain ⟨za, zb⟩ := HSS
                have za_0 := za.c0; have za_1 := za.c1; have za_2 := za.c2; have za_3 := za.c3; have za_4 := za.c4
                go_simp
              simp only [Act.put, List.setIfInBounds_toArray, List.set_cons_zero, List.set_cons_succ]
              refine any_runD 17 88 (.bool false) r2 (by kernel_rfl) rfl rfl (by rfl) ?_ (.inr HSS) ?_
              · obtain ⟨za, zb⟩ := HSS
                have za_0 := za.c0; have za_1 := za.c1; have za_2 := za.c2; have za_3 := za.c3; have za_4 := za.c4
                go_simp
              simp only [Act.put, List.setIfInBounds_toArray, List.set_cons_zero, List.set_cons_succ]
              refine any_done (by kernel_rfl) ?_ _
              refine calm_normal ?_
              have LB := Lib.hid (extV hB.out (extV hLa rk2))
              clear HSS hXa hAa hLa c5 BWA hlta hu mv ca5
              go_wp2_with fail
              exact ⟨⟨i + 1, by go_num, by omega, LB⟩, by simp [intOf]; omega⟩
        · obtain rfl : i = 8 := by omega
          have BQ := Lib.hid (BV1.out.trans (hB.out.mono BV1.out.size))
          go_wp2_with fail
          refine (awake_any _ (TB.out _ BQ.out)).mono ?_
          rintro e wz ⟨rfl, hbz⟩
          have BZ := Lib.hid (extV BQ.out hbz)
          clear hbz
          go_wp2_with fail
          go_ret
          exact ⟨rfl, BZ.out⟩
end Go.Proofs.YtlgeibaejeiemaaDoor
