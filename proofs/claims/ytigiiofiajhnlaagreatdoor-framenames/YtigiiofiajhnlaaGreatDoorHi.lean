/-
  What the document's Parse of layer 6 computes.
-/
import Derived.Test.YtigiiofiajhnlaaGreatDoorHh
namespace Go.Proofs.YtigiiofiajhnlaaGreatDoor
set_option linter.unusedVariables false
open Go.RowKit
namespace Hi
open Wd We Dm Da Db Dc Dd Hm Hb Hc Hd He Hg Hf Hh

/-- where the header's lines end, two bytes 13 10 end the last one -/
theorem body_end {l : List Int} {B : Nat} (h : hEnd l = some (B + 2)) : B = 0 ∨ (2 ≤ B ∧ l[B - 2]? = some 13 ∧ l[B - 1]? = some 10) := by
  rcases hEnd_some h with ⟨g, e⟩ | ⟨g, i, e, hs⟩
  · left; omega
  · right
    obtain ⟨h1, h2, h3⟩ := fnd_some e
    have := (four_at.1 h2).1
    rw [two_at] at this
    obtain rfl : B = i + 2 := by omega
    exact ⟨by omega, this.1, this.2⟩
/-- the next line of the header -/
theorem next_line {l : List Int} {B a : Nat} (hB : B ≤ l.length) (h13 : l[B - 2]? = some 13) (h10 : l[B - 1]? = some 10) (ha : a + 2 ≤ B) :
    ∃ st, a ≤ st ∧ st + 2 ≤ B ∧ (∀ j, a ≤ j → j < st → ¬ [13, 10] <+: l.drop j) ∧ [13, 10] <+: l.drop st ∧ spl ((l.take B).drop a) = (l.drop a).take (st - a) :: spl ((l.take B).drop (st + 2)) ∧ (st + 2 = B ∨ st + 2 + 2 ≤ B) := by
  have hl : ((l.take B).drop a).length = B - a := by rw [List.length_drop, List.length_take]; omega
  have h0 : (l.take B).drop a ≠ [] := by
    intro c; rw [c] at hl; simp at hl; omega
  have hp : [13, 10] <+: ((l.take B).drop a).drop (B - 2 - a) := by
    rw [List.drop_drop, show a + (B - 2 - a) = B - 2 by omega]
    exact pre_take (two_at.2 ⟨h13, by rw [show B - 2 + 1 = B - 1 by omega]; exact h10⟩) (by show B - 2 + 2 ≤ B; omega)
  cases hf : fnd [13, 10] ((l.take B).drop a) with
  | none => exact absurd hp (fnd_none hf _ (by rw [hl]; omega))
  | some k =>
    obtain ⟨h1, h2, h3⟩ := fnd_some hf
    rw [hl] at h1
    have h1' : k + 2 ≤ B - a := h1
    rw [List.drop_drop] at h2
    have h2' := (pre_of_take h2 (by simp)).1
    refine ⟨a + k, by omega, by omega, fun j hj hjs c => ?_, h2', ?_, ?_⟩
    · refine h3 (j - a) (by omega) ?_
      rw [List.drop_drop, show a + (j - a) = j by omega]
      exact pre_take c (by show j + 2 ≤ B; omega)
    · rw [(spl_cut _ h0).1 k hf]
      congr 1
      · rw [List.drop_take, List.take_take, Nat.min_eq_left (by omega), show a + k - a = k by omega]
      · rw [List.drop_drop, show a + (k + 2) = a + k + 2 by omega]
    · by_cases g : a + k + 2 + 1 = B
      · exfalso
        have := (two_at.1 h2').2
        rw [show a + k + 1 = B - 2 by omega, h13] at this
        injection this with this; omega
      · omega
theorem cl_isB : IsB cl := isB_all (by decide)
theorem cl_bs : (⟨#[99, 111, 110, 116, 101, 110, 116, 45, 108, 101, 110, 103, 116, 104]⟩ : ByteArray) = bs cl := by kernel_rfl
theorem cl_eq {nm : List Int} (h : IsB (nm.map Hm.low)) : ((bs (nm.map Hm.low)).toList == ([99, 111, 110, 116, 101, 110, 116, 45, 108, 101, 110, 103, 116, 104] : List UInt8)) = decide (nm.map Hm.low = cl) := by
  have e : (bs cl).toList = ([99, 111, 110, 116, 101, 110, 116, 45, 108, 101, 110, 103, 116, 104] : List UInt8) := by rw [bs_list]; rfl
  rw [← e, bs_eq h cl_isB]

set_option maxRecDepth 100000 in
set_option maxHeartbeats 3200000 in
theorem rparse6_any (A : Option Addr) (n c : Nat) (l : List Int) (w : World) (s : Sl .u8 w A n c l) (hl : IsB l) :
    Calls Tryz.prog 40 #[.slice A n c] w fun e w' => e = .returned (.tuple #[.int .i64 (prs l).1, .int .i64 (prs l).2.1, .int .i64 (prs l).2.2]) ∧ Below w.heap.size w w' := by
  have hmax : n ≤ 9223372036854775807 := by have := s.max; have := s.le; unfold maxLen at *; omega
  have hle := s.le
  have hlen := s.len
  obtain ⟨N, hN⟩ : ∃ N, N = min n 512 := ⟨_, rfl⟩
  have s0 := s.cut0 N (by omega)
  have e0 : l.take N = l.take 512 := by
    rw [hN]
    by_cases g : n ≤ 512
    · rw [Nat.min_eq_left g, List.take_of_length_le (by omega), List.take_of_length_le (by omega)]
    · rw [Nat.min_eq_right (by omega)]
  have hmin : min (n : Int) 512 = (N : Int) := by omega
  have hN1 : N ≤ n := by omega
  have hN2 : N ≤ 512 := by omega
  rw [e0] at s0
  clear hN e0
  have HLEN := Lib.hid hlen
  have S := Lib.hid s
  have S0 := Lib.hid s0
  have HL := Lib.hid hl
  clear s s0 hl hlen
  go_enter Tryz.func40, Tryz.ntmps40
  go_wp2_with fail
  refine (end_any _ _ _ _ _ S0.out hN2).mono ?_
  rintro e w' ⟨rfl, rfl⟩
  cases hq : hEnd (l.take 512) with
  | none =>
    rw [show ev none = -1 from rfl]
    by_cases h5 : 512 ≤ n
    · have HR := Lib.hid ((prs_none hq).trans (if_pos (by rw [HLEN.out]; exact h5)))
      have i1 : (512 : Int) ≤ (n : Int) := by omega
      clear hq h5
      go_wp2
      go_ret3
      exact ⟨trip HR.out, Below.refl _ _⟩
    · have HR := Lib.hid ((prs_none hq).trans (if_neg (by rw [HLEN.out]; exact h5)))
      have i1 : ¬ (512 : Int) ≤ (n : Int) := by omega
      clear hq h5
      go_wp2
      go_ret3
      exact ⟨trip HR.out, Below.refl _ _⟩
  | some s =>
    rw [show ev (some s) = (s : Int) from rfl]
    have hk := hEnd_le hq
    rw [List.length_take, HLEN.out] at hk
    obtain ⟨B, hB⟩ : ∃ B, s = B + 2 := ⟨s - 2, by omega⟩
    have PB := Lib.hid (show ∀ n e, go (-1) (spl (l.take B)) = (n, e) → ¬ e = 0 → prs l = (0, 0, e) from fun n e h he => prs_bad hq (by rw [hB, Nat.add_sub_cancel]; exact h) he)
    have PO := Lib.hid (show ∀ n, go (-1) (spl (l.take B)) = (n, 0) → prs l = (n, (s : Int), 0) from fun n h => prs_ok hq (by rw [hB, Nat.add_sub_cancel]; exact h))
    have hbe := body_end (l := l) (B := B) (by rw [← hB]; exact (hEnd_of_take hq).1)
    have HBE := Lib.hid hbe
    have hsB : (s : Int) - 2 = (B : Int) := by omega
    have hs0 : ¬ (s : Int) < 0 := by omega
    have hBn : B ≤ n := by omega
    have hB5 : B ≤ 512 := by omega
    have hbe0 : B = 0 ∨ 2 ≤ B := by rcases hbe with g | g <;> omega
    clear hq hbe hB hk
    go_wp2
    go_loopw [6, 7] (fun tv av W => ∃ (t : Int) (a : Nat), tv = .int .i64 t ∧ av = .int .i64 a ∧ (a = B ∨ a + 2 ≤ B) ∧ (t = -1 ∨ 0 ≤ t ∧ t ≤ 65536) ∧ go (-1) (spl (l.take B)) = go t (spl ((l.take B).drop a)) ∧ Below w.heap.size w W) (fun _ av _ => B - (intOf av).toNat)
    case atStart => exact ⟨-1, 0, rfl, rfl, by omega, .inl rfl, by rw [List.drop_zero], Below.refl _ _⟩
    case round =>
      obtain ⟨t, a, rfl, rfl, ha, ht, hgo, hb⟩ := hrel
      have HGO := Lib.hid hgo
      have HBW := Lib.hid hb
      clear hgo hb
      by_cases haB : a = B
      · have hnil : (l.take B).drop a = [] := List.drop_eq_nil_of_le (by rw [List.length_take]; omega)
        have hg2 := HGO.out
        rw [hnil] at hg2
        have i1 : ¬ (a : Int) < (B : Int) := by omega
        by_cases h1 : t = -1
        · subst h1
          have HR := Lib.hid (PB.out 0 60 (hg2.trans (by rw [spl, go_nil, if_pos rfl])) (by omega))
          clear hnil hg2 haB
          go_wp2
          go_ret3
          exact ⟨trip HR.out, HBW.out⟩
        · have HR := Lib.hid (PO.out t (hg2.trans (by rw [spl, go_nil, if_neg h1])))
          have i2 : ¬ t < 0 := by omega
          clear hnil hg2 haB
          go_wp2
          go_ret3
          exact ⟨trip HR.out, HBW.out⟩
      · have ha2 : a + 2 ≤ B := by omega
        obtain ⟨st, n1, n2, n3, n4, n5, n6⟩ := next_line (l := l) (B := B) (a := a) (by rw [HLEN.out]; exact hBn) (HBE.out.resolve_left (by omega)).2.1 (HBE.out.resolve_left (by omega)).2.2 ha2
        have N3 := Lib.hid n3
        have N4 := Lib.hid n4
        have N5 := Lib.hid n5
        have N6 := Lib.hid n6
        have i1 : (a : Int) < (B : Int) := by omega
        obtain ⟨b1, o1, x, rfl, hx, hcx, hlt⟩ := S.out.row.look (j := a) (by omega)
        clear n3 n4 n5 n6 hx hcx ha haB
        have SW := Lib.hid (S.out.below HBW.out)
        go_wp2
        go_loop [8] (fun ix => ∃ j : Nat, a ≤ j ∧ j ≤ st ∧ ix = .int .i64 j) (fun ix => st - (intOf ix).toNat)
        case atStart => exact ⟨a, Nat.le_refl _, n1, rfl⟩
        case round =>
          obtain ⟨j, hj1, hj2, rfl⟩ := hrel
          have PJ := Lib.hid (pair_any _ _ _ _ j _ SW.out (by omega))
          by_cases hjs : j < st
          · have G := Lib.hid (pr_false (N3.out j hj1 hjs))
            go_wp2_with fail
            refine PJ.out.mono ?_
            rintro e w' ⟨rfl, rfl⟩
            rw [G.out]
            go_wp2
            go_round
            case rel => exact ⟨j + 1, by omega, by omega, by go_num⟩
            case measure => simp [intOf]; omega
          · obtain rfl : j = st := by omega
            have G := Lib.hid (pr_true N4.out)
            have TL := Lib.hid (SW.out.cutS a (j - a) (by omega))
            have HBL := Lib.hid ((HL.out.drop a).take (j - a))
            have k1 : (a : Int) ≤ (j : Int) := by omega
            have k2 : (j : Int) ≤ (c : Int) := by omega
            have k3 : ¬ c = a := by omega
            have k4 : ((j : Int) - (a : Int)).toNat = j - a := by omega
            clear hjs hj2
            go_wp2_with fail
            refine PJ.out.mono ?_
            rintro e w' ⟨rfl, rfl⟩
            rw [G.out]
            go_wp2_with fail
            refine (line_any _ _ _ _ _ TL.out HBL.out (by omega)).mono ?_
            rintro e w2 ⟨hb2, ⟨rfl, hbad⟩ | ⟨nm, v, A2, c2, rfl, hnm, t2, hv, hgood⟩⟩
            · have HR := Lib.hid (PB.out 0 60 (HGO.out.trans (by rw [N5.out, go_bad (hbad t) (by omega)])) (by omega))
              have HBX := Lib.hid (ext_trans HBW.out hb2)
              clear hbad hb2
              go_wp2
              go_ret3
              exact ⟨trip HR.out, HBX.out⟩
            · have HBX := Lib.hid (ext_trans HBW.out hb2)
              have T2 := Lib.hid t2
              have HTV : IsB (trm v) := fun x hx => by
                unfold trm at hx
                exact hv x (List.mem_reverse.1 (List.dropWhile_sublist _ |>.mem (List.mem_reverse.1 (List.dropWhile_sublist _ |>.mem hx))))
              have HTV := Lib.hid HTV
              have HGG := Lib.hid hgood
              have hce := cl_eq (low_isB hnm)
              have hm2 : (trm v).length ≤ maxLen := by have := T2.out.max; have := T2.out.le; omega
              clear hb2 t2 hv hgood
              by_cases hcl : nm.map Hm.low = cl
              · rw [decide_eq_true hcl] at hce
                have HCL := Lib.hid hcl
                clear hcl
                generalize bs (nm.map Hm.low) = sn at *
                generalize (trm v).length = tl at *
                go_wp2_with fail
                refine (rparse_any _ _ _ _ _ _ T2.out HTV.out (by omega)).mono ?_
                rintro e w' ⟨rfl, rfl⟩
                have hr := ps_range (trm v)
                obtain ⟨y, er, hps⟩ : ∃ y er, ps (trm v) 65536 = (y, er) := ⟨_, _, rfl⟩
                rw [hps] at hr ⊢
                have HPS := Lib.hid hps
                clear hps
                obtain ⟨her, hy0, hy1⟩ := hr
                have hy0 : 0 ≤ y := hy0
                have hy1 : y ≤ 65536 := hy1
                have her : er = 0 ∨ er = 4 ∨ er = 5 := her
                rcases her with rfl | rfl | rfl
                · by_cases ht1 : t = -1
                  · have HG2 := Lib.hid (HGO.out.trans (by rw [N5.out, go_on ((HGG.out t).trans (fin_same HCL.out HPS.out (.inl ht1)))] : _ = go y (spl ((l.take B).drop (j + 2)))))
                    have i3 : ¬ 0 ≤ t := by omega
                    clear ht1
                    go_wp2
                    go_roundw
                    case rel => exact ⟨y, j + 2, rfl, by go_num, N6.out, .inr ⟨hy0, hy1⟩, HG2.out, HBX.out⟩
                    case measure => simp [intOf]; omega
                  · have i3 : 0 ≤ t := by omega
                    by_cases hyt : t = y
                    · have HG2 := Lib.hid (HGO.out.trans (by rw [N5.out, go_on ((HGG.out t).trans (fin_same HCL.out HPS.out (.inr hyt)))] : _ = go y (spl ((l.take B).drop (j + 2)))))
                      have d3 : (y != t) = false := by simp; omega
                      clear ht1 hyt
                      go_wp2
                      go_roundw
                      case rel => exact ⟨y, j + 2, rfl, by go_num, N6.out, .inr ⟨hy0, hy1⟩, HG2.out, HBX.out⟩
                      case measure => simp [intOf]; omega
                    · have HR := Lib.hid (PB.out 0 60 (HGO.out.trans (by rw [N5.out, go_bad ((HGG.out t).trans (fin_unlike HCL.out HPS.out ht1 hyt)) (by omega)])) (by omega))
                      have d3 : (y != t) = true := by simp; omega
                      clear ht1 hyt
                      have HBZ := HBX
                      go_wp2
                      go_ret3
                      exact ⟨trip HR.out, HBX.out⟩
                · have HR := Lib.hid (PB.out 0 60 (HGO.out.trans (by rw [N5.out, go_bad ((HGG.out t).trans (fin_four HCL.out HPS.out)) (by omega)])) (by omega))
                  have HBZ := HBX
                  go_wp2
                  go_ret3
                  exact ⟨trip HR.out, HBX.out⟩
                · have HR := Lib.hid (PB.out 0 5 (HGO.out.trans (by rw [N5.out, go_bad ((HGG.out t).trans (fin_five HCL.out HPS.out)) (by omega)])) (by omega))
                  have HBZ := HBX
                  go_wp2
                  go_ret3
                  exact ⟨trip HR.out, HBX.out⟩
              · rw [decide_eq_false hcl] at hce
                have HG2 := Lib.hid (HGO.out.trans (by rw [N5.out, go_on ((HGG.out t).trans (fin_other hcl))] : _ = go t (spl ((l.take B).drop (j + 2)))))
                clear hcl
                generalize bs (nm.map Hm.low) = sn at *
                generalize (trm v).length = tl at *
                go_wp2
                go_roundw
                case rel => exact ⟨t, j + 2, rfl, by go_num, N6.out, ht, HG2.out, HBX.out⟩
                case measure => simp [intOf]; omega
end Hi
end Go.Proofs.YtigiiofiajhnlaaGreatDoor
