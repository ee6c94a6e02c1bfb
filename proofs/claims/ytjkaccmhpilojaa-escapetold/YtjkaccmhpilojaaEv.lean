/-
  What the program's Unquote of layer 8 computes: what the document's does.
-/
import Derived.Test.YtjkaccmhpilojaaEu
namespace Go.Proofs.Ytjkaccmhpilojaa
set_option linter.unusedVariables false
set_option linter.unusedSimpArgs false
open Go.RowKit
namespace Em
open Wd We Utf Es Wi Wf Wr

set_option maxRecDepth 100000 in
set_option maxHeartbeats 4000000 in
theorem unq_ok : UnqOk := by
  intro A n c l a w s hb hn ha0 ha1
  obtain ⟨i0, hi, hz0, hz1, hz2⟩ := info_parts u8_info
  have hlen := s.len
  have hcm : c ≤ 9223372036854775807 := by have := s.max; unfold maxLen at this; omega
  have hcn := s.le
  have S := Lib.hid s
  have HB := Lib.hid hb
  clear s hb
  by_cases ha : a < 0 ∨ (n : Int) < a
  · have hE := Lib.hid (show uq l a = ([], 0, 9) from uq_out (by rw [hlen]; exact ha))
    rcases ha with ha | ha
    · go_enter Try.func14, Try.ntmps14
      go_wp2
      go_ret3
      unfold UP; rw [hE.out]; exact ⟨rfl, Below.refl _ _⟩
    · have ha' : ¬ a < 0 := by omega
      go_enter Try.func14, Try.ntmps14
      go_wp2
      go_ret3
      unfold UP; rw [hE.out]; exact ⟨rfl, Below.refl _ _⟩
  obtain ⟨p, rfl⟩ := Int.eq_ofNat_of_zero_le (a := a) (by omega)
  have hp : p ≤ n := by omega
  have j1 : ¬ (p : Int) < 0 := by omega
  have j2 : ¬ (n : Int) < (p : Int) := by omega
  clear ha ha0 ha1
  by_cases hpn : p = n
  · subst hpn
    have hE := Lib.hid (show uq l (p : Int) = ([], 0, 3) from uq_bad (by omega) (s := []) (k := 0) (by rw [List.drop_of_length_le (by omega)]; rfl) (by decide))
    go_enter Try.func14, Try.ntmps14
    go_wp2
    go_ret3
    unfold UP; rw [hE.out]; exact ⟨rfl, Below.refl _ _⟩
  have j3 : ¬ (p : Int) = (n : Int) := by omega
  have j4 : (p : Int) < (n : Int) := by omega
  have hne : l ≠ [] := fun e => by rw [e] at hlen; simp at hlen; omega
  obtain ⟨b, off, rfl, hcell⟩ := S.out.row.2 hne
  obtain ⟨x, hx⟩ : ∃ x, l[p]'(by omega) = x := ⟨_, rfl⟩
  have hpx : l[p]? = some x := by rw [List.getElem?_eq_getElem (by omega), hx]
  have c0' := hcell p x hpx
  have e0 : l.drop p = x :: l.drop (p + 1) := by rw [List.drop_eq_getElem_cons (by omega), hx]
  by_cases h34 : x = 34
  · subst h34
    have HC := Lib.hid hcell
    have HP := Lib.hid hpx
    have hmix := HB.out
    clear hcell e0 hx hpx
    go_enter Try.func14, Try.ntmps14
    go_wp2_with fail
    clear c0'
    go_loopw [1, 7] (fun av ov wr => ∃ (q : Nat) (o : List Int), av = .int .i64 q ∧ p + 1 ≤ q ∧ q ≤ n ∧ o.length ≤ q ∧ Hid (IsB o) ∧ Hid (Wd.Own .u8 5 wr w.heap.size ov o) ∧ Hid (Below w.heap.size w wr) ∧ Hid (ub (l.drop (p + 1)) = bnd o (q - (p + 1)) (ub (l.drop q)))) (fun av _ _ => n - (intOf av).toNat)
    case atStart => exact ⟨p + 1, [], by go_num, by omega, by omega, by simp, Lib.hid (fun x hx => by cases hx), Lib.hid Wd.Own.nil, Lib.hid (Below.refl _ _), Lib.hid (by rw [Nat.sub_self]; exact (bnd_nil (HB.out.drop _)).symm)⟩
    case round =>
      obtain ⟨q, o, rfl, hpq, hqn, hol, hio, hoo, hbw, hu⟩ := hrel
      have hsz := hbw.out.size
      by_cases hqe : q = n
      · subst hqe
        have R := Lib.hid (UP.no (w := w) HB.out (show p < l.length by omega) HP.out hu.out (by rw [List.drop_of_length_le (by omega)]; exact ub_nil) (by decide) hbw.out)
        go_wp2
        go_ret3
        exact R.out
      have hql : q < l.length := by omega
      obtain ⟨y, hy⟩ : ∃ y, l[q]'hql = y := ⟨_, rfl⟩
      have hqy : l[q]? = some y := by rw [List.getElem?_eq_getElem hql, hy]
      have cq := (hbw.out.cell (p := ⟨b, off + q, none⟩) (lt_of_cell (HC.out q y hqy))).trans (HC.out q y hqy)
      have k2 : (q : Int) < (n : Int) := by omega
      have eq : l.drop q = y :: l.drop (q + 1) := by rw [List.drop_eq_getElem_cons hql, hy]
      by_cases hy34 : y = 34
      · subst hy34
        obtain ⟨Ao, co, rfl, so, _⟩ := hoo.out.sl
        have kc := conv_bs so
        have e1 : l.drop p = 34 :: l.drop (p + 1) := by
          rw [List.drop_eq_getElem_cons (by omega)]; congr 1
          have := HP.out; rw [List.getElem?_eq_getElem (by omega)] at this; injection this
        have h' : ub (l.drop q) = ([], 1, 0) := by rw [eq]; exact ub_end _
        have h2 : unq (l.drop p) = (o, 1 + (q - (p + 1) + 1), 0) := by rw [e1, unq_yes, hu.out, h', bnd_ok (q := ([], 1, 0)) rfl, bnd_ok rfl]; simp
        have hE := Lib.hid (uq_good (by omega) h2)
        have hEp : p + (1 + (q - (p + 1) + 1)) = q + 1 := by omega
        rw [hEp] at hE
        clear h' h2 e1 eq hy hqy
        go_wp2
        go_ret3
        unfold UP; rw [hE.out]; exact ⟨by go_num, hbw.out⟩
      · have hs := (S.out.below hbw.out).cutS q (n - q) (by omega)
        rw [List.take_of_length_le (by rw [List.length_drop]; omega), eq] at hs
        have hbq : IsB (y :: l.drop (q + 1)) := by rw [← eq]; exact HB.out.drop q
        have RD := read_any _ _ _ _ _ wr hs hbq (by omega) hy34
        rw [← eq] at RD
        have HR := Lib.hid RD
        have m3 : ¬ c = q := by omega
        have m4 : ¬ (c : Int) = (q : Int) := by omega
        have m5 : (q : Int) ≤ (n : Int) := by omega
        have m6 : (0 : Int) ≤ (q : Int) := by omega
        have m7 : (n : Int) ≤ (c : Int) := by omega
        clear RD hs hbq eq hy hqy
        go_wp2_with fail
        refine HR.out.mono ?_
        rintro e w' ⟨hbr, ⟨z, hz, hub, rfl⟩ | ⟨pt, k, A', c', h1, h2, h3, h4, h5, h6, rfl⟩⟩
        · have R := Lib.hid (UP.no (w := w) HB.out (show p < l.length by omega) HP.out hu.out hub hz (hbw.out.trans (hbr.mono hsz)))
          clear hub hbr
          go_wp2_with fail
          go_ret3
          exact R.out
        · rw [List.length_drop] at h2
          rw [List.drop_drop] at h5
          have hm : q + k ≤ n := by omega
          have HU : Hid (ub (l.drop (p + 1)) = bnd (o ++ pt) (q + k - (p + 1)) (ub (l.drop (q + k)))) := Lib.hid (by rw [hu.out, h5, bnd_bnd, show q - (p + 1) + k = q + k - (p + 1) by omega])
          have IE := Lib.hid h4
          have SE := Lib.hid h6
          have OE := Lib.hid (Wd.Own.below hoo.out hbr (fun g hg' => (hoo.out.lt hg').2))
          have BE := Lib.hid (hbw.out.trans (hbr.mono hsz))
          have hs' := hbr.size
          clear h4 h5 h6 hbr hu hoo hbw h2
          go_wp2_with (at_builtin; refine wp_app rfl _ _ _ rfl w.heap.size Try.underlying27 hi hz0 hz1 hz2 rfl rfl OE.out rfl SE.out (by omega) (by unfold maxLen; omega) (by omega) ?_; intro v3 w3 ho3 hb3 _; have HO3 := Lib.hid ho3; have HB3 := Lib.hid (BE.out.trans hb3); clear ho3 hb3)
          exact ⟨⟨q + k, o ++ pt, by go_num, by omega, hm, by rw [List.length_append]; omega, Lib.hid (hio.out.append IE.out), HO3, HB3, HU⟩, by simp [intOf]; omega⟩
  · have hE := Lib.hid (show uq l (p : Int) = ([], 0, 80) from uq_bad (by omega) (s := []) (k := 0) (by rw [e0]; exact unq_no h34) (by decide))
    clear hcell e0
    go_enter Try.func14, Try.ntmps14
    go_wp2
    go_ret3
    unfold UP; rw [hE.out]; exact ⟨rfl, Below.refl _ _⟩
end Em
end Go.Proofs.Ytjkaccmhpilojaa
