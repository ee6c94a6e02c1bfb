/-
  What the document's four and escape of layer 8 compute.
-/
import Derived.Test.YtjkaccmhpilojaaEa
namespace Go.Proofs.Ytjkaccmhpilojaa
set_option linter.unusedVariables false
set_option linter.unusedSimpArgs false
open Go.RowKit
namespace Em
open Wd We Utf

theorem f4_nil (k : Nat) (v : Int) : f4 (k + 1) v [] = (0, 3) := rfl
theorem f4_cons (k : Nat) (v a : Int) (r : List Int) : f4 (k + 1) v (a :: r) = if vx a < 0 then (0, 80) else f4 k (v * 16 + vx a) r := rfl
/-- how great a number of i digits can be -/
def Lt16 (i : Nat) (v : Int) : Prop := 0 ≤ v ∧ ((i = 0 ∧ v = 0) ∨ (i = 1 ∧ v ≤ 15) ∨ (i = 2 ∧ v ≤ 255) ∨ (i = 3 ∧ v ≤ 4095) ∨ (i = 4 ∧ v ≤ 65535))
theorem Lt16.next {i : Nat} {v x : Int} (h : Lt16 i v) (hi : i < 4) (h0 : 0 ≤ x) (h1 : x ≤ 15) : Lt16 (i + 1) (v * 16 + x) := by
  obtain ⟨g0, g⟩ := h
  refine ⟨by omega, ?_⟩
  rcases g with ⟨rfl, g⟩ | ⟨rfl, g⟩ | ⟨rfl, g⟩ | ⟨rfl, g⟩ | ⟨rfl, g⟩ <;> omega
theorem Lt16.le {i : Nat} {v : Int} (h : Lt16 i v) : 0 ≤ v ∧ v ≤ 65535 := by
  obtain ⟨g0, g⟩ := h; omega

set_option maxRecDepth 100000 in
set_option maxHeartbeats 1600000 in
theorem rfour_any (A : Option Addr) (n c : Nat) (l : List Int) (w : World) (s : Sl .u8 w A n c l) (hb : IsB l) (p : Nat) (hp : p ≤ n) (hn : n ≤ 140737488360000) :
    Calls Try.prog 50 #[.slice A n c, .int .i64 (p : Int)] w fun e w' => e = .returned (.tuple #[.int .i64 (f4 4 0 (l.drop p)).1, .int .i64 (f4 4 0 (l.drop p)).2]) ∧ w = w' := by
  have hlen := s.len
  have S := Lib.hid s
  have HB := Lib.hid hb
  clear s hb
  go_enter Try.func50, Try.ntmps50
  go_wp2
  go_loopw [6, 7] (fun nv iv wr => ∃ (i : Nat) (v : Int), nv = .int .i64 v ∧ iv = .int .i64 i ∧ i ≤ 4 ∧ Hid (Lt16 i v) ∧ Hid (f4 4 0 (l.drop p) = f4 (4 - i) v (l.drop (p + i))) ∧ wr = w) (fun _ iv _ => 4 - (intOf iv).toNat)
  case atStart => exact ⟨0, 0, rfl, rfl, by omega, Lib.hid ⟨by omega, .inl ⟨rfl, rfl⟩⟩, Lib.hid (by simp), rfl⟩
  case round =>
    obtain ⟨i, v, rfl, rfl, hi, hv, hf, rfl⟩ := hrel
    by_cases hi4 : i < 4
    · have i1 : (i : Int) < 4 := by omega
      have e4 : 4 - i = (4 - (i + 1)) + 1 := by omega
      by_cases hin : p + i < n
      · have i2 : ¬ (n : Int) ≤ (p : Int) + (i : Int) := by omega
        obtain ⟨b, off, x, rfl, hx, hc, _⟩ := S.out.row.look hin
        have hxb := HB.out.at_ hx
        have hfx := hf.out
        rw [e4, List.drop_eq_getElem_cons (show p + i < l.length by omega), f4_cons, show l[p + i]'(by omega) = x by rw [List.getElem?_eq_getElem (by omega)] at hx; injection hx] at hfx
        have CON := Lib.hid (rvalue_any x hxb.1 hxb.2 wr)
        have hvb := vx_bd x
        have hvl := hv.out.le
        have HF := Lib.hid hfx
        have i3 : (0 : Int) ≤ (p : Int) + (i : Int) := by omega
        have i4 : (p : Int) + (i : Int) < (n : Int) := by omega
        have ii : ((p : Int) + (i : Int)).toNat = p + i := by omega
        clear hfx hx
        go_wp2_with fail
        refine CON.out.mono ?_
        rintro e w' ⟨rfl, rfl⟩
        by_cases hx0 : vx x < 0
        · go_wp2_with fail
          go_ret2
          rw [HF.out, if_pos hx0]
          exact ⟨rfl, rfl⟩
        · go_wp2_with fail
          have hf2 := HF.out
          rw [if_neg (by omega)] at hf2
          exact ⟨⟨i + 1, _, rfl, by go_num, by omega, Lib.hid (hv.out.next hi4 (by omega) (by omega)), Lib.hid hf2, trivial⟩, by simp [intOf]; omega⟩
      · have i2 : (n : Int) ≤ (p : Int) + (i : Int) := by omega
        go_wp2_with fail
        go_ret2
        rw [hf.out, e4, List.drop_of_length_le (by omega), f4_nil]
        exact ⟨rfl, rfl⟩
    · obtain rfl : i = 4 := by omega
      go_wp2_with fail
      go_ret2
      rw [hf.out]
      exact ⟨rfl, rfl⟩

theorem esc_cons (x k : Int) (r : List Int) : esc (x :: k :: r) = if k ≠ 117 then (if lg k < 0 then (0, 0, 80) else (lg k, 2, 0)) else if (f4 4 0 r).2 ≠ 0 then (0, 0, (f4 4 0 r).2)
    else if (f4 4 0 r).1 < 55296 ∨ 57343 < (f4 4 0 r).1 then ((f4 4 0 r).1, 6, 0)
    else match (if (f4 4 0 r).1 ≤ 56319 then lo (r.drop 4) else none) with
      | some m => (65536 + 1024 * ((f4 4 0 r).1 - 55296) + m - 56320, 12, 0)
      | none => (65533, 6, 0) := rfl
theorem esc_u {x v : Int} {r : List Int} (h : f4 4 0 r = (v, 0)) : esc (x :: 117 :: r) = if v < 55296 ∨ 57343 < v then ((v, 6, 0) : Int × Nat × Int)
    else match (if v ≤ 56319 then lo (r.drop 4) else none) with
      | some m => (65536 + 1024 * (v - 55296) + m - 56320, 12, 0)
      | none => (65533, 6, 0) := by
  rw [esc_cons, if_neg (fun g => g rfl), h]
  exact if_neg (fun g => g rfl)
theorem esc_u_bad {x v g : Int} {r : List Int} (h : f4 4 0 r = (v, g)) (hg : g ≠ 0) : esc (x :: 117 :: r) = (0, 0, g) := by
  rw [esc_cons, if_neg (fun g => g rfl), h]
  exact if_pos hg
theorem esc_no (x k : Int) (r : List Int) (h : k ≠ 117) : esc (x :: k :: r) = if lg k < 0 then (0, 0, 80) else (lg k, 2, 0) := by rw [esc_cons, if_pos h]
theorem lo_cons (a b : Int) (u : List Int) : lo (a :: b :: u) = if a = 92 ∧ b = 117 ∧ (f4 4 0 u).2 = 0 ∧ 56320 ≤ (f4 4 0 u).1 ∧ (f4 4 0 u).1 ≤ 57343 then some (f4 4 0 u).1 else none := rfl
theorem lo_short {t : List Int} (h : t.length < 2) : lo t = none := by
  rcases t with _ | ⟨a, _ | ⟨b, u⟩⟩
  · rfl
  · rfl
  · simp only [List.length_cons] at h; omega
theorem f4_bd {r : List Int} (h : (f4 4 0 r).2 = 0) : 0 ≤ (f4 4 0 r).1 ∧ (f4 4 0 r).1 ≤ 65535 := by
  rcases f4_ways r with ⟨a, b, c, d, t, _, hd, e⟩ | ⟨e, _⟩ | e
  · rw [e]; exact v4_bd hd
  · rw [e] at h; exact absurd h (by decide)
  · rw [e] at h; exact absurd h (by decide)

/-- what the document's escape answers -/
def EP (l : List Int) (w : World) (e : Ending) (w' : World) : Prop := e = .returned (.tuple #[.int .i64 (esc l).1, .int .i64 ((esc l).2.1 : Nat), .int .i64 (esc l).2.2]) ∧ w = w'
set_option maxRecDepth 100000 in
set_option maxHeartbeats 4000000 in
theorem rescape_any (A : Option Addr) (n c : Nat) (l : List Int) (w : World) (s : Sl .u8 w A n c l) (hb : IsB l) (p : Nat) (hp : p < n) (hn : n ≤ 140737488351232) :
    Calls Try.prog 35 #[.slice A n c, .int .i64 (p : Int)] w (EP (l.drop p) w) := by
  have hlen := s.len
  have hne : l ≠ [] := fun e => by rw [e] at hlen; simp at hlen; omega
  have S := Lib.hid s
  have HB := Lib.hid hb
  obtain ⟨b, off, rfl, hcell⟩ := s.row.2 hne
  have e0 : l.drop p = l[p]'(by omega) :: l.drop (p + 1) := List.drop_eq_getElem_cons (by omega)
  by_cases h1 : n ≤ p + 1
  · have i1 : (n : Int) ≤ (p : Int) + 1 := by omega
    have hE := Lib.hid (show esc (l.drop p) = (0, 0, 3) by rw [e0, List.drop_of_length_le (by omega)]; rfl)
    clear s hb hcell e0
    go_enter Try.func35, Try.ntmps35
    go_wp2
    go_ret3
    unfold EP; rw [hE.out]; exact ⟨rfl, rfl⟩
  have e1 : l.drop (p + 1) = l[p + 1]'(by omega) :: l.drop (p + 2) := List.drop_eq_getElem_cons (by omega)
  rw [e1] at e0
  obtain ⟨x, hx⟩ : ∃ x, l[p]'(by omega) = x := ⟨_, rfl⟩
  obtain ⟨k, hk⟩ : ∃ k, l[p + 1]'(by omega) = k := ⟨_, rfl⟩
  rw [hx, hk] at e0
  have c1 := hcell (p + 1) k (by rw [List.getElem?_eq_getElem (by omega), hk])
  have hkb : 0 ≤ k ∧ k ≤ 255 := by rw [← hk]; exact hb _ (List.getElem_mem _)
  have i1 : ¬ (n : Int) ≤ (p : Int) + 1 := by omega
  have i2 : (0 : Int) ≤ (p : Int) + 1 := by omega
  have i3 : (p : Int) + 1 < (n : Int) := by omega
  by_cases hk2 : k = 117
  · subst hk2
    have F := Lib.hid (rfour_any _ _ _ _ w s hb (p + 2) (by omega) (by omega))
    have E1 := Lib.hid e0
    have HC := Lib.hid hcell
    obtain ⟨v, g, hf⟩ : ∃ v g, f4 4 0 (l.drop (p + 2)) = (v, g) := ⟨_, _, rfl⟩
    rw [hf] at F
    have HF := Lib.hid hf
    have cast2 : ((p + 2 : Nat) : Int) = (p : Int) + 2 := by omega
    rw [cast2] at F
    have hEu : Hid (esc (l.drop p) = esc (x :: 117 :: l.drop (p + 2))) := Lib.hid (by rw [e0])
    clear s hb hcell e0 e1 hx hk hf cast2
    by_cases hg : g = 0
    · subst hg
      have hvb := f4_bd (r := l.drop (p + 2)) (by rw [HF.out])
      rw [HF.out] at hvb
      dsimp only at hvb
      by_cases hv : v < 55296 ∨ 57343 < v
      · have hE := Lib.hid (show esc (l.drop p) = (v, 6, 0) by rw [hEu.out, esc_u HF.out, if_pos hv])
        rcases hv with hv | hv
        · go_enter Try.func35, Try.ntmps35
          go_wp2_with fail
          refine F.out.mono ?_
          rintro e w' ⟨rfl, rfl⟩
          go_wp2_with fail
          go_ret3
          unfold EP; rw [hE.out]; exact ⟨rfl, rfl⟩
        · have hv' : ¬ v < 55296 := by omega
          go_enter Try.func35, Try.ntmps35
          go_wp2_with fail
          refine F.out.mono ?_
          rintro e w' ⟨rfl, rfl⟩
          go_wp2_with fail
          go_ret3
          unfold EP; rw [hE.out]; exact ⟨rfl, rfl⟩
      · have q1 : ¬ v < 55296 := by omega
        have q2 : ¬ 57343 < v := by omega
        have hE0 := Lib.hid (show esc (l.drop p) = (match (if v ≤ 56319 then lo ((l.drop (p + 2)).drop 4) else none) with | some m => (65536 + 1024 * (v - 55296) + m - 56320, 12, 0) | none => (65533, 6, 0)) by rw [hEu.out, esc_u HF.out, if_neg (by omega)])
        have no : ∀ o : Option Int, (if v ≤ 56319 then lo ((l.drop (p + 2)).drop 4) else none) = o → o = none → esc (l.drop p) = (65533, 6, 0) := fun o h1 h2 => by rw [hE0.out, h1, h2]
        by_cases hv2 : v ≤ 56319
        · rw [if_pos hv2, List.drop_drop] at no
          by_cases hp7 : p + 7 < n
          · have i7 : (p : Int) + 7 < (n : Int) := by omega
            have i6 : (p : Int) + 6 < (n : Int) := by omega
            have j6 : (0 : Int) ≤ (p : Int) + 6 := by omega
            have j7 : (0 : Int) ≤ (p : Int) + 7 := by omega
            obtain ⟨y, hy⟩ : ∃ y, l[p + 6]'(by omega) = y := ⟨_, rfl⟩
            obtain ⟨z, hz⟩ : ∃ z, l[p + 7]'(by omega) = z := ⟨_, rfl⟩
            have c6 := HC.out (p + 6) y (by rw [List.getElem?_eq_getElem (by omega), hy])
            have c7 := HC.out (p + 7) z (by rw [List.getElem?_eq_getElem (by omega), hz])
            have e6 : l.drop (p + 6) = y :: z :: l.drop (p + 8) := by
              rw [List.drop_eq_getElem_cons (show p + 6 < l.length by omega), List.drop_eq_getElem_cons (show p + 7 < l.length by omega), hy, hz]
            have hloc : Hid (lo (l.drop (p + 6)) = if y = 92 ∧ z = 117 ∧ (f4 4 0 (l.drop (p + 8))).2 = 0 ∧ 56320 ≤ (f4 4 0 (l.drop (p + 8))).1 ∧ (f4 4 0 (l.drop (p + 8))).1 ≤ 57343 then some (f4 4 0 (l.drop (p + 8))).1 else none) := Lib.hid (by rw [e6]; rfl)
            have NO := Lib.hid no
            clear no e6 hy hz hEu
            by_cases hy2 : y = 92
            · subst hy2
              by_cases hz2 : z = 117
              · subst hz2
                obtain ⟨m, g2, hf2⟩ : ∃ m g2, f4 4 0 (l.drop (p + 8)) = (m, g2) := ⟨_, _, rfl⟩
                have F2 := rfour_any _ _ _ _ w S.out HB.out (p + 8) (by omega) (by omega)
                rw [hf2, show ((p + 8 : Nat) : Int) = (p : Int) + 8 by omega] at F2
                have FF := Lib.hid F2
                have HF2 := Lib.hid hf2
                clear F2 hf2
                by_cases hp2 : g2 = 0 ∧ 56320 ≤ m ∧ m ≤ 57343
                · obtain ⟨rfl, m1, m2⟩ := hp2
                  have hE := Lib.hid (show esc (l.drop p) = (65536 + 1024 * (v - 55296) + m - 56320, 12, 0) by rw [hE0.out, if_pos hv2, List.drop_drop, show p + 2 + 4 = p + 6 by omega, hloc.out, HF2.out, if_pos ⟨rfl, rfl, rfl, m1, m2⟩])
                  go_enter Try.func35, Try.ntmps35
                  go_wp2_with fail
                  refine F.out.mono ?_
                  rintro e w' ⟨rfl, rfl⟩
                  go_wp2_with fail
                  refine FF.out.mono ?_
                  rintro e w' ⟨rfl, rfl⟩
                  go_wp2_with fail
                  go_ret3
                  unfold EP; rw [hE.out]; exact ⟨by first | rfl | (congr 4; done) | (congr 4; go_num), rfl⟩
                · have hE := Lib.hid (show esc (l.drop p) = (65533, 6, 0) from NO.out _ rfl (by rw [show (p + 2 + 4) = p + 6 by omega, hloc.out, HF2.out, if_neg (fun q => hp2 ⟨q.2.2.1, q.2.2.2.1, q.2.2.2.2⟩)]))
                  rcases (show g2 ≠ 0 ∨ (g2 = 0 ∧ m < 56320) ∨ (g2 = 0 ∧ 56320 ≤ m ∧ 57343 < m) by omega) with hg2 | ⟨rfl, hm1⟩ | ⟨rfl, hm1, hm2⟩
                  all_goals
                    go_enter Try.func35, Try.ntmps35
                    go_wp2_with fail
                    refine F.out.mono ?_
                    rintro e w' ⟨rfl, rfl⟩
                    go_wp2_with fail
                    refine FF.out.mono ?_
                    rintro e w' ⟨rfl, rfl⟩
                    go_wp2_with fail
                    go_ret3
                    unfold EP; rw [hE.out]; exact ⟨rfl, rfl⟩
              · have hE := Lib.hid (show esc (l.drop p) = (65533, 6, 0) from NO.out _ rfl (by rw [show (p + 2 + 4) = p + 6 by omega, hloc.out, if_neg (by omega)]))
                go_enter Try.func35, Try.ntmps35
                go_wp2_with fail
                refine F.out.mono ?_
                rintro e w' ⟨rfl, rfl⟩
                go_wp2_with fail
                go_ret3
                unfold EP; rw [hE.out]; exact ⟨rfl, rfl⟩
            · have hE := Lib.hid (show esc (l.drop p) = (65533, 6, 0) from NO.out _ rfl (by rw [show (p + 2 + 4) = p + 6 by omega, hloc.out, if_neg (by omega)]))
              go_enter Try.func35, Try.ntmps35
              go_wp2_with fail
              refine F.out.mono ?_
              rintro e w' ⟨rfl, rfl⟩
              go_wp2_with fail
              go_ret3
              unfold EP; rw [hE.out]; exact ⟨rfl, rfl⟩
          · have hE := Lib.hid (show esc (l.drop p) = (65533, 6, 0) from no _ rfl (lo_short (by rw [List.length_drop]; omega)))
            have i7 : ¬ (p : Int) + 7 < (n : Int) := by omega
            go_enter Try.func35, Try.ntmps35
            go_wp2_with fail
            refine F.out.mono ?_
            rintro e w' ⟨rfl, rfl⟩
            go_wp2_with fail
            go_ret3
            unfold EP; rw [hE.out]; exact ⟨rfl, rfl⟩
        · have hE := Lib.hid (show esc (l.drop p) = (65533, 6, 0) from no _ (if_neg hv2) rfl)
          go_enter Try.func35, Try.ntmps35
          go_wp2_with fail
          refine F.out.mono ?_
          rintro e w' ⟨rfl, rfl⟩
          go_wp2_with fail
          go_ret3
          unfold EP; rw [hE.out]; exact ⟨rfl, rfl⟩
    · have hE := Lib.hid (show esc (l.drop p) = (0, 0, g) by rw [hEu.out, esc_u_bad HF.out hg])
      go_enter Try.func35, Try.ntmps35
      go_wp2_with fail
      refine F.out.mono ?_
      rintro e w' ⟨rfl, rfl⟩
      go_wp2_with fail
      go_ret3
      unfold EP; rw [hE.out]; exact ⟨rfl, rfl⟩
  · have CON := Lib.hid (rlong_any k w)
    have hE : Hid (esc (l.drop p) = if lg k < 0 then (0, 0, 80) else (lg k, 2, 0)) := Lib.hid (by rw [e0]; exact esc_no x k _ hk2)
    clear s hb hcell e0 e1 hx hk
    by_cases hl : lg k < 0
    · rw [if_pos hl] at hE
      go_enter Try.func35, Try.ntmps35
      go_wp2_with fail
      refine CON.out.mono ?_
      rintro e w' ⟨rfl, rfl⟩
      go_wp2_with fail
      go_ret3
      unfold EP; rw [hE.out]; exact ⟨rfl, rfl⟩
    · rw [if_neg hl] at hE
      go_enter Try.func35, Try.ntmps35
      go_wp2_with fail
      refine CON.out.mono ?_
      rintro e w' ⟨rfl, rfl⟩
      go_wp2_with fail
      go_ret3
      unfold EP; rw [hE.out]; exact ⟨rfl, rfl⟩
end Em
end Go.Proofs.Ytjkaccmhpilojaa
