/-
  What the document's power of layer 9 computes.
-/
import Derived.Test.YtjgkaccmfdjffaaDoorNh
import Derived.Test.YtjgkaccmfdjffaaDoorNc
import Derived.Test.YtjgkaccmfdjffaaDoorEs
namespace Go.Proofs.YtjgkaccmfdjffaaDoor
set_option linter.unusedVariables false
set_option linter.unusedSimpArgs false
open Go.RowKit
namespace Nu
open Wd We Es
open Dm (Ds vl decs vl_pos vl_lt vl_next)

def slen9 : Value → Nat
  | .slice _ n _ => n
  | _ => 0
theorem Sl.from9 {k : IntKind} {w : World} {A : Option Addr} {n c : Nat} {l : List Int} (s : Sl k w A n c l) (j : Nat) (hj : j ≤ n) : Sl k w (if c = j then A else A.map (fun x => x.add j)) (n - j) (c - j) (l.drop j) := by
  have hr := s.row.cut j (n - j) (by omega)
  have e : (l.drop j).take (n - j) = l.drop j := List.take_of_length_le (by rw [List.length_drop, s.len]; omega)
  rw [e] at hr
  have hle := s.le
  by_cases h : c = j
  · rw [if_pos h]
    have h0 : l.drop j = [] := List.drop_of_length_le (by rw [s.len]; omega)
    have h1 : n - j = 0 := by omega
    rw [h0, h1]
    exact ⟨Row.nil, by omega, by have := s.max; omega, fun e => by have := s.nil e; omega⟩
  · rw [if_neg h]
    exact ⟨hr, by omega, by have := s.max; omega, fun e => by cases A with | none => have := s.nil rfl; omega | some a => cases e⟩
/-- how digits begin: no nought, or one -/
theorem first_of (m : List Int) : (m = [] ∧ nz m = m) ∨ ∃ y, m[0]? = some y ∧ ((¬ y = 48 ∧ nz m = m) ∨ (y = 48 ∧ nz m = nz (m.drop 1))) := by
  rcases m with _ | ⟨y, t⟩
  · exact .inl ⟨rfl, rfl⟩
  · refine .inr ⟨y, rfl, ?_⟩
    by_cases h : y = 48
    · subst h; exact .inr ⟨rfl, nz_zero t⟩
    · exact .inl ⟨h, nz_other h t⟩

set_option maxRecDepth 100000 in
set_option maxHeartbeats 4000000 in
theorem rpower_any (A : Option Addr) (n c : Nat) (l : List Int) (w : World) (s : Sl .u8 w A n c l) (hd : Ds (if hd1 43 45 l then l.drop 1 else l)) :
    Calls Tryd.prog 45 #[.slice A n c] w fun e w' => e = .returned (.tuple #[.int .i64 ((pw l).getD 0), .bool (pw l).isSome]) ∧ w = w' := by
  have hle := s.le
  have hmx : c ≤ 9223372036854775807 := by have := s.max; unfold maxLen at this; omega
  have S := Lib.hid s
  have hlen := s.len
  clear s
  rcases l with _ | ⟨x, t⟩
  · have hz0 : n = 0 := hlen.symm
    subst hz0
    have hb0 : hd1 45 45 ([] : List Int) = false := rfl
    have HPD := Lib.hid (show nz ([] : List Int) = pd [] from rfl)
    have HDS0 := Lib.hid (show Ds ([] : List Int) from hd)
    clear hd hlen
    go_enter Tryd.func45, Tryd.ntmps45
    go_wp2
    go_loopw [0] (fun bv wr => ∃ (A' : Option Addr) (n' c' : Nat) (m : List Int), bv = .slice A' n' c' ∧ Hid (Sl .u8 w A' n' c' m) ∧ Hid (Ds m) ∧ Hid (nz m = pd []) ∧ wr = w) (fun bv _ => slen9 bv)
    case atStart => exact ⟨_, _, _, [], rfl, S, HDS0, HPD, rfl⟩
    case round =>
      obtain ⟨A', n', c', m, rfl, SM, HDS, HNZ, rfl⟩ := hrel
      have hle' := SM.out.le
      have hmx' : c' ≤ 9223372036854775807 := by have := SM.out.max; unfold maxLen at this; omega
      rcases first_of m with hm | ⟨y, hy, hm⟩
      · have hz : ¬ (0 : Int) < (n' : Int) := by have := SM.out.len; rw [hm.1] at this; simp at this; omega
        have HD := Lib.hid (show m = pd [] by rw [← HNZ.out, hm.2])
        clear hm
        by_cases hl : 15 < n'
        · have hp := Lib.hid (show pw [] = none from if_pos (by rw [← HD.out, SM.out.len]; exact hl))
          have hl' : (15 : Int) < (n' : Int) := by omega
          go_wp2
          all_goals
            go_ret2
            exact ⟨by rw [hp.out]; rfl, rfl⟩
        · have hl' : ¬ (15 : Int) < (n' : Int) := by omega
          have hp := Lib.hid (show pw [] = some (if hd1 45 45 [] then - vl m else vl m) by unfold pw; rw [← HD.out, if_neg (by rw [SM.out.len]; exact hl)])
          have hn15 : n' ≤ 15 := by omega
          clear hl
          go_wp2
          go_loopw [5, 6] (fun nv iv w2 => ∃ i : Nat, nv = .int .i64 (vl (m.take i)) ∧ iv = .int .i64 i ∧ i ≤ n' ∧ w2 = wr) (fun _ iv _ => n' - (intOf iv).toNat)
          case atStart => exact ⟨0, rfl, rfl, by omega, rfl⟩
          case round =>
            obtain ⟨i, rfl, rfl, hi, rfl⟩ := hrel
            have hdt := HDS.out.take i
            have hv0 := vl_pos hdt
            have hv1 := vl_lt hdt
            have hpow : (10 : Int) ^ (m.take i).length ≤ 10 ^ 15 := by
              have h3 : 10 ^ (m.take i).length ≤ 10 ^ 15 := Nat.pow_le_pow_right (by omega) (by rw [List.length_take]; omega)
              exact_mod_cast h3
            have hv2 : vl (m.take i) < 1000000000000000 := by omega
            clear hpow hv1
            by_cases hin : i < n'
            · have i1 : (i : Int) < (n' : Int) := by omega
              obtain ⟨b', off', y, hA, hy, hcy, _⟩ := SM.out.row.look hin
              have hyd := HDS.out y (List.mem_of_getElem? hy)
              have hnx := vl_next hy
              cases hA
              obtain ⟨V, hV⟩ : ∃ V, vl (m.take i) = V := ⟨_, rfl⟩
              rw [hV] at hv0 hv2 hnx ⊢
              have HNX := Lib.hid hnx
              have y0 : 48 ≤ y := hyd.1
              have y1 : y ≤ 57 := hyd.2
              clear hnx hy hyd hV hdt
              go_wp2
              exact ⟨⟨i + 1, by first | (rw [HNX.out]; done) | (rw [HNX.out]; go_num), by go_num, by omega, by trivial⟩, by simp [intOf]; omega⟩
            · obtain rfl : i = n' := by omega
              have htk : m.take i = m := List.take_of_length_le (by rw [SM.out.len]; exact Nat.le_refl _)
              rw [htk] at hv0 hv2 ⊢
              rw [hb0] at hp
              go_wp2
              go_ret2
              exact ⟨by rw [hp.out]; rfl, rfl⟩
      · have hz : (0 : Int) < (n' : Int) := by have := SM.out.len; have := lt_of_some hy; omega
        obtain ⟨b2, off2, hA2, hc2⟩ := SM.out.row.2 (by rintro rfl; simp at hy)
        subst hA2
        have c2 : wr.cell? ⟨b2, off2, none⟩ = some (.int .u8 y) := hc2 0 y hy
        clear hc2
        rcases hm with ⟨hy48, hm⟩ | ⟨rfl, hm⟩
        · have HD := Lib.hid (show m = pd [] by rw [← HNZ.out, hm])
          clear hm hy
          by_cases hl : 15 < n'
          · have hp := Lib.hid (show pw [] = none from if_pos (by rw [← HD.out, SM.out.len]; exact hl))
            have hl' : (15 : Int) < (n' : Int) := by omega
            go_wp2
            all_goals
              go_ret2
              exact ⟨by rw [hp.out]; rfl, rfl⟩
          · have hl' : ¬ (15 : Int) < (n' : Int) := by omega
            have hp := Lib.hid (show pw [] = some (if hd1 45 45 [] then - vl m else vl m) by unfold pw; rw [← HD.out, if_neg (by rw [SM.out.len]; exact hl)])
            have hn15 : n' ≤ 15 := by omega
            clear hl
            go_wp2
            go_loopw [5, 6] (fun nv iv w2 => ∃ i : Nat, nv = .int .i64 (vl (m.take i)) ∧ iv = .int .i64 i ∧ i ≤ n' ∧ w2 = wr) (fun _ iv _ => n' - (intOf iv).toNat)
            case atStart => exact ⟨0, rfl, rfl, by omega, rfl⟩
            case round =>
              obtain ⟨i, rfl, rfl, hi, rfl⟩ := hrel
              have hdt := HDS.out.take i
              have hv0 := vl_pos hdt
              have hv1 := vl_lt hdt
              have hpow : (10 : Int) ^ (m.take i).length ≤ 10 ^ 15 := by
                have h3 : 10 ^ (m.take i).length ≤ 10 ^ 15 := Nat.pow_le_pow_right (by omega) (by rw [List.length_take]; omega)
                exact_mod_cast h3
              have hv2 : vl (m.take i) < 1000000000000000 := by omega
              clear hpow hv1
              by_cases hin : i < n'
              · have i1 : (i : Int) < (n' : Int) := by omega
                obtain ⟨b', off', y, hA, hy, hcy, _⟩ := SM.out.row.look hin
                have hyd := HDS.out y (List.mem_of_getElem? hy)
                have hnx := vl_next hy
                cases hA
                obtain ⟨V, hV⟩ : ∃ V, vl (m.take i) = V := ⟨_, rfl⟩
                rw [hV] at hv0 hv2 hnx ⊢
                have HNX := Lib.hid hnx
                have y0 : 48 ≤ y := hyd.1
                have y1 : y ≤ 57 := hyd.2
                clear hnx hy hyd hV hdt
                go_wp2
                exact ⟨⟨i + 1, by first | (rw [HNX.out]; done) | (rw [HNX.out]; go_num), by go_num, by omega, by trivial⟩, by simp [intOf]; omega⟩
              · obtain rfl : i = n' := by omega
                have htk : m.take i = m := List.take_of_length_le (by rw [SM.out.len]; exact Nat.le_refl _)
                rw [htk] at hv0 hv2 ⊢
                rw [hb0] at hp
                go_wp2
                go_ret2
                exact ⟨by rw [hp.out]; rfl, rfl⟩
        · have hn1 : 1 ≤ n' := by omega
          have HNZ2 := Lib.hid (show nz (m.drop 1) = pd [] by rw [← HNZ.out, hm])
          have HDS2 := Lib.hid (show Ds (m.drop 1) from fun x hx => HDS.out x (List.mem_of_mem_drop hx))
          have S2 := Sl.from9 SM.out 1 hn1
          clear hm hy
          by_cases hc1 : c' = 1
          · rw [if_pos hc1] at S2
            subst hc1
            obtain rfl : n' = 1 := by omega
            have HS2 := Lib.hid S2
            clear S2
            go_wp2
            exact ⟨⟨_, _, _, m.drop 1, rfl, HS2, HDS2, HNZ2, by trivial⟩, by simp [slen9]⟩
          · rw [if_neg hc1] at S2
            have HS2 := Lib.hid S2
            clear S2
            go_wp2
            exact ⟨⟨_, _, _, m.drop 1, rfl, HS2, HDS2, HNZ2, by trivial⟩, by simp [slen9]; omega⟩
  · have hn1 : 1 ≤ n := by simp only [List.length_cons] at hlen; omega
    have hpos : (0 : Int) < (n : Int) := by omega
    obtain ⟨b0, off0, hA0, hcell⟩ := S.out.row.2 (by simp)
    subst hA0
    have c0 : w.cell? ⟨b0, off0, none⟩ = some (.int .u8 x) := hcell 0 x rfl
    clear hcell
    by_cases h45 : x = 45
    · subst h45
      have hb0 : hd1 45 45 (45 :: t) = true := rfl
      have HPD := Lib.hid (show nz t = pd (45 :: t) from rfl)
      have HDS0 := Lib.hid (show Ds t from hd)
      have S2 := Sl.from9 S.out 1 hn1
      rw [show (45 :: t).drop 1 = t from rfl] at S2
      clear hd hlen
      by_cases hc1 : c = 1
      · rw [if_pos hc1] at S2
        subst hc1
        obtain rfl : n = 1 := by omega
        have HS2 := Lib.hid S2
        clear S2
        go_enter Tryd.func45, Tryd.ntmps45
        go_wp2
        go_loopw [0] (fun bv wr => ∃ (A' : Option Addr) (n' c' : Nat) (m : List Int), bv = .slice A' n' c' ∧ Hid (Sl .u8 w A' n' c' m) ∧ Hid (Ds m) ∧ Hid (nz m = pd (45 :: t)) ∧ wr = w) (fun bv _ => slen9 bv)
        case atStart => exact ⟨_, _, _, t, rfl, HS2, HDS0, HPD, rfl⟩
        case round =>
          obtain ⟨A', n', c', m, rfl, SM, HDS, HNZ, rfl⟩ := hrel
          have hle' := SM.out.le
          have hmx' : c' ≤ 9223372036854775807 := by have := SM.out.max; unfold maxLen at this; omega
          rcases first_of m with hm | ⟨y, hy, hm⟩
          · have hz : ¬ (0 : Int) < (n' : Int) := by have := SM.out.len; rw [hm.1] at this; simp at this; omega
            have HD := Lib.hid (show m = pd (45 :: t) by rw [← HNZ.out, hm.2])
            clear hm
            by_cases hl : 15 < n'
            · have hp := Lib.hid (show pw (45 :: t) = none from if_pos (by rw [← HD.out, SM.out.len]; exact hl))
              have hl' : (15 : Int) < (n' : Int) := by omega
              go_wp2
              all_goals
                go_ret2
                exact ⟨by rw [hp.out]; rfl, rfl⟩
            · have hl' : ¬ (15 : Int) < (n' : Int) := by omega
              have hp := Lib.hid (show pw (45 :: t) = some (if hd1 45 45 (45 :: t) then - vl m else vl m) by unfold pw; rw [← HD.out, if_neg (by rw [SM.out.len]; exact hl)])
              have hn15 : n' ≤ 15 := by omega
              clear hl
              go_wp2
              go_loopw [5, 6] (fun nv iv w2 => ∃ i : Nat, nv = .int .i64 (vl (m.take i)) ∧ iv = .int .i64 i ∧ i ≤ n' ∧ w2 = wr) (fun _ iv _ => n' - (intOf iv).toNat)
              case atStart => exact ⟨0, rfl, rfl, by omega, rfl⟩
              case round =>
                obtain ⟨i, rfl, rfl, hi, rfl⟩ := hrel
                have hdt := HDS.out.take i
                have hv0 := vl_pos hdt
                have hv1 := vl_lt hdt
                have hpow : (10 : Int) ^ (m.take i).length ≤ 10 ^ 15 := by
                  have h3 : 10 ^ (m.take i).length ≤ 10 ^ 15 := Nat.pow_le_pow_right (by omega) (by rw [List.length_take]; omega)
                  exact_mod_cast h3
                have hv2 : vl (m.take i) < 1000000000000000 := by omega
                clear hpow hv1
                by_cases hin : i < n'
                · have i1 : (i : Int) < (n' : Int) := by omega
                  obtain ⟨b', off', y, hA, hy, hcy, _⟩ := SM.out.row.look hin
                  have hyd := HDS.out y (List.mem_of_getElem? hy)
                  have hnx := vl_next hy
                  cases hA
                  obtain ⟨V, hV⟩ : ∃ V, vl (m.take i) = V := ⟨_, rfl⟩
                  rw [hV] at hv0 hv2 hnx ⊢
                  have HNX := Lib.hid hnx
                  have y0 : 48 ≤ y := hyd.1
                  have y1 : y ≤ 57 := hyd.2
                  clear hnx hy hyd hV hdt
                  go_wp2
                  exact ⟨⟨i + 1, by first | (rw [HNX.out]; done) | (rw [HNX.out]; go_num), by go_num, by omega, by trivial⟩, by simp [intOf]; omega⟩
                · obtain rfl : i = n' := by omega
                  have htk : m.take i = m := List.take_of_length_le (by rw [SM.out.len]; exact Nat.le_refl _)
                  rw [htk] at hv0 hv2 ⊢
                  rw [hb0] at hp
                  go_wp2
                  go_ret2
                  exact ⟨by rw [hp.out]; rfl, rfl⟩
          · have hz : (0 : Int) < (n' : Int) := by have := SM.out.len; have := lt_of_some hy; omega
            obtain ⟨b2, off2, hA2, hc2⟩ := SM.out.row.2 (by rintro rfl; simp at hy)
            subst hA2
            have c2 : wr.cell? ⟨b2, off2, none⟩ = some (.int .u8 y) := hc2 0 y hy
            clear hc2
            rcases hm with ⟨hy48, hm⟩ | ⟨rfl, hm⟩
            · have HD := Lib.hid (show m = pd (45 :: t) by rw [← HNZ.out, hm])
              clear hm hy
              by_cases hl : 15 < n'
              · have hp := Lib.hid (show pw (45 :: t) = none from if_pos (by rw [← HD.out, SM.out.len]; exact hl))
                have hl' : (15 : Int) < (n' : Int) := by omega
                go_wp2
                all_goals
                  go_ret2
                  exact ⟨by rw [hp.out]; rfl, rfl⟩
              · have hl' : ¬ (15 : Int) < (n' : Int) := by omega
                have hp := Lib.hid (show pw (45 :: t) = some (if hd1 45 45 (45 :: t) then - vl m else vl m) by unfold pw; rw [← HD.out, if_neg (by rw [SM.out.len]; exact hl)])
                have hn15 : n' ≤ 15 := by omega
                clear hl
                go_wp2
                go_loopw [5, 6] (fun nv iv w2 => ∃ i : Nat, nv = .int .i64 (vl (m.take i)) ∧ iv = .int .i64 i ∧ i ≤ n' ∧ w2 = wr) (fun _ iv _ => n' - (intOf iv).toNat)
                case atStart => exact ⟨0, rfl, rfl, by omega, rfl⟩
                case round =>
                  obtain ⟨i, rfl, rfl, hi, rfl⟩ := hrel
                  have hdt := HDS.out.take i
                  have hv0 := vl_pos hdt
                  have hv1 := vl_lt hdt
                  have hpow : (10 : Int) ^ (m.take i).length ≤ 10 ^ 15 := by
                    have h3 : 10 ^ (m.take i).length ≤ 10 ^ 15 := Nat.pow_le_pow_right (by omega) (by rw [List.length_take]; omega)
                    exact_mod_cast h3
                  have hv2 : vl (m.take i) < 1000000000000000 := by omega
                  clear hpow hv1
                  by_cases hin : i < n'
                  · have i1 : (i : Int) < (n' : Int) := by omega
                    obtain ⟨b', off', y, hA, hy, hcy, _⟩ := SM.out.row.look hin
                    have hyd := HDS.out y (List.mem_of_getElem? hy)
                    have hnx := vl_next hy
                    cases hA
                    obtain ⟨V, hV⟩ : ∃ V, vl (m.take i) = V := ⟨_, rfl⟩
                    rw [hV] at hv0 hv2 hnx ⊢
                    have HNX := Lib.hid hnx
                    have y0 : 48 ≤ y := hyd.1
                    have y1 : y ≤ 57 := hyd.2
                    clear hnx hy hyd hV hdt
                    go_wp2
                    exact ⟨⟨i + 1, by first | (rw [HNX.out]; done) | (rw [HNX.out]; go_num), by go_num, by omega, by trivial⟩, by simp [intOf]; omega⟩
                  · obtain rfl : i = n' := by omega
                    have htk : m.take i = m := List.take_of_length_le (by rw [SM.out.len]; exact Nat.le_refl _)
                    rw [htk] at hv0 hv2 ⊢
                    rw [hb0] at hp
                    go_wp2
                    go_ret2
                    exact ⟨by rw [hp.out]; rfl, rfl⟩
            · have hn1 : 1 ≤ n' := by omega
              have HNZ2 := Lib.hid (show nz (m.drop 1) = pd (45 :: t) by rw [← HNZ.out, hm])
              have HDS2 := Lib.hid (show Ds (m.drop 1) from fun x hx => HDS.out x (List.mem_of_mem_drop hx))
              have S2 := Sl.from9 SM.out 1 hn1
              clear hm hy
              by_cases hc1 : c' = 1
              · rw [if_pos hc1] at S2
                subst hc1
                obtain rfl : n' = 1 := by omega
                have HS2 := Lib.hid S2
                clear S2
                go_wp2
                exact ⟨⟨_, _, _, m.drop 1, rfl, HS2, HDS2, HNZ2, by trivial⟩, by simp [slen9]⟩
              · rw [if_neg hc1] at S2
                have HS2 := Lib.hid S2
                clear S2
                go_wp2
                exact ⟨⟨_, _, _, m.drop 1, rfl, HS2, HDS2, HNZ2, by trivial⟩, by simp [slen9]; omega⟩
      · rw [if_neg hc1] at S2
        have HS2 := Lib.hid S2
        clear S2
        go_enter Tryd.func45, Tryd.ntmps45
        go_wp2
        go_loopw [0] (fun bv wr => ∃ (A' : Option Addr) (n' c' : Nat) (m : List Int), bv = .slice A' n' c' ∧ Hid (Sl .u8 w A' n' c' m) ∧ Hid (Ds m) ∧ Hid (nz m = pd (45 :: t)) ∧ wr = w) (fun bv _ => slen9 bv)
        case atStart => exact ⟨_, _, _, t, rfl, HS2, HDS0, HPD, rfl⟩
        case round =>
          obtain ⟨A', n', c', m, rfl, SM, HDS, HNZ, rfl⟩ := hrel
          have hle' := SM.out.le
          have hmx' : c' ≤ 9223372036854775807 := by have := SM.out.max; unfold maxLen at this; omega
          rcases first_of m with hm | ⟨y, hy, hm⟩
          · have hz : ¬ (0 : Int) < (n' : Int) := by have := SM.out.len; rw [hm.1] at this; simp at this; omega
            have HD := Lib.hid (show m = pd (45 :: t) by rw [← HNZ.out, hm.2])
            clear hm
            by_cases hl : 15 < n'
            · have hp := Lib.hid (show pw (45 :: t) = none from if_pos (by rw [← HD.out, SM.out.len]; exact hl))
              have hl' : (15 : Int) < (n' : Int) := by omega
              go_wp2
              all_goals
                go_ret2
                exact ⟨by rw [hp.out]; rfl, rfl⟩
            · have hl' : ¬ (15 : Int) < (n' : Int) := by omega
              have hp := Lib.hid (show pw (45 :: t) = some (if hd1 45 45 (45 :: t) then - vl m else vl m) by unfold pw; rw [← HD.out, if_neg (by rw [SM.out.len]; exact hl)])
              have hn15 : n' ≤ 15 := by omega
              clear hl
              go_wp2
              go_loopw [5, 6] (fun nv iv w2 => ∃ i : Nat, nv = .int .i64 (vl (m.take i)) ∧ iv = .int .i64 i ∧ i ≤ n' ∧ w2 = wr) (fun _ iv _ => n' - (intOf iv).toNat)
              case atStart => exact ⟨0, rfl, rfl, by omega, rfl⟩
              case round =>
                obtain ⟨i, rfl, rfl, hi, rfl⟩ := hrel
                have hdt := HDS.out.take i
                have hv0 := vl_pos hdt
                have hv1 := vl_lt hdt
                have hpow : (10 : Int) ^ (m.take i).length ≤ 10 ^ 15 := by
                  have h3 : 10 ^ (m.take i).length ≤ 10 ^ 15 := Nat.pow_le_pow_right (by omega) (by rw [List.length_take]; omega)
                  exact_mod_cast h3
                have hv2 : vl (m.take i) < 1000000000000000 := by omega
                clear hpow hv1
                by_cases hin : i < n'
                · have i1 : (i : Int) < (n' : Int) := by omega
                  obtain ⟨b', off', y, hA, hy, hcy, _⟩ := SM.out.row.look hin
                  have hyd := HDS.out y (List.mem_of_getElem? hy)
                  have hnx := vl_next hy
                  cases hA
                  obtain ⟨V, hV⟩ : ∃ V, vl (m.take i) = V := ⟨_, rfl⟩
                  rw [hV] at hv0 hv2 hnx ⊢
                  have HNX := Lib.hid hnx
                  have y0 : 48 ≤ y := hyd.1
                  have y1 : y ≤ 57 := hyd.2
                  clear hnx hy hyd hV hdt
                  go_wp2
                  exact ⟨⟨i + 1, by first | (rw [HNX.out]; done) | (rw [HNX.out]; go_num), by go_num, by omega, by trivial⟩, by simp [intOf]; omega⟩
                · obtain rfl : i = n' := by omega
                  have htk : m.take i = m := List.take_of_length_le (by rw [SM.out.len]; exact Nat.le_refl _)
                  rw [htk] at hv0 hv2 ⊢
                  rw [hb0] at hp
                  go_wp2
                  go_ret2
                  exact ⟨by rw [hp.out]; rfl, rfl⟩
          · have hz : (0 : Int) < (n' : Int) := by have := SM.out.len; have := lt_of_some hy; omega
            obtain ⟨b2, off2, hA2, hc2⟩ := SM.out.row.2 (by rintro rfl; simp at hy)
            subst hA2
            have c2 : wr.cell? ⟨b2, off2, none⟩ = some (.int .u8 y) := hc2 0 y hy
            clear hc2
            rcases hm with ⟨hy48, hm⟩ | ⟨rfl, hm⟩
            · have HD := Lib.hid (show m = pd (45 :: t) by rw [← HNZ.out, hm])
              clear hm hy
              by_cases hl : 15 < n'
              · have hp := Lib.hid (show pw (45 :: t) = none from if_pos (by rw [← HD.out, SM.out.len]; exact hl))
                have hl' : (15 : Int) < (n' : Int) := by omega
                go_wp2
                all_goals
                  go_ret2
                  exact ⟨by rw [hp.out]; rfl, rfl⟩
              · have hl' : ¬ (15 : Int) < (n' : Int) := by omega
                have hp := Lib.hid (show pw (45 :: t) = some (if hd1 45 45 (45 :: t) then - vl m else vl m) by unfold pw; rw [← HD.out, if_neg (by rw [SM.out.len]; exact hl)])
                have hn15 : n' ≤ 15 := by omega
                clear hl
                go_wp2
                go_loopw [5, 6] (fun nv iv w2 => ∃ i : Nat, nv = .int .i64 (vl (m.take i)) ∧ iv = .int .i64 i ∧ i ≤ n' ∧ w2 = wr) (fun _ iv _ => n' - (intOf iv).toNat)
                case atStart => exact ⟨0, rfl, rfl, by omega, rfl⟩
                case round =>
                  obtain ⟨i, rfl, rfl, hi, rfl⟩ := hrel
                  have hdt := HDS.out.take i
                  have hv0 := vl_pos hdt
                  have hv1 := vl_lt hdt
                  have hpow : (10 : Int) ^ (m.take i).length ≤ 10 ^ 15 := by
                    have h3 : 10 ^ (m.take i).length ≤ 10 ^ 15 := Nat.pow_le_pow_right (by omega) (by rw [List.length_take]; omega)
                    exact_mod_cast h3
                  have hv2 : vl (m.take i) < 1000000000000000 := by omega
                  clear hpow hv1
                  by_cases hin : i < n'
                  · have i1 : (i : Int) < (n' : Int) := by omega
                    obtain ⟨b', off', y, hA, hy, hcy, _⟩ := SM.out.row.look hin
                    have hyd := HDS.out y (List.mem_of_getElem? hy)
                    have hnx := vl_next hy
                    cases hA
                    obtain ⟨V, hV⟩ : ∃ V, vl (m.take i) = V := ⟨_, rfl⟩
                    rw [hV] at hv0 hv2 hnx ⊢
                    have HNX := Lib.hid hnx
                    have y0 : 48 ≤ y := hyd.1
                    have y1 : y ≤ 57 := hyd.2
                    clear hnx hy hyd hV hdt
                    go_wp2
                    exact ⟨⟨i + 1, by first | (rw [HNX.out]; done) | (rw [HNX.out]; go_num), by go_num, by omega, by trivial⟩, by simp [intOf]; omega⟩
                  · obtain rfl : i = n' := by omega
                    have htk : m.take i = m := List.take_of_length_le (by rw [SM.out.len]; exact Nat.le_refl _)
                    rw [htk] at hv0 hv2 ⊢
                    rw [hb0] at hp
                    go_wp2
                    go_ret2
                    exact ⟨by rw [hp.out]; rfl, rfl⟩
            · have hn1 : 1 ≤ n' := by omega
              have HNZ2 := Lib.hid (show nz (m.drop 1) = pd (45 :: t) by rw [← HNZ.out, hm])
              have HDS2 := Lib.hid (show Ds (m.drop 1) from fun x hx => HDS.out x (List.mem_of_mem_drop hx))
              have S2 := Sl.from9 SM.out 1 hn1
              clear hm hy
              by_cases hc1 : c' = 1
              · rw [if_pos hc1] at S2
                subst hc1
                obtain rfl : n' = 1 := by omega
                have HS2 := Lib.hid S2
                clear S2
                go_wp2
                exact ⟨⟨_, _, _, m.drop 1, rfl, HS2, HDS2, HNZ2, by trivial⟩, by simp [slen9]⟩
              · rw [if_neg hc1] at S2
                have HS2 := Lib.hid S2
                clear S2
                go_wp2
                exact ⟨⟨_, _, _, m.drop 1, rfl, HS2, HDS2, HNZ2, by trivial⟩, by simp [slen9]; omega⟩
    by_cases h43 : x = 43
    · subst h43
      have hb0 : hd1 45 45 (43 :: t) = false := rfl
      have HPD := Lib.hid (show nz t = pd (43 :: t) from rfl)
      have HDS0 := Lib.hid (show Ds t from hd)
      have S2 := Sl.from9 S.out 1 hn1
      rw [show (43 :: t).drop 1 = t from rfl] at S2
      clear hd hlen
      by_cases hc1 : c = 1
      · rw [if_pos hc1] at S2
        subst hc1
        obtain rfl : n = 1 := by omega
        have HS2 := Lib.hid S2
        clear S2
        go_enter Tryd.func45, Tryd.ntmps45
        go_wp2
        go_loopw [0] (fun bv wr => ∃ (A' : Option Addr) (n' c' : Nat) (m : List Int), bv = .slice A' n' c' ∧ Hid (Sl .u8 w A' n' c' m) ∧ Hid (Ds m) ∧ Hid (nz m = pd (43 :: t)) ∧ wr = w) (fun bv _ => slen9 bv)
        case atStart => exact ⟨_, _, _, t, rfl, HS2, HDS0, HPD, rfl⟩
        case round =>
          obtain ⟨A', n', c', m, rfl, SM, HDS, HNZ, rfl⟩ := hrel
          have hle' := SM.out.le
          have hmx' : c' ≤ 9223372036854775807 := by have := SM.out.max; unfold maxLen at this; omega
          rcases first_of m with hm | ⟨y, hy, hm⟩
          · have hz : ¬ (0 : Int) < (n' : Int) := by have := SM.out.len; rw [hm.1] at this; simp at this; omega
            have HD := Lib.hid (show m = pd (43 :: t) by rw [← HNZ.out, hm.2])
            clear hm
            by_cases hl : 15 < n'
            · have hp := Lib.hid (show pw (43 :: t) = none from if_pos (by rw [← HD.out, SM.out.len]; exact hl))
              have hl' : (15 : Int) < (n' : Int) := by omega
              go_wp2
              all_goals
                go_ret2
                exact ⟨by rw [hp.out]; rfl, rfl⟩
            · have hl' : ¬ (15 : Int) < (n' : Int) := by omega
              have hp := Lib.hid (show pw (43 :: t) = some (if hd1 45 45 (43 :: t) then - vl m else vl m) by unfold pw; rw [← HD.out, if_neg (by rw [SM.out.len]; exact hl)])
              have hn15 : n' ≤ 15 := by omega
              clear hl
              go_wp2
              go_loopw [5, 6] (fun nv iv w2 => ∃ i : Nat, nv = .int .i64 (vl (m.take i)) ∧ iv = .int .i64 i ∧ i ≤ n' ∧ w2 = wr) (fun _ iv _ => n' - (intOf iv).toNat)
              case atStart => exact ⟨0, rfl, rfl, by omega, rfl⟩
              case round =>
                obtain ⟨i, rfl, rfl, hi, rfl⟩ := hrel
                have hdt := HDS.out.take i
                have hv0 := vl_pos hdt
                have hv1 := vl_lt hdt
                have hpow : (10 : Int) ^ (m.take i).length ≤ 10 ^ 15 := by
                  have h3 : 10 ^ (m.take i).length ≤ 10 ^ 15 := Nat.pow_le_pow_right (by omega) (by rw [List.length_take]; omega)
                  exact_mod_cast h3
                have hv2 : vl (m.take i) < 1000000000000000 := by omega
                clear hpow hv1
                by_cases hin : i < n'
                · have i1 : (i : Int) < (n' : Int) := by omega
                  obtain ⟨b', off', y, hA, hy, hcy, _⟩ := SM.out.row.look hin
                  have hyd := HDS.out y (List.mem_of_getElem? hy)
                  have hnx := vl_next hy
                  cases hA
                  obtain ⟨V, hV⟩ : ∃ V, vl (m.take i) = V := ⟨_, rfl⟩
                  rw [hV] at hv0 hv2 hnx ⊢
                  have HNX := Lib.hid hnx
                  have y0 : 48 ≤ y := hyd.1
                  have y1 : y ≤ 57 := hyd.2
                  clear hnx hy hyd hV hdt
                  go_wp2
                  exact ⟨⟨i + 1, by first | (rw [HNX.out]; done) | (rw [HNX.out]; go_num), by go_num, by omega, by trivial⟩, by simp [intOf]; omega⟩
                · obtain rfl : i = n' := by omega
                  have htk : m.take i = m := List.take_of_length_le (by rw [SM.out.len]; exact Nat.le_refl _)
                  rw [htk] at hv0 hv2 ⊢
                  rw [hb0] at hp
                  go_wp2
                  go_ret2
                  exact ⟨by rw [hp.out]; rfl, rfl⟩
          · have hz : (0 : Int) < (n' : Int) := by have := SM.out.len; have := lt_of_some hy; omega
            obtain ⟨b2, off2, hA2, hc2⟩ := SM.out.row.2 (by rintro rfl; simp at hy)
            subst hA2
            have c2 : wr.cell? ⟨b2, off2, none⟩ = some (.int .u8 y) := hc2 0 y hy
            clear hc2
            rcases hm with ⟨hy48, hm⟩ | ⟨rfl, hm⟩
            · have HD := Lib.hid (show m = pd (43 :: t) by rw [← HNZ.out, hm])
              clear hm hy
              by_cases hl : 15 < n'
              · have hp := Lib.hid (show pw (43 :: t) = none from if_pos (by rw [← HD.out, SM.out.len]; exact hl))
                have hl' : (15 : Int) < (n' : Int) := by omega
                go_wp2
                all_goals
                  go_ret2
                  exact ⟨by rw [hp.out]; rfl, rfl⟩
              · have hl' : ¬ (15 : Int) < (n' : Int) := by omega
                have hp := Lib.hid (show pw (43 :: t) = some (if hd1 45 45 (43 :: t) then - vl m else vl m) by unfold pw; rw [← HD.out, if_neg (by rw [SM.out.len]; exact hl)])
                have hn15 : n' ≤ 15 := by omega
                clear hl
                go_wp2
                go_loopw [5, 6] (fun nv iv w2 => ∃ i : Nat, nv = .int .i64 (vl (m.take i)) ∧ iv = .int .i64 i ∧ i ≤ n' ∧ w2 = wr) (fun _ iv _ => n' - (intOf iv).toNat)
                case atStart => exact ⟨0, rfl, rfl, by omega, rfl⟩
                case round =>
                  obtain ⟨i, rfl, rfl, hi, rfl⟩ := hrel
                  have hdt := HDS.out.take i
                  have hv0 := vl_pos hdt
                  have hv1 := vl_lt hdt
                  have hpow : (10 : Int) ^ (m.take i).length ≤ 10 ^ 15 := by
                    have h3 : 10 ^ (m.take i).length ≤ 10 ^ 15 := Nat.pow_le_pow_right (by omega) (by rw [List.length_take]; omega)
                    exact_mod_cast h3
                  have hv2 : vl (m.take i) < 1000000000000000 := by omega
                  clear hpow hv1
                  by_cases hin : i < n'
                  · have i1 : (i : Int) < (n' : Int) := by omega
                    obtain ⟨b', off', y, hA, hy, hcy, _⟩ := SM.out.row.look hin
                    have hyd := HDS.out y (List.mem_of_getElem? hy)
                    have hnx := vl_next hy
                    cases hA
                    obtain ⟨V, hV⟩ : ∃ V, vl (m.take i) = V := ⟨_, rfl⟩
                    rw [hV] at hv0 hv2 hnx ⊢
                    have HNX := Lib.hid hnx
                    have y0 : 48 ≤ y := hyd.1
                    have y1 : y ≤ 57 := hyd.2
                    clear hnx hy hyd hV hdt
                    go_wp2
                    exact ⟨⟨i + 1, by first | (rw [HNX.out]; done) | (rw [HNX.out]; go_num), by go_num, by omega, by trivial⟩, by simp [intOf]; omega⟩
                  · obtain rfl : i = n' := by omega
                    have htk : m.take i = m := List.take_of_length_le (by rw [SM.out.len]; exact Nat.le_refl _)
                    rw [htk] at hv0 hv2 ⊢
                    rw [hb0] at hp
                    go_wp2
                    go_ret2
                    exact ⟨by rw [hp.out]; rfl, rfl⟩
            · have hn1 : 1 ≤ n' := by omega
              have HNZ2 := Lib.hid (show nz (m.drop 1) = pd (43 :: t) by rw [← HNZ.out, hm])
              have HDS2 := Lib.hid (show Ds (m.drop 1) from fun x hx => HDS.out x (List.mem_of_mem_drop hx))
              have S2 := Sl.from9 SM.out 1 hn1
              clear hm hy
              by_cases hc1 : c' = 1
              · rw [if_pos hc1] at S2
                subst hc1
                obtain rfl : n' = 1 := by omega
                have HS2 := Lib.hid S2
                clear S2
                go_wp2
                exact ⟨⟨_, _, _, m.drop 1, rfl, HS2, HDS2, HNZ2, by trivial⟩, by simp [slen9]⟩
              · rw [if_neg hc1] at S2
                have HS2 := Lib.hid S2
                clear S2
                go_wp2
                exact ⟨⟨_, _, _, m.drop 1, rfl, HS2, HDS2, HNZ2, by trivial⟩, by simp [slen9]; omega⟩
      · rw [if_neg hc1] at S2
        have HS2 := Lib.hid S2
        clear S2
        go_enter Tryd.func45, Tryd.ntmps45
        go_wp2
        go_loopw [0] (fun bv wr => ∃ (A' : Option Addr) (n' c' : Nat) (m : List Int), bv = .slice A' n' c' ∧ Hid (Sl .u8 w A' n' c' m) ∧ Hid (Ds m) ∧ Hid (nz m = pd (43 :: t)) ∧ wr = w) (fun bv _ => slen9 bv)
        case atStart => exact ⟨_, _, _, t, rfl, HS2, HDS0, HPD, rfl⟩
        case round =>
          obtain ⟨A', n', c', m, rfl, SM, HDS, HNZ, rfl⟩ := hrel
          have hle' := SM.out.le
          have hmx' : c' ≤ 9223372036854775807 := by have := SM.out.max; unfold maxLen at this; omega
          rcases first_of m with hm | ⟨y, hy, hm⟩
          · have hz : ¬ (0 : Int) < (n' : Int) := by have := SM.out.len; rw [hm.1] at this; simp at this; omega
            have HD := Lib.hid (show m = pd (43 :: t) by rw [← HNZ.out, hm.2])
            clear hm
            by_cases hl : 15 < n'
            · have hp := Lib.hid (show pw (43 :: t) = none from if_pos (by rw [← HD.out, SM.out.len]; exact hl))
              have hl' : (15 : Int) < (n' : Int) := by omega
              go_wp2
              all_goals
                go_ret2
                exact ⟨by rw [hp.out]; rfl, rfl⟩
            · have hl' : ¬ (15 : Int) < (n' : Int) := by omega
              have hp := Lib.hid (show pw (43 :: t) = some (if hd1 45 45 (43 :: t) then - vl m else vl m) by unfold pw; rw [← HD.out, if_neg (by rw [SM.out.len]; exact hl)])
              have hn15 : n' ≤ 15 := by omega
              clear hl
              go_wp2
              go_loopw [5, 6] (fun nv iv w2 => ∃ i : Nat, nv = .int .i64 (vl (m.take i)) ∧ iv = .int .i64 i ∧ i ≤ n' ∧ w2 = wr) (fun _ iv _ => n' - (intOf iv).toNat)
              case atStart => exact ⟨0, rfl, rfl, by omega, rfl⟩
              case round =>
                obtain ⟨i, rfl, rfl, hi, rfl⟩ := hrel
                have hdt := HDS.out.take i
                have hv0 := vl_pos hdt
                have hv1 := vl_lt hdt
                have hpow : (10 : Int) ^ (m.take i).length ≤ 10 ^ 15 := by
                  have h3 : 10 ^ (m.take i).length ≤ 10 ^ 15 := Nat.pow_le_pow_right (by omega) (by rw [List.length_take]; omega)
                  exact_mod_cast h3
                have hv2 : vl (m.take i) < 1000000000000000 := by omega
                clear hpow hv1
                by_cases hin : i < n'
                · have i1 : (i : Int) < (n' : Int) := by omega
                  obtain ⟨b', off', y, hA, hy, hcy, _⟩ := SM.out.row.look hin
                  have hyd := HDS.out y (List.mem_of_getElem? hy)
                  have hnx := vl_next hy
                  cases hA
                  obtain ⟨V, hV⟩ : ∃ V, vl (m.take i) = V := ⟨_, rfl⟩
                  rw [hV] at hv0 hv2 hnx ⊢
                  have HNX := Lib.hid hnx
                  have y0 : 48 ≤ y := hyd.1
                  have y1 : y ≤ 57 := hyd.2
                  clear hnx hy hyd hV hdt
                  go_wp2
                  exact ⟨⟨i + 1, by first | (rw [HNX.out]; done) | (rw [HNX.out]; go_num), by go_num, by omega, by trivial⟩, by simp [intOf]; omega⟩
                · obtain rfl : i = n' := by omega
                  have htk : m.take i = m := List.take_of_length_le (by rw [SM.out.len]; exact Nat.le_refl _)
                  rw [htk] at hv0 hv2 ⊢
                  rw [hb0] at hp
                  go_wp2
                  go_ret2
                  exact ⟨by rw [hp.out]; rfl, rfl⟩
          · have hz : (0 : Int) < (n' : Int) := by have := SM.out.len; have := lt_of_some hy; omega
            obtain ⟨b2, off2, hA2, hc2⟩ := SM.out.row.2 (by rintro rfl; simp at hy)
            subst hA2
            have c2 : wr.cell? ⟨b2, off2, none⟩ = some (.int .u8 y) := hc2 0 y hy
            clear hc2
            rcases hm with ⟨hy48, hm⟩ | ⟨rfl, hm⟩
            · have HD := Lib.hid (show m = pd (43 :: t) by rw [← HNZ.out, hm])
              clear hm hy
              by_cases hl : 15 < n'
              · have hp := Lib.hid (show pw (43 :: t) = none from if_pos (by rw [← HD.out, SM.out.len]; exact hl))
                have hl' : (15 : Int) < (n' : Int) := by omega
                go_wp2
                all_goals
                  go_ret2
                  exact ⟨by rw [hp.out]; rfl, rfl⟩
              · have hl' : ¬ (15 : Int) < (n' : Int) := by omega
                have hp := Lib.hid (show pw (43 :: t) = some (if hd1 45 45 (43 :: t) then - vl m else vl m) by unfold pw; rw [← HD.out, if_neg (by rw [SM.out.len]; exact hl)])
                have hn15 : n' ≤ 15 := by omega
                clear hl
                go_wp2
                go_loopw [5, 6] (fun nv iv w2 => ∃ i : Nat, nv = .int .i64 (vl (m.take i)) ∧ iv = .int .i64 i ∧ i ≤ n' ∧ w2 = wr) (fun _ iv _ => n' - (intOf iv).toNat)
                case atStart => exact ⟨0, rfl, rfl, by omega, rfl⟩
                case round =>
                  obtain ⟨i, rfl, rfl, hi, rfl⟩ := hrel
                  have hdt := HDS.out.take i
                  have hv0 := vl_pos hdt
                  have hv1 := vl_lt hdt
                  have hpow : (10 : Int) ^ (m.take i).length ≤ 10 ^ 15 := by
                    have h3 : 10 ^ (m.take i).length ≤ 10 ^ 15 := Nat.pow_le_pow_right (by omega) (by rw [List.length_take]; omega)
                    exact_mod_cast h3
                  have hv2 : vl (m.take i) < 1000000000000000 := by omega
                  clear hpow hv1
                  by_cases hin : i < n'
                  · have i1 : (i : Int) < (n' : Int) := by omega
                    obtain ⟨b', off', y, hA, hy, hcy, _⟩ := SM.out.row.look hin
                    have hyd := HDS.out y (List.mem_of_getElem? hy)
                    have hnx := vl_next hy
                    cases hA
                    obtain ⟨V, hV⟩ : ∃ V, vl (m.take i) = V := ⟨_, rfl⟩
                    rw [hV] at hv0 hv2 hnx ⊢
                    have HNX := Lib.hid hnx
                    have y0 : 48 ≤ y := hyd.1
                    have y1 : y ≤ 57 := hyd.2
                    clear hnx hy hyd hV hdt
                    go_wp2
                    exact ⟨⟨i + 1, by first | (rw [HNX.out]; done) | (rw [HNX.out]; go_num), by go_num, by omega, by trivial⟩, by simp [intOf]; omega⟩
                  · obtain rfl : i = n' := by omega
                    have htk : m.take i = m := List.take_of_length_le (by rw [SM.out.len]; exact Nat.le_refl _)
                    rw [htk] at hv0 hv2 ⊢
                    rw [hb0] at hp
                    go_wp2
                    go_ret2
                    exact ⟨by rw [hp.out]; rfl, rfl⟩
            · have hn1 : 1 ≤ n' := by omega
              have HNZ2 := Lib.hid (show nz (m.drop 1) = pd (43 :: t) by rw [← HNZ.out, hm])
              have HDS2 := Lib.hid (show Ds (m.drop 1) from fun x hx => HDS.out x (List.mem_of_mem_drop hx))
              have S2 := Sl.from9 SM.out 1 hn1
              clear hm hy
              by_cases hc1 : c' = 1
              · rw [if_pos hc1] at S2
                subst hc1
                obtain rfl : n' = 1 := by omega
                have HS2 := Lib.hid S2
                clear S2
                go_wp2
                exact ⟨⟨_, _, _, m.drop 1, rfl, HS2, HDS2, HNZ2, by trivial⟩, by simp [slen9]⟩
              · rw [if_neg hc1] at S2
                have HS2 := Lib.hid S2
                clear S2
                go_wp2
                exact ⟨⟨_, _, _, m.drop 1, rfl, HS2, HDS2, HNZ2, by trivial⟩, by simp [slen9]; omega⟩
    have hb0 : hd1 45 45 (x :: t) = false := decide_eq_false (by omega)
    have hf : hd1 43 45 (x :: t) = false := decide_eq_false (by omega)
    rw [hf] at hd
    have HPD := Lib.hid (show nz (x :: t) = pd (x :: t) by unfold pd; rw [hf]; rfl)
    have HDS0 := Lib.hid (show Ds (x :: t) from hd)
    have d1 : (x == 45) = false := by simpa using h45
    have d2 : (x == 43) = false := by simpa using h43
    clear hd hlen hf
    go_enter Tryd.func45, Tryd.ntmps45
    go_wp2
    go_loopw [0] (fun bv wr => ∃ (A' : Option Addr) (n' c' : Nat) (m : List Int), bv = .slice A' n' c' ∧ Hid (Sl .u8 w A' n' c' m) ∧ Hid (Ds m) ∧ Hid (nz m = pd (x :: t)) ∧ wr = w) (fun bv _ => slen9 bv)
    case atStart => exact ⟨_, _, _, x :: t, rfl, S, HDS0, HPD, rfl⟩
    case round =>
      obtain ⟨A', n', c', m, rfl, SM, HDS, HNZ, rfl⟩ := hrel
      have hle' := SM.out.le
      have hmx' : c' ≤ 9223372036854775807 := by have := SM.out.max; unfold maxLen at this; omega
      rcases first_of m with hm | ⟨y, hy, hm⟩
      · have hz : ¬ (0 : Int) < (n' : Int) := by have := SM.out.len; rw [hm.1] at this; simp at this; omega
        have HD := Lib.hid (show m = pd (x :: t) by rw [← HNZ.out, hm.2])
        clear hm
        by_cases hl : 15 < n'
        · have hp := Lib.hid (show pw (x :: t) = none from if_pos (by rw [← HD.out, SM.out.len]; exact hl))
          have hl' : (15 : Int) < (n' : Int) := by omega
          go_wp2
          all_goals
            go_ret2
            exact ⟨by rw [hp.out]; rfl, rfl⟩
        · have hl' : ¬ (15 : Int) < (n' : Int) := by omega
          have hp := Lib.hid (show pw (x :: t) = some (if hd1 45 45 (x :: t) then - vl m else vl m) by unfold pw; rw [← HD.out, if_neg (by rw [SM.out.len]; exact hl)])
          have hn15 : n' ≤ 15 := by omega
          clear hl
          go_wp2
          go_loopw [5, 6] (fun nv iv w2 => ∃ i : Nat, nv = .int .i64 (vl (m.take i)) ∧ iv = .int .i64 i ∧ i ≤ n' ∧ w2 = wr) (fun _ iv _ => n' - (intOf iv).toNat)
          case atStart => exact ⟨0, rfl, rfl, by omega, rfl⟩
          case round =>
            obtain ⟨i, rfl, rfl, hi, rfl⟩ := hrel
            have hdt := HDS.out.take i
            have hv0 := vl_pos hdt
            have hv1 := vl_lt hdt
            have hpow : (10 : Int) ^ (m.take i).length ≤ 10 ^ 15 := by
              have h3 : 10 ^ (m.take i).length ≤ 10 ^ 15 := Nat.pow_le_pow_right (by omega) (by rw [List.length_take]; omega)
              exact_mod_cast h3
            have hv2 : vl (m.take i) < 1000000000000000 := by omega
            clear hpow hv1
            by_cases hin : i < n'
            · have i1 : (i : Int) < (n' : Int) := by omega
              obtain ⟨b', off', y, hA, hy, hcy, _⟩ := SM.out.row.look hin
              have hyd := HDS.out y (List.mem_of_getElem? hy)
              have hnx := vl_next hy
              cases hA
              obtain ⟨V, hV⟩ : ∃ V, vl (m.take i) = V := ⟨_, rfl⟩
              rw [hV] at hv0 hv2 hnx ⊢
              have HNX := Lib.hid hnx
              have y0 : 48 ≤ y := hyd.1
              have y1 : y ≤ 57 := hyd.2
              clear hnx hy hyd hV hdt
              go_wp2
              exact ⟨⟨i + 1, by first | (rw [HNX.out]; done) | (rw [HNX.out]; go_num), by go_num, by omega, by trivial⟩, by simp [intOf]; omega⟩
            · obtain rfl : i = n' := by omega
              have htk : m.take i = m := List.take_of_length_le (by rw [SM.out.len]; exact Nat.le_refl _)
              rw [htk] at hv0 hv2 ⊢
              rw [hb0] at hp
              go_wp2
              go_ret2
              exact ⟨by rw [hp.out]; rfl, rfl⟩
      · have hz : (0 : Int) < (n' : Int) := by have := SM.out.len; have := lt_of_some hy; omega
        obtain ⟨b2, off2, hA2, hc2⟩ := SM.out.row.2 (by rintro rfl; simp at hy)
        subst hA2
        have c2 : wr.cell? ⟨b2, off2, none⟩ = some (.int .u8 y) := hc2 0 y hy
        clear hc2
        rcases hm with ⟨hy48, hm⟩ | ⟨rfl, hm⟩
        · have HD := Lib.hid (show m = pd (x :: t) by rw [← HNZ.out, hm])
          clear hm hy
          by_cases hl : 15 < n'
          · have hp := Lib.hid (show pw (x :: t) = none from if_pos (by rw [← HD.out, SM.out.len]; exact hl))
            have hl' : (15 : Int) < (n' : Int) := by omega
            go_wp2
            all_goals
              go_ret2
              exact ⟨by rw [hp.out]; rfl, rfl⟩
          · have hl' : ¬ (15 : Int) < (n' : Int) := by omega
            have hp := Lib.hid (show pw (x :: t) = some (if hd1 45 45 (x :: t) then - vl m else vl m) by unfold pw; rw [← HD.out, if_neg (by rw [SM.out.len]; exact hl)])
            have hn15 : n' ≤ 15 := by omega
            clear hl
            go_wp2
            go_loopw [5, 6] (fun nv iv w2 => ∃ i : Nat, nv = .int .i64 (vl (m.take i)) ∧ iv = .int .i64 i ∧ i ≤ n' ∧ w2 = wr) (fun _ iv _ => n' - (intOf iv).toNat)
            case atStart => exact ⟨0, rfl, rfl, by omega, rfl⟩
            case round =>
              obtain ⟨i, rfl, rfl, hi, rfl⟩ := hrel
              have hdt := HDS.out.take i
              have hv0 := vl_pos hdt
              have hv1 := vl_lt hdt
              have hpow : (10 : Int) ^ (m.take i).length ≤ 10 ^ 15 := by
                have h3 : 10 ^ (m.take i).length ≤ 10 ^ 15 := Nat.pow_le_pow_right (by omega) (by rw [List.length_take]; omega)
                exact_mod_cast h3
              have hv2 : vl (m.take i) < 1000000000000000 := by omega
              clear hpow hv1
              by_cases hin : i < n'
              · have i1 : (i : Int) < (n' : Int) := by omega
                obtain ⟨b', off', y, hA, hy, hcy, _⟩ := SM.out.row.look hin
                have hyd := HDS.out y (List.mem_of_getElem? hy)
                have hnx := vl_next hy
                cases hA
                obtain ⟨V, hV⟩ : ∃ V, vl (m.take i) = V := ⟨_, rfl⟩
                rw [hV] at hv0 hv2 hnx ⊢
                have HNX := Lib.hid hnx
                have y0 : 48 ≤ y := hyd.1
                have y1 : y ≤ 57 := hyd.2
                clear hnx hy hyd hV hdt
                go_wp2
                exact ⟨⟨i + 1, by first | (rw [HNX.out]; done) | (rw [HNX.out]; go_num), by go_num, by omega, by trivial⟩, by simp [intOf]; omega⟩
              · obtain rfl : i = n' := by omega
                have htk : m.take i = m := List.take_of_length_le (by rw [SM.out.len]; exact Nat.le_refl _)
                rw [htk] at hv0 hv2 ⊢
                rw [hb0] at hp
                go_wp2
                go_ret2
                exact ⟨by rw [hp.out]; rfl, rfl⟩
        · have hn1 : 1 ≤ n' := by omega
          have HNZ2 := Lib.hid (show nz (m.drop 1) = pd (x :: t) by rw [← HNZ.out, hm])
          have HDS2 := Lib.hid (show Ds (m.drop 1) from fun x hx => HDS.out x (List.mem_of_mem_drop hx))
          have S2 := Sl.from9 SM.out 1 hn1
          clear hm hy
          by_cases hc1 : c' = 1
          · rw [if_pos hc1] at S2
            subst hc1
            obtain rfl : n' = 1 := by omega
            have HS2 := Lib.hid S2
            clear S2
            go_wp2
            exact ⟨⟨_, _, _, m.drop 1, rfl, HS2, HDS2, HNZ2, by trivial⟩, by simp [slen9]⟩
          · rw [if_neg hc1] at S2
            have HS2 := Lib.hid S2
            clear S2
            go_wp2
            exact ⟨⟨_, _, _, m.drop 1, rfl, HS2, HDS2, HNZ2, by trivial⟩, by simp [slen9]; omega⟩
end Nu
end Go.Proofs.YtjgkaccmfdjffaaDoor
