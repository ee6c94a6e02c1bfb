/-
  The walk of LinesJoin.
-/
import Derived.Test.YtlicfeepmhaemaaLs
import Derived.Test.YtlicfeepmhaemaaLv
import Derived.Test.YtlicfeepmhaemaaWp
import Derived.Test.YtlicfeepmhaemaaWz
import Derived.Laws.BytesString
namespace Go.Proofs.Ytlicfeepmhaemaa
set_option linter.unusedVariables false
set_option linter.unusedSimpArgs false
open Go.RowKit Go.ChangeShapes Go.WideShapes
open Utf Wd Wr We Wi Lm Lc

theorem conv_sl {w : World} {A : Option Addr} {m c : Nat} {l : List Int} (h : Sl .u8 w A m c l) :
    (convert 22 9 (.slice A m c)).run Try.prog w = .ok (.string (l.foldl (fun r n => r.push (UInt8.ofNat n.toNat)) ByteArray.empty)) w := by
  rw [run_convert_bytes_string w 22 9 5 A m c Try.underlying22 Try.underlying5 Try.underlying9]
  cases A with
  | none =>
    have hc := h.nil rfl
    have hm : m = 0 := by have := h.le; omega
    obtain rfl : l = [] := List.eq_nil_of_length_eq_zero (by rw [h.len]; exact hm)
    simp [Conv.bytesToString, Sem.run_pure]
  | some ad =>
    refine run_bytesToString w ad m c l ?_
    have := run_loadCells_list (P := Try.prog) w ad (l.map (Value.int .u8)) h.cells
    rw [List.length_map, h.len] at this
    exact this
theorem Wd.Sl.cutMap {k : IntKind} {w : World} {A : Option Addr} {n c : Nat} {l : List Int} (h : Sl k w A n c l) (i m : Nat) (hm : i + m ≤ n) : Sl k w (A.map (·.add i)) m (c - i) ((l.drop i).take m) :=
  ⟨h.row.cut i m hm, by have := h.le; omega, by have := h.max; omega, fun e => by
    cases A with
    | none => have := h.nil rfl; omega
    | some a => cases e⟩
theorem take_one {l : List Int} {i : Nat} {x : Int} (h : l[i]? = some x) : (l.drop i).take 1 = [x] := by
  have hlt := lt_of_some h
  rw [List.drop_eq_getElem_cons hlt]
  rw [List.getElem?_eq_getElem hlt] at h
  cases h
  rfl
theorem take_two {l : List Int} {i : Nat} {x y : Int} (h : l[i]? = some x) (h' : l[i + 1]? = some y) : (l.drop i).take 2 = [x, y] := by
  have hlt := lt_of_some h
  have hlt' := lt_of_some h'
  rw [List.drop_eq_getElem_cons hlt, List.drop_eq_getElem_cons hlt']
  rw [List.getElem?_eq_getElem hlt] at h
  rw [List.getElem?_eq_getElem hlt'] at h'
  cases h; cases h'
  rfl

theorem next_line {b : List Int} {i p1 p2 q2 : Nat} (hp : (lns b)[i]? = some (p1, p2)) (hq : (whs b)[i]? = some (p1, q2)) (hi : i + 1 < (lns b).length) : ∃ p2' q2', (lns b)[i + 1]? = some (q2, p2') ∧ (whs b)[i + 1]? = some (q2, q2') := by
  obtain ⟨p, q, h1, h2⟩ := ln_both b hi
  have h3 := ((ln_at b hp hq).2.2.2.2.1 p h1).1
  have h4 := (ln_at b h1 h2).1
  obtain ⟨a, c⟩ := p
  obtain ⟨a', c'⟩ := q
  simp only at h3 h4
  subst h3; subst h4
  exact ⟨c, c', h1, h2⟩

set_option maxRecDepth 100000 in
set_option maxHeartbeats 3200000 in
theorem walk_LinesJoin (A0 : Option Addr) (n0 c0 : Nat) (l0 : List Int) (w : World) (s0 : Sl .u8 w A0 n0 c0 l0) (b0 : ∀ x ∈ l0, (Lit.int .u8 x).wf = true) (z0 : c0 * 1 ≤ 140737488351232) (u0 : c0 ≤ 1048576) :
    Calls Try.prog 5 #[.slice A0 n0 c0] w fun e w' => e = .returned (.bool true) ∧ Below w.heap.size w w' := by
  have S := Lib.hid s0
  have hB := isB_of b0
  have hnle := s0.le
  have hlen := s0.len
  have hll := lns_le l0
  have hlp := lns_ne l0
  have HL := Lib.hid hlen
  clear s0 b0 z0
  obtain ⟨N, hN⟩ : ∃ N, (lns l0).length = N := ⟨_, rfl⟩
  rw [hN] at hll hlp
  rw [hlen] at hll
  have HN := Lib.hid hN
  clear hN hlen
  obtain ⟨x, y, e, hch⟩ : ∃ x y e, chk l0 = (x, y, e) := ⟨_, _, _, rfl⟩
  have HC := Lib.hid hch
  clear hch
  go_enter Try.func5, Try.ntmps5
  go_wp2_with fail
  refine (works_true w).mono ?_
  rintro e' w1 ⟨rfl, hb1⟩
  go_wp2_with fail
  by_cases he : e = 0
  · subst he
    refine (new_ok _ _ _ _ _ (S.out.below hb1) hB HC.out (by omega)).mono ?_
    rintro e w2 ⟨P, rfl, hI, hb2⟩
    have B2 := Lib.hid (ext_trans hb1 hb2)
    have I2 := Lib.hid hI
    have S2 := Lib.hid ((S.out.below hb1).below hb2)
    clear hb1 hb2 hI
    go_wp2_with fail
    go_loopw [5, 6] (fun a ix wr => ∃ (i p1 p2 q2 : Nat), a = .int .i64 (p1 : Nat) ∧ ix = .int .i64 (i : Nat) ∧ i < N ∧ Hid ((lns l0)[i]? = some (p1, p2)) ∧ Hid ((whs l0)[i]? = some (p1, q2)) ∧ Hid (Below w2.heap.size w2 wr)) (fun a ix _ => N - (intOf ix).toNat)
    case atStart =>
      obtain ⟨p, q, hp, hq⟩ := ln_both l0 (i := 0) (by rw [HN.out]; exact hlp)
      have h1 := ln_first l0 hp
      have h2 := (ln_at l0 hp hq).1
      obtain ⟨p1, p2⟩ := p
      obtain ⟨q1, q2⟩ := q
      simp only at h1 h2
      subst h1; subst h2
      exact ⟨0, 0, p2, q2, rfl, rfl, hlp, Lib.hid hp, Lib.hid hq, Lib.hid (Below.refl _ _)⟩
    case round =>
      obtain ⟨i, p1, p2, q2, rfl, rfl, hiN, HP, HQ, hbw⟩ := hrel
      have IW := Lib.hid (I2.out.ext hbw.out)
      have SW := Lib.hid (S2.out.below hbw.out)
      have hat := ln_at l0 HP.out HQ.out
      have hfi := ln_fine l0 HP.out HQ.out
      simp only at hat hfi
      obtain ⟨_, hp12, hpq, hq2, _, hlast⟩ := hat
      rw [HL.out] at hq2
      rw [HN.out, HL.out] at hlast
      rw [HN.out] at hfi
      have i1 : (i : Int) < (N : Int) := by omega
      have HF := Lib.hid hfi
      have HLA := Lib.hid hlast
      clear hfi hlast
      go_wp2_with fail
      refine (count_txt _ P l0 wr IW.out).mono ?_
      rintro e w' ⟨rfl, rfl⟩
      rw [HN.out]
      go_wp2_with fail
      refine (line_txt _ P l0 i _ _ wr IW.out HP.out HQ.out).mono ?_
      rintro e w3 ⟨rfl, hb3⟩
      have B3 := Lib.hid (ext_trans hbw.out hb3)
      have I3 := Lib.hid (IW.out.ext hb3)
      have S3 := Lib.hid (SW.out.below hb3)
      clear hb3
      simp only [sp]
      have d1 : ((p1 : Int) != (p1 : Int)) = false := by simp
      have d2 : ¬ (p2 : Int) < (p1 : Int) := by omega
      have d3 : ¬ (q2 : Int) < (p2 : Int) := by omega
      have d4 : ¬ (n0 : Int) < (q2 : Int) := by omega
      go_wp2_with fail
      obtain ⟨W0, hW0⟩ : ∃ W0, (w3.alloc (.cells #[.int .i64 (p1 : Int), .int .i64 (q2 : Int)] 35)).alloc (.cells #[.int .i64 (p1 : Int), .int .i64 (p2 : Int)] 35) = W0 := ⟨_, rfl⟩
      rw [hW0]
      have hb4 : Below w3.heap.size w3 W0 := by rw [← hW0]; exact ((Below.refl _ w3).alloc (Nat.le_refl _) _).alloc (by simp) _
      have hbq : Pair W0 w3.heap.size 35 (p1, q2) := by rw [← hW0]; exact (Pair.new w3 _ (p1, q2)).alloc _
      have hbp : Pair W0 (w3.heap.size + 1) 35 (p1, p2) := by
        rw [← hW0]
        have := Pair.new (w3.alloc (.cells #[.int .i64 (p1 : Int), .int .i64 (q2 : Int)] 35)) 35 (p1, p2)
        rw [World.size_alloc] at this
        exact this
      have B4 := Lib.hid (ext_trans B3.out hb4)
      have I4 := Lib.hid (I3.out.ext hb4)
      have S4 := Lib.hid (S3.out.below hb4)
      have cq := hbq.at1
      have cp := hbp.at1
      simp only at cq cp
      clear hb4 hbq hbp hW0
      go_loop [10] (fun a => ∃ k : Nat, a = .int .i64 (k : Nat) ∧ p1 ≤ k ∧ k ≤ p2) (fun a => p2 - (intOf a).toNat)
      case atStart => exact ⟨p1, rfl, Nat.le_refl _, hp12⟩
      case round =>
        obtain ⟨k, rfl, hk1, hk2⟩ := hrel
        by_cases hkp : k < p2
        · have j1 : (k : Int) < (p2 : Int) := by omega
          obtain ⟨bb, off, z, rfl, hz, hcz, _⟩ := S4.out.row.look (j := k) (by omega)
          have hzz := HF.out.1 k z hk1 hkp hz
          have z1 : (z == 10) = false := by simpa using hzz.1
          have z2 : (z == 13) = false := by simpa using hzz.2
          have j2 : (k : Int) < (n0 : Int) := by omega
          clear hz hzz
          go_wp2_with fail
          go_round
          case rel => exact ⟨k + 1, by go_num, by omega, by omega⟩
          case measure => simp [intOf]; omega
        · obtain rfl : k = p2 := by omega
          have j1 : ¬ (k : Int) < (k : Int) := by omega
          by_cases hil : i + 1 = N
          · obtain ⟨hl1, hl2⟩ := HLA.out hil
            subst hil
            subst hl1
            obtain rfl : q2 = k := hl2
            have j4 : IntKind.i64.wrap (i : Int) = (i : Int) := by rw [IntKind.wrap_i64]; omega
            by_cases hck : c0 = q2
            · subst hck
              have kc := conv_sl (w := W0) (A := A0) (m := 0) (c := 0) (l := []) ⟨Row.nil, Nat.le_refl _, Nat.zero_le _, fun _ => rfl⟩
              have KC := Lib.hid kc
              clear kc
              go_wp2_with fail
              rw [KC.out, show List.foldl (fun (r : ByteArray) (n : Int) => r.push (UInt8.ofNat n.toNat)) ByteArray.empty [] = ⟨#[]⟩ from rfl]
              go_wp2_with fail
              refine (count_txt _ P l0 W0 I4.out).mono ?_
              rintro e w' ⟨rfl, rfl⟩
              rw [HN.out]
              go_wp2_with fail
              go_ret
              exact ⟨rfl, ext_trans B2.out B4.out⟩
            · have kc := conv_sl (S4.out.cutMap q2 0 (by omega))
              have KC := Lib.hid kc
              clear kc
              go_wp2_with fail
              rw [KC.out, show List.foldl (fun (r : ByteArray) (n : Int) => r.push (UInt8.ofNat n.toNat)) ByteArray.empty (List.take 0 (List.drop q2 l0)) = ⟨#[]⟩ from rfl]
              go_wp2_with fail
              refine (count_txt _ P l0 W0 I4.out).mono ?_
              rintro e w' ⟨rfl, rfl⟩
              rw [HN.out]
              go_wp2_with fail
              go_ret
              exact ⟨rfl, ext_trans B2.out B4.out⟩
          · have hE := HF.out.2 (by omega)
            obtain ⟨p2', q2', hp', hq'⟩ := next_line HP.out HQ.out (by rw [HN.out]; omega)
            have HP' := Lib.hid hp'
            have HQ' := Lib.hid hq'
            clear hp' hq'
            rcases hE with ⟨rfl, hx⟩ | ⟨rfl, hx, hy⟩ | ⟨rfl, hx, hy⟩
            · have hck : ¬ c0 = k := by omega
              have kc := conv_sl (S4.out.cutMap k (k + 1 - k) (by have := lt_of_some hx; rw [HL.out] at this; omega))
              rw [show k + 1 - k = 1 by omega, take_one hx] at kc
              have KC := Lib.hid kc
              have j4 : IntKind.i64.wrap ((N : Int) - 1) = (N : Int) - 1 := by rw [IntKind.wrap_i64]; omega
              have j5 : ((i : Int) == (N : Int) - 1) = false := by simp; omega
              clear hx
              clear kc
              go_wp2_with fail
              rw [KC.out, show List.foldl (fun (r : ByteArray) (n : Int) => r.push (UInt8.ofNat n.toNat)) ByteArray.empty [10] = ⟨#[10]⟩ from rfl]
              go_wp2_with fail
              refine (count_txt _ P l0 W0 I4.out).mono ?_
              rintro e w' ⟨rfl, rfl⟩
              rw [HN.out]
              go_wp2_with fail
              go_roundw
              case rel => exact ⟨i + 1, k + 1, p2', q2', by go_num, by go_num, by omega, HP', HQ', B4⟩
              case measure => simp [intOf]; omega
            · have hck : ¬ c0 = k := by omega
              have kc := conv_sl (S4.out.cutMap k (k + 2 - k) (by have := lt_of_some hy; rw [HL.out] at this; omega))
              rw [show k + 2 - k = 2 by omega, take_two hx hy] at kc
              have KC := Lib.hid kc
              have j4 : IntKind.i64.wrap ((N : Int) - 1) = (N : Int) - 1 := by rw [IntKind.wrap_i64]; omega
              have j5 : ((i : Int) == (N : Int) - 1) = false := by simp; omega
              clear hx hy
              clear kc
              go_wp2_with fail
              rw [KC.out, show List.foldl (fun (r : ByteArray) (n : Int) => r.push (UInt8.ofNat n.toNat)) ByteArray.empty [13, 10] = ⟨#[13, 10]⟩ from rfl]
              go_wp2_with fail
              refine (count_txt _ P l0 W0 I4.out).mono ?_
              rintro e w' ⟨rfl, rfl⟩
              rw [HN.out]
              go_wp2_with fail
              go_roundw
              case rel => exact ⟨i + 1, k + 2, p2', q2', by go_num, by go_num, by omega, HP', HQ', B4⟩
              case measure => simp [intOf]; omega
            · by_cases hkn : k + 1 < n0
              · obtain ⟨bb, off, z, hAe, hz, hcz, _⟩ := S4.out.row.look (j := k + 1) hkn
                subst hAe
                rw [hz] at hy
                have z1 : (z == 10) = false := by simpa using hy
                have j7 : (k : Int) + 1 < (n0 : Int) := by omega
                clear hz hy
                have hck : ¬ c0 = k := by omega
                have kc := conv_sl (S4.out.cutS k (k + 1 - k) (by have := lt_of_some hx; rw [HL.out] at this; omega))
                rw [show k + 1 - k = 1 by omega, take_one hx] at kc
                have KC := Lib.hid kc
                have j4 : IntKind.i64.wrap ((N : Int) - 1) = (N : Int) - 1 := by rw [IntKind.wrap_i64]; omega
                have j5 : ((i : Int) == (N : Int) - 1) = false := by simp; omega
                clear hx
                clear kc
                go_wp2_with fail
                rw [KC.out, show List.foldl (fun (r : ByteArray) (n : Int) => r.push (UInt8.ofNat n.toNat)) ByteArray.empty [13] = ⟨#[13]⟩ from rfl]
                go_wp2_with fail
                refine (count_txt _ P l0 W0 I4.out).mono ?_
                rintro e w' ⟨rfl, rfl⟩
                rw [HN.out]
                go_wp2_with fail
                go_roundw
                case rel => exact ⟨i + 1, k + 1, p2', q2', by go_num, by go_num, by omega, HP', HQ', B4⟩
                case measure => simp [intOf]; omega
              · have j7 : ¬ (k : Int) + 1 < (n0 : Int) := by omega
                clear hy
                have hck : ¬ c0 = k := by omega
                have kc := conv_sl (S4.out.cutMap k (k + 1 - k) (by have := lt_of_some hx; rw [HL.out] at this; omega))
                rw [show k + 1 - k = 1 by omega, take_one hx] at kc
                have KC := Lib.hid kc
                have j4 : IntKind.i64.wrap ((N : Int) - 1) = (N : Int) - 1 := by rw [IntKind.wrap_i64]; omega
                have j5 : ((i : Int) == (N : Int) - 1) = false := by simp; omega
                clear hx
                clear kc
                go_wp2_with fail
                rw [KC.out, show List.foldl (fun (r : ByteArray) (n : Int) => r.push (UInt8.ofNat n.toNat)) ByteArray.empty [13] = ⟨#[13]⟩ from rfl]
                go_wp2_with fail
                refine (count_txt _ P l0 W0 I4.out).mono ?_
                rintro e w' ⟨rfl, rfl⟩
                rw [HN.out]
                go_wp2_with fail
                go_roundw
                case rel => exact ⟨i + 1, k + 1, p2', q2', by go_num, by go_num, by omega, HP', HQ', B4⟩
                case measure => simp [intOf]; omega
  · refine (new_bad _ _ _ _ _ (S.out.below hb1) hB HC.out he).mono ?_
    rintro e' w2 ⟨rfl, rfl⟩
    have d : (e != 0) = true := by simpa using he
    have HB := Lib.hid hb1
    clear hb1 he
    go_wp2_with fail
    go_ret
    exact ⟨rfl, HB.out⟩
end Go.Proofs.Ytlicfeepmhaemaa
