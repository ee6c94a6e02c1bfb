/-
  What the document's Same and Int of layer 9 compute.
-/
import Derived.Test.YtjgkaccmfdjffaaDoorNl
namespace Go.Proofs.YtjgkaccmfdjffaaDoor
set_option linter.unusedVariables false
set_option linter.unusedSimpArgs false
open Go.RowKit
namespace Nu
open Wd We Es
open Dm (Ds vl decs vl_pos vl_lt vl_next)

theorem sam_none1 {a b : List Int} (h : val a = none) : sam a b = false := by unfold sam; rw [h]
theorem sam_none2 {a b : List Int} (h : val b = none) : sam a b = false := by
  unfold sam; rw [h]; cases val a <;> rfl
theorem sam_some {a b : List Int} {b1 b2 : Bool} {d1 d2 : List Int} {p1 p2 : Int} (h1 : val a = some (b1, d1, p1)) (h2 : val b = some (b2, d2, p2)) : sam a b = ((b1 == b2) && (p1 == p2) && decide (d1 = d2)) := by
  unfold sam; rw [h1, h2]
  simp only [Prod.mk.injEq]
  by_cases x : b1 = b2 <;> by_cases y : p1 = p2 <;> by_cases z : d1 = d2 <;> simp [x, y, z]

set_option maxRecDepth 100000 in
set_option maxHeartbeats 4000000 in
theorem rsame_any (a b : List Int) (w : World) (ha : IsB a) (hb : IsB b) (hn : a.length ≤ 140737488351232) (hm : b.length ≤ 140737488351232) :
    Calls Tryd.prog 18 #[.string (Dm.bs a), .string (Dm.bs b)] w fun e w' => e = .returned (.bool (sam a b)) ∧ Below w.heap.size w w' := by
  have CB := Lib.hid (fun w2 => rof_any b w2 hb hm)
  have CA := Lib.hid (rof_any a w ha hn)
  obtain ⟨S, hS⟩ : ∃ S, Dm.bs a = S := ⟨_, rfl⟩
  obtain ⟨T, hT⟩ : ∃ T, Dm.bs b = T := ⟨_, rfl⟩
  rw [hS] at CA
  rw [hT] at CB
  rw [hS, hT]
  obtain ⟨X, hX⟩ : ∃ X, sam a b = X := ⟨_, rfl⟩
  rw [hX]
  have HX := Lib.hid hX
  clear hS hT ha hb hn hm hX
  go_enter Tryd.func18, Tryd.ntmps18
  go_wp2_with fail
  refine CA.out.mono ?_
  rintro e w1 ⟨hb1, b1, A1, n1, c1, p1, ok1, rfl, hv1⟩
  have P1 := Lib.hid (show PB (w1.alloc (.cells #[.bool b1, .slice A1 n1 c1, .int .i64 p1] 58)) w1.heap.size b1 (.slice A1 n1 c1) p1 from heap_alloc_new w1 _)
  have B1 := Lib.hid (ext9 hb1 (below_alloc9 w1 (.cells #[.bool b1, .slice A1 n1 c1, .int .i64 p1] 58)))
  have S1 : Hid (∀ d, Sl .u8 w1 A1 n1 c1 d → Sl .u8 (w1.alloc (.cells #[.bool b1, .slice A1 n1 c1, .int .i64 p1] 58)) A1 n1 c1 d) := Lib.hid (fun d h => h.alloc _)
  have HV1 := Lib.hid hv1
  clear hb1 hv1
  go_wp2_with fail
  obtain ⟨Q, hQ⟩ : ∃ Q, w1.heap.size = Q := ⟨_, rfl⟩
  obtain ⟨W1, hW1⟩ : ∃ W1, w1.alloc (.cells #[.bool b1, .slice A1 n1 c1, .int .i64 p1] 58) = W1 := ⟨_, rfl⟩
  rw [hW1] at P1 B1 S1 ⊢
  rw [hQ] at P1 ⊢
  have hQ1 := P1.out.lt
  clear hW1 hQ
  refine (CB.out W1).mono ?_
  rintro e w2 ⟨hb2, b2, A2, n2, c2, p2, ok2, rfl, hv2⟩
  have hsz2 := hb2.size
  have Q2 := Lib.hid (show PB (w2.alloc (.cells #[.bool b2, .slice A2 n2 c2, .int .i64 p2] 58)) w2.heap.size b2 (.slice A2 n2 c2) p2 from heap_alloc_new w2 _)
  have Q1 := Lib.hid (show PB (w2.alloc (.cells #[.bool b2, .slice A2 n2 c2, .int .i64 p2] 58)) Q b1 (.slice A1 n1 c1) p1 from (((hb2.trans ((below_alloc9 w2 _).mono hsz2))).block Q hQ1).trans P1.out)
  have B2 := Lib.hid (ext9 (ext9 B1.out hb2) (below_alloc9 w2 (.cells #[.bool b2, .slice A2 n2 c2, .int .i64 p2] 58)))
  have S2 : Hid (∀ d, Sl .u8 w2 A2 n2 c2 d → Sl .u8 (w2.alloc (.cells #[.bool b2, .slice A2 n2 c2, .int .i64 p2] 58)) A2 n2 c2 d) := Lib.hid (fun d h => h.alloc _)
  have S12 : Hid (∀ d, Sl .u8 w1 A1 n1 c1 d → Sl .u8 (w2.alloc (.cells #[.bool b2, .slice A2 n2 c2, .int .i64 p2] 58)) A1 n1 c1 d) := Lib.hid (fun d h => ((S1.out d h).below hb2).alloc _)
  have HV2 := Lib.hid hv2
  clear hb2 hv2
  cases ok1 with
  | false =>
    obtain rfl : X = false := HX.out.symm.trans (sam_none1 (by rcases HV1.out with h | h; exact h.2; exact absurd h.1 (by decide)))
    go_wp2_with fail
    go_ret
    exact ⟨rfl, B2.out⟩
  | true =>
    cases ok2 with
    | false =>
      obtain rfl : X = false := HX.out.symm.trans (sam_none2 (by rcases HV2.out with h | h; exact h.2; exact absurd h.1 (by decide)))
      go_wp2_with fail
      go_ret
      exact ⟨rfl, B2.out⟩
    | true =>
      obtain ⟨d1, hv1, hs1⟩ : ∃ d, val a = some (b1, d, p1) ∧ Sl .u8 w1 A1 n1 c1 d := by
        rcases HV1.out with h | ⟨_, d, h1, h2, _⟩
        · exact absurd h.1 (by decide)
        · exact ⟨d, h1, h2⟩
      obtain ⟨d2, hv2, hs2⟩ : ∃ d, val b = some (b2, d, p2) ∧ Sl .u8 w2 A2 n2 c2 d := by
        rcases HV2.out with h | ⟨_, d, h1, h2, _⟩
        · exact absurd h.1 (by decide)
        · exact ⟨d, h1, h2⟩
      have T1 := S12.out d1 hs1
      have T2 := S2.out d2 hs2
      have HS := Lib.hid (HX.out.symm.trans (sam_some hv1 hv2))
      have EQ := Lib.hid (eq_any A1 A2 n1 n2 c1 c2 d1 d2 _ T1.row T2.row (Nat.le_trans T1.le T1.max))
      clear hv1 hv2 hs1 hs2 T1 T2
      have hne : ¬ Q = w2.heap.size := by omega
      obtain ⟨W2, hW2⟩ : ∃ W2, w2.alloc (.cells #[.bool b2, .slice A2 n2 c2, .int .i64 p2] 58) = W2 := ⟨_, rfl⟩
      obtain ⟨R, hR⟩ : ∃ R, w2.heap.size = R := ⟨_, rfl⟩
      have HW2 := Lib.hid hW2
      have HR := Lib.hid hR
      rw [hW2] at Q1 Q2 B2 EQ
      rw [hR] at Q2 hne
      have q10 := Q1.out.c0
      have q11 := Q1.out.c1
      have q12 := Q1.out.c2
      have q20 := Q2.out.c0
      have q21 := Q2.out.c1
      have q22 := Q2.out.c2
      clear hW2 hR
      by_cases hb : b1 = b2
      · subst hb
        by_cases hp : p1 = p2
        · subst hp
          obtain ⟨g, hg⟩ : ∃ g, decide (d1 = d2) = g := ⟨_, rfl⟩
          rw [hg] at EQ
          obtain rfl : X = g := by rw [HS.out, hg]; simp
          clear hg HS HX
          go_upto_region 3 with fail
          rw [HW2.out, HR.out]
          clear HW2 HR
          go_wp2_with fail
          refine EQ.out.mono ?_
          rintro e w9 ⟨rfl, k, rfl⟩
          have B3 := Lib.hid (Wd.below_drewN B2.out k)
          go_wp2_with fail
          go_ret
          exact ⟨rfl, B3.out⟩
        · have hp' : (p1 == p2) = false := by simpa using hp
          obtain rfl : X = false := by rw [HS.out, hp']; simp
          go_upto_region 3 with fail
          rw [HW2.out, HR.out]
          clear HW2 HR
          go_wp2_with fail
          go_ret
          exact ⟨rfl, B2.out⟩
      · have hb' : (b1 == b2) = false := by simpa using hb
        obtain rfl : X = false := by rw [HS.out, hb']; simp
        go_upto_region 3 with fail
        rw [HW2.out, HR.out]
        clear HW2 HR
        go_wp2_with fail
        go_ret
        exact ⟨rfl, B2.out⟩

theorem itg_some {l : List Int} {b : Bool} {d : List Int} {p : Int} (h : val l = some (b, d, p)) : itg l = if p < 0 ∨ 16 < d.length ∨ 16 < p ∨ 16 < (d.length : Int) + p ∨ 9007199254740991 < vl d * 10 ^ p.toNat then (0, false) else (if b then - (vl d * 10 ^ p.toNat) else vl d * 10 ^ p.toNat, true) := by
  unfold itg; rw [h]
theorem vl_pow {d : List Int} {i n q : Nat} (hd : Ds d) (hl : d.length = n) (hi : i ≤ q) (hs : n + q ≤ 16) : 0 ≤ vl d * 10 ^ i ∧ vl d * 10 ^ i < 10000000000000000 := by
  have h0 := vl_pos hd
  have h1 := vl_lt hd
  rw [hl] at h1
  have hp : (0 : Int) < 10 ^ i := Int.pow_pos (by decide)
  refine ⟨Int.mul_nonneg h0 (Int.le_of_lt hp), ?_⟩
  have h2 : vl d * 10 ^ i < 10 ^ n * 10 ^ i := Int.mul_lt_mul_of_pos_right h1 hp
  have h3 : (10 : Int) ^ n * 10 ^ i ≤ 10 ^ 16 := by
    rw [← Int.pow_add]
    have : (10 : Nat) ^ (n + i) ≤ 10 ^ 16 := Nat.pow_le_pow_right (by omega) (by omega)
    exact_mod_cast this
  have h4 : (10 : Int) ^ 16 = 10000000000000000 := by decide
  omega
theorem vl_pre {d : List Int} {i n : Nat} (hd : Ds d) (hl : d.length = n) (hs : n ≤ 16) : 0 ≤ vl (d.take i) ∧ vl (d.take i) < 10000000000000000 := by
  have h := vl_pow (hd.take i) (i := 0) (q := 0) rfl (Nat.le_refl _) (by rw [List.length_take]; omega)
  simpa using h

set_option maxRecDepth 100000 in
set_option maxHeartbeats 4000000 in
theorem rint_any (l : List Int) (w : World) (ha : IsB l) (hn : l.length ≤ 140737488351232) :
    Calls Tryd.prog 20 #[.string (Dm.bs l)] w fun e w' => e = .returned (.tuple #[.int .i64 (itg l).1, .bool (itg l).2]) ∧ Below w.heap.size w w' := by
  have CA := Lib.hid (rof_any l w ha hn)
  obtain ⟨S, hS⟩ : ∃ S, Dm.bs l = S := ⟨_, rfl⟩
  rw [hS] at CA ⊢
  obtain ⟨X, Y, hX⟩ : ∃ X Y, itg l = (X, Y) := ⟨_, _, rfl⟩
  rw [hX]
  have HX := Lib.hid hX
  clear hS ha hn hX
  dsimp only
  go_enter Tryd.func20, Tryd.ntmps20
  go_wp2_with fail
  refine CA.out.mono ?_
  rintro e w1 ⟨hb1, b1, A1, n1, c1, p1, ok1, rfl, hv1⟩
  have P1 := Lib.hid (show PB (w1.alloc (.cells #[.bool b1, .slice A1 n1 c1, .int .i64 p1] 58)) w1.heap.size b1 (.slice A1 n1 c1) p1 from heap_alloc_new w1 _)
  have B1 := Lib.hid (ext9 hb1 (below_alloc9 w1 (.cells #[.bool b1, .slice A1 n1 c1, .int .i64 p1] 58)))
  have S1 : Hid (∀ d, Sl .u8 w1 A1 n1 c1 d → Sl .u8 (w1.alloc (.cells #[.bool b1, .slice A1 n1 c1, .int .i64 p1] 58)) A1 n1 c1 d) := Lib.hid (fun d h => h.alloc _)
  have HV1 := Lib.hid hv1
  clear hb1 hv1
  obtain ⟨Q, hQ⟩ : ∃ Q, w1.heap.size = Q := ⟨_, rfl⟩
  obtain ⟨W1, hW1⟩ : ∃ W1, w1.alloc (.cells #[.bool b1, .slice A1 n1 c1, .int .i64 p1] 58) = W1 := ⟨_, rfl⟩
  have HW := Lib.hid hW1
  have HQ := Lib.hid hQ
  rw [hW1] at P1 B1 S1
  rw [hQ] at P1
  have q0 := P1.out.c0
  have q1 := P1.out.c1
  have q2 := P1.out.c2
  clear hW1 hQ
  cases ok1 with
  | false =>
    have he : (X, Y) = (0, false) := HX.out.symm.trans (itg_none (by rcases HV1.out with h | h; exact h.2; exact absurd h.1 (by decide)))
    cases he
    go_upto_region 2 with fail
    rw [HW.out, HQ.out]
    clear HW HQ
    go_wp2_with fail
    go_ret2
    exact ⟨rfl, B1.out⟩
  | true =>
    obtain ⟨d, hv, hsl, hds⟩ : ∃ d, val l = some (b1, d, p1) ∧ Sl .u8 w1 A1 n1 c1 d ∧ Ds d := by
      rcases HV1.out with h | ⟨_, d, h1, h2, h3⟩
      · exact absurd h.1 (by decide)
      · exact ⟨d, h1, h2, h3⟩
    have SD := Lib.hid (S1.out d hsl)
    have HDS := Lib.hid hds
    have hlen := hsl.len
    have HI := Lib.hid (HX.out.symm.trans (itg_some hv))
    have hmx : n1 ≤ 9223372036854775807 := by have := hsl.le; have := hsl.max; unfold maxLen at *; omega
    clear hv hsl hds HV1 HX S1
    by_cases hz : p1 < 0 ∨ 16 < n1 ∨ 16 < p1 ∨ 16 < (n1 : Int) + p1
    · have he : (X, Y) = (0, false) := by rw [HI.out, if_pos (by rw [hlen]; omega)]
      cases he
      by_cases h1 : p1 < 0
      · go_upto_region 2 with fail
        rw [HW.out, HQ.out]
        clear HW HQ
        go_wp2_with fail
        go_ret2
        exact ⟨rfl, B1.out⟩
      by_cases h2 : (16 : Int) < (n1 : Int)
      · go_upto_region 2 with fail
        rw [HW.out, HQ.out]
        clear HW HQ
        go_wp2_with fail
        go_ret2
        exact ⟨rfl, B1.out⟩
      by_cases h3 : 16 < p1
      · go_upto_region 2 with fail
        rw [HW.out, HQ.out]
        clear HW HQ
        go_wp2_with fail
        go_ret2
        exact ⟨rfl, B1.out⟩
      have h4 : 16 < (n1 : Int) + p1 := by omega
      clear hz
      go_upto_region 2 with fail
      rw [HW.out, HQ.out]
      clear HW HQ
      go_wp2_with fail
      go_ret2
      exact ⟨rfl, B1.out⟩
    · have h1 : ¬ p1 < 0 := by omega
      obtain ⟨q, rfl⟩ := Int.eq_ofNat_of_zero_le (a := p1) (by omega)
      have h2 : ¬ (16 : Int) < (n1 : Int) := by omega
      have h3 : ¬ (16 : Int) < (q : Int) := by omega
      have h4 : ¬ (16 : Int) < (n1 : Int) + (q : Int) := by omega
      have hnq : n1 + q ≤ 16 := by omega
      clear hz
      go_upto_region 2 with fail
      rw [HW.out, HQ.out]
      clear HW HQ
      go_wp2_with fail
      go_loopw [6, 7] (fun nv iv w2 => ∃ i : Nat, nv = .int .i64 (vl (d.take i)) ∧ iv = .int .i64 i ∧ i ≤ n1 ∧ w2 = W1) (fun _ iv _ => n1 - (intOf iv).toNat)
      case atStart => exact ⟨0, rfl, rfl, by omega, rfl⟩
      case round =>
        obtain ⟨i, rfl, rfl, hi, rfl⟩ := hrel
        have hvb := vl_pre (i := i) HDS.out hlen (by omega)
        obtain ⟨hv0, hv2⟩ := hvb
        by_cases hin : i < n1
        · have i1 : (i : Int) < (n1 : Int) := by omega
          obtain ⟨b', off', y, hA, hy, hcy, _⟩ := SD.out.row.look hin
          have hyd := HDS.out y (List.mem_of_getElem? hy)
          have hnx := vl_next hy
          cases hA
          obtain ⟨V, hV⟩ : ∃ V, vl (d.take i) = V := ⟨_, rfl⟩
          rw [hV] at hv0 hv2 hnx ⊢
          have HNX := Lib.hid hnx
          have y0 : 48 ≤ y := hyd.1
          have y1 : y ≤ 57 := hyd.2
          clear hnx hy hyd hV
          go_wp2_with fail
          exact ⟨⟨i + 1, by first | (rw [HNX.out]; done) | (rw [HNX.out]; go_num), by go_num, by omega, by trivial⟩, by simp [intOf]; omega⟩
        · obtain rfl : i = n1 := by omega
          have htk : d.take i = d := List.take_of_length_le (by omega)
          rw [htk] at hv0 hv2 ⊢
          clear htk hin
          go_wp2_with fail
          go_loopw [6, 8] (fun nv iv w2 => ∃ j : Nat, nv = .int .i64 (vl d * 10 ^ j) ∧ iv = .int .i64 j ∧ j ≤ q ∧ w2 = wr) (fun _ iv _ => q - (intOf iv).toNat)
          case atStart => exact ⟨0, by simp, rfl, by omega, rfl⟩
          case round =>
            obtain ⟨j, rfl, rfl, hj, rfl⟩ := hrel
            have hvb := vl_pow (i := j) HDS.out hlen hj hnq
            obtain ⟨hw0, hw2⟩ := hvb
            by_cases hjq : j < q
            · have i1 : (j : Int) < (q : Int) := by omega
              have HNX := Lib.hid (show vl d * 10 ^ (j + 1) = vl d * 10 ^ j * 10 by rw [Int.pow_succ, Int.mul_assoc])
              obtain ⟨V, hV⟩ : ∃ V, vl d * 10 ^ j = V := ⟨_, rfl⟩
              rw [hV] at HNX hw0 hw2 ⊢
              clear hV
              go_wp2_with fail
              exact ⟨⟨j + 1, by first | (rw [HNX.out]; done) | (rw [HNX.out]; go_num), by go_num, by omega, by trivial⟩, by simp [intOf]; omega⟩
            · obtain rfl : j = q := by omega
              have HI2 := HI.out
              rw [show ((j : Int)).toNat = j from rfl] at HI2
              obtain ⟨V, hV⟩ : ∃ V, vl d * 10 ^ j = V := ⟨_, rfl⟩
              rw [hV] at HI2 hw0 hw2 ⊢
              clear hV HI
              by_cases hbig : 9007199254740991 < V
              · have he : (X, Y) = (0, false) := by rw [HI2, if_pos (by omega)]
                cases he
                clear HI2
                go_wp2_with fail
                go_ret2
                exact ⟨rfl, B1.out⟩
              · rw [if_neg (by rw [hlen]; omega)] at HI2
                cases b1 with
                | false =>
                  have he : (X, Y) = (V, true) := HI2
                  cases he
                  clear HI2
                  go_wp2_with fail
                  go_ret2
                  exact ⟨rfl, B1.out⟩
                | true =>
                  have he : (X, Y) = (-V, true) := HI2
                  cases he
                  clear HI2
                  go_wp2_with fail
                  go_ret2
                  exact ⟨by first | rfl | simp, B1.out⟩
end Nu
end Go.Proofs.YtjgkaccmfdjffaaDoor
