/-
  The program's Int of layer 9; what is asked of the program, shown.
-/
import Derived.Test.YtjgkaccmfdjffaaDoorNz
import Derived.Deep.RegionWith
namespace Go.Proofs.YtjgkaccmfdjffaaDoor
set_option linter.unusedVariables false
set_option linter.unusedSimpArgs false
open Go.RowKit
namespace Nu
open Wd We Es Bu
open Dm (Ds vl decs vl_pos vl_lt)

theorem itg_rd {l : List Int} : itg l = match rd l with
    | ((b, d, p), ok) => if ok = false ∨ p < 0 ∨ 16 < (d.length : Int) + p ∨ 9007199254740991 < vl d * 10 ^ p.toNat then (0, false) else (if b then - (vl d * 10 ^ p.toNat) else vl d * 10 ^ p.toNat, true) := by
  unfold itg rd
  cases h : val l with
  | none => rfl
  | some x =>
    obtain ⟨b, d, p⟩ := x
    show (if p < 0 ∨ 16 < d.length ∨ 16 < p ∨ 16 < (d.length : Int) + p ∨ 9007199254740991 < vl d * 10 ^ p.toNat then _ else _) = (if true = false ∨ _ then _ else _)
    by_cases g : p < 0 ∨ 16 < d.length ∨ 16 < p ∨ 16 < (d.length : Int) + p ∨ 9007199254740991 < vl d * 10 ^ p.toNat
    · rw [if_pos g, if_pos]
      rcases g with g | g | g | g | g
      · exact .inr (.inl g)
      · by_cases hp : p < 0
        · exact .inr (.inl hp)
        · exact .inr (.inr (.inl (by omega)))
      · exact .inr (.inr (.inl (by omega)))
      · exact .inr (.inr (.inl g))
      · exact .inr (.inr (.inr g))
    · rw [if_neg g]
      refine (if_neg ?_).symm
      rintro (h | h | h | h)
      · cases h
      · exact g (.inl h)
      · exact g (.inr (.inr (.inr (.inl h))))
      · exact g (.inr (.inr (.inr (.inr h))))
theorem rd_digits {l : List Int} : Ds (rd l).1.2.1 := by
  unfold rd
  cases h : val l with
  | none => intro x hx; cases hx
  | some x =>
    obtain ⟨b, d, p⟩ := x
    show Ds d
    unfold val at h
    split at h
    · cases h
    split at h
    · injection h with h; injection h with h1 h2; injection h2 with h2 h3; rw [← h2]; intro x hx; cases hx
    · split at h
      · cases h
      · injection h with h; injection h with h1 h2; injection h2 with h2 h3; rw [← h2]
        exact ez_ds (nz_ds (fun y hy => dg_ds (List.mem_filter.1 hy).2))
theorem rd_len {l : List Int} : (rd l).1.2.1.length ≤ l.length := by
  unfold rd
  cases h : val l with
  | none => exact Nat.zero_le _
  | some x =>
    obtain ⟨b, d, p⟩ := x
    show d.length ≤ _
    unfold val at h
    split at h
    · cases h
    split at h
    · injection h with h; injection h with h1 h2; injection h2 with h2 h3; rw [← h2]; exact Nat.zero_le _
    · split at h
      · cases h
      · injection h with h; injection h with h1 h2; injection h2 with h2 h3; rw [← h2]
        have h1 := ez_length (nz (dgs l))
        have h2 := nz_length (dgs l)
        have a1 := (List.filter_sublist (p := dg) (l := l.takeWhile nl)).length_le
        have a2 := (List.takeWhile_sublist (l := l) nl).length_le
        unfold dgs at *; omega
theorem rd_pow {l : List Int} (hn : l.length ≤ 140737488351232) : (rd l).1.2.2 < 2000000000000000 := by
  unfold rd
  cases h : val l with
  | none => show (0 : Int) < _; omega
  | some x =>
    obtain ⟨b, d, p⟩ := x
    show p < _
    unfold val at h
    split at h
    · cases h
    · rename_i hk
      split at h
      · injection h with h; injection h with h1 h2; injection h2 with h2 h3; omega
      · split at h
        · cases h
        · rename_i v hv
          injection h with h; injection h with h1 h2; injection h2 with h2 h3
          have hx := xpo_le (l := l) (by
            by_cases g : ck 0 l = (l.length, 0)
            · exact g
            · exact absurd g hk)
          rw [hv] at hx
          have h1 := ez_length (nz (dgs l))
          have h2 := nz_length (dgs l)
          have a1 := (List.filter_sublist (p := dg) (l := l.takeWhile nl)).length_le
          have a2 := (List.takeWhile_sublist (l := l) nl).length_le
          have hx2 : v < 1000000000000000 := hx.2
          unfold dgs at *
          omega
set_option maxRecDepth 100000 in
set_option maxHeartbeats 4000000 in
theorem int_ok (l : List Int) (w : World) (hb : IsB l) (hn : l.length ≤ 140737488351232) :
    Calls Tryd.prog 19 #[.string (Dm.bs l)] w fun e w' => e = .returned (.tuple #[.int .i64 (itg l).1, .bool (itg l).2]) ∧ Below w.heap.size w w' := by
  have RA := Lib.hid (read_ok l w hb hn)
  have hi := itg_rd (l := l)
  have hds := rd_digits (l := l)
  have hdl := rd_len (l := l)
  have hpw := rd_pow hn
  obtain ⟨X, Y, hX⟩ : ∃ X Y, itg l = (X, Y) := ⟨_, _, rfl⟩
  rw [hX] at hi ⊢
  obtain ⟨b1, d1, p1, o1, h1⟩ : ∃ x0 d p o, rd l = ((x0, d, p), o) := ⟨_, _, _, _, rfl⟩
  rw [h1] at RA hi hds hdl hpw
  dsimp only at hi hds hdl hpw
  unfold RdP at RA
  dsimp only at RA
  have hsz : (Dm.bs d1).size = d1.length := Dm.bs_size _
  obtain ⟨S, hS⟩ : ∃ S, Dm.bs l = S := ⟨_, rfl⟩
  obtain ⟨E, hE⟩ : ∃ S, Dm.bs d1 = S := ⟨_, rfl⟩
  obtain ⟨n, hn1⟩ : ∃ n, d1.length = n := ⟨_, rfl⟩
  rw [hS, hE] at RA
  rw [hS]
  rw [hE, hn1] at hsz
  rw [hn1] at hi hdl
  have hs1 : (E.size : Int) = (n : Int) := by omega
  have hs2 : (n : Int) ≤ 140737488351232 := by omega
  have HI := Lib.hid hi
  have HDS := Lib.hid hds
  have HE := Lib.hid hE
  have HN1 := Lib.hid hn1
  clear hX h1 hS hE hb hn hi hds hdl hsz hn1
  dsimp only
  go_enter Tryd.func19, Tryd.ntmps19
  go_wp2_with fail
  refine RA.out.mono ?_
  rintro e w1 ⟨rfl, hb1⟩
  have P1 := (show VB (w1.alloc (.cells #[.bool b1, .string E, .int .i64 p1] 54)) w1.heap.size b1 E p1 from heap_alloc_new w1 _)
  have B1 := Lib.hid (ext9 hb1 (below_alloc9 w1 (.cells #[.bool b1, .string E, .int .i64 p1] 54)))
  clear hb1
  obtain ⟨Q, hQ⟩ : ∃ Q, w1.heap.size = Q := ⟨_, rfl⟩
  obtain ⟨W1, hW1⟩ : ∃ W1, w1.alloc (.cells #[.bool b1, .string E, .int .i64 p1] 54) = W1 := ⟨_, rfl⟩
  rw [hW1] at P1 B1
  rw [hQ] at P1
  have q0 := P1.c0
  have q1 := P1.c1
  have q2 := P1.c2
  have HQ := Lib.hid hQ
  have HW1 := Lib.hid hW1
  have HP1 := Lib.hid P1
  clear hQ hW1 P1
  go_upto_region 2 with fail
  rw [HW1.out, HQ.out]
  clear HW1 HQ
  cases o1 with
  | false =>
    have he : (X, Y) = (0, false) := by rw [HI.out, if_pos (.inl rfl)]
    cases he
    go_wp2_with fail
    go_ret2
    exact ⟨rfl, B1.out⟩
  | true =>
    by_cases h1 : p1 < 0
    · have he : (X, Y) = (0, false) := by rw [HI.out, if_pos (.inr (.inl h1))]
      cases he
      go_wp2_with fail
      go_ret2
      exact ⟨rfl, B1.out⟩
    · have h3 : 0 ≤ p1 := by omega
      by_cases h2 : 16 < (n : Int) + p1
      · have he : (X, Y) = (0, false) := by rw [HI.out, if_pos (.inr (.inr (.inl h2)))]
        cases he
        have h4 : 16 < (E.size : Int) + p1 := by omega
        go_wp2_with fail
        go_ret2
        exact ⟨rfl, B1.out⟩
      · obtain ⟨q, rfl⟩ := Int.eq_ofNat_of_zero_le h3
        have h4 : ¬ 16 < (E.size : Int) + (q : Int) := by omega
        have hvb := vl_pow (i := q) HDS.out HN1.out (Nat.le_refl _) (by omega)
        have WO := Lib.hid (fun w' => whole_ok (d1 ++ List.replicate q 48) w' (fun x hx => by
          rcases List.mem_append.1 hx with g | g
          · exact HDS.out x g
          · have := (List.mem_replicate.1 g).2; omega) (by rw [List.length_append, List.length_replicate, HN1.out]; omega))
        have RPT := Lib.hid (fun w' => rep_any q (by omega) w')
        rw [vl_reps, ← bs_app, HE.out] at WO
        have hrz : (Dm.bs (List.replicate q (48 : Int))).size = q := by rw [Dm.bs_size, List.length_replicate]
        obtain ⟨RP, hRP⟩ : ∃ RP, Dm.bs (List.replicate q (48 : Int)) = RP := ⟨_, rfl⟩
        rw [hRP] at WO RPT hrz
        obtain ⟨V, hV⟩ : ∃ V, vl d1 * 10 ^ q = V := ⟨_, rfl⟩
        rw [hV] at WO hvb
        have hi := HI.out
        rw [show ((q : Int)).toNat = q from rfl, hV] at hi
        obtain ⟨hv0, hv2⟩ := hvb
        have z1 : (E.size : Int) + (RP.size : Int) ≤ 16 := by omega
        have z2 : E.size + RP.size ≤ 16 := by omega
        have HII := Lib.hid hi
        have KD : Hid (∀ w8 : World, Below W1.drew.heap.size W1.drew w8 → VB w8 Q b1 E (q : Int)) := Lib.hid (fun w8 h => (show VB W1.drew Q b1 E (q : Int) from HP1.out).below h HP1.out.lt)
        go_upto_region 4 with fail
        have HNQ := Lib.hid h2
        have HV0 := Lib.hid hv0
        have HV2 := Lib.hid hv2
        clear HI hi hV hRP hrz hv0 hv2 hs2 hpw h1 h2 h3 h4
        go_region_with (first
          | (go_at_call 38; refine (RPT.out _).mono ?_; rintro e w8 ⟨rfl, hb8⟩; have v8 := KD.out w8 hb8; have v81 := v8.c1; have v82 := v8.c2)
          | (go_at_call 37; refine (WO.out _).mono ?_; rintro e w9 ⟨rfl, hb9⟩; have v90 := (v8.below hb9 v8.lt).c0; have HB9 := Lib.hid (ext9 (show Below W1.heap.size W1 w8 from (Wd.below_drewN (Below.refl W1.heap.size W1) 1).trans hb8) hb9)))
        all_goals
          clear v81 v82 v8 q0 q1 q2
          have hv0 := HV0.out
          have hv2 := HV2.out
          have hi := HII.out
          have B9 := Lib.hid (ext9 B1.out HB9.out)
          by_cases hbig : 9007199254740991 < V
          · have he : (X, Y) = (0, false) := by rw [hi, if_pos (.inr (.inr (.inr hbig)))]
            cases he
            clear hi HII hv2
            go_wp2
            go_ret2
            exact ⟨rfl, B9.out⟩
          · rw [if_neg (by have h7 := HNQ.out; rintro (h | h | h | h); cases h; omega; omega; omega)] at hi
            cases b1 with
            | false =>
              have he : (X, Y) = (V, true) := hi
              cases he
              clear hi HII
              go_wp2
              go_ret2
              exact ⟨rfl, B9.out⟩
            | true =>
              have he : (X, Y) = (-V, true) := hi
              cases he
              clear hi HII
              go_wp2
              go_ret2
              exact ⟨by first | rfl | simp, B9.out⟩
theorem num_ok : NumOk := ⟨fun A n c l a w s hb hn h0 h1 => check_ok A n c l a w s hb hn h0 h1, fun a b w ha hb hn hm => same_ok a b w ha hb hn hm, fun l w hb hn => int_ok l w hb hn⟩
end Nu
end Go.Proofs.YtjgkaccmfdjffaaDoor
