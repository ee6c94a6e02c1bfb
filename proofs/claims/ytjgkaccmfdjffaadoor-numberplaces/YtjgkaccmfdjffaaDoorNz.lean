/-
  The program's read of layer 9.
-/
import Derived.Test.YtjgkaccmfdjffaaDoorNy
namespace Go.Proofs.YtjgkaccmfdjffaaDoor
set_option linter.unusedVariables false
set_option linter.unusedSimpArgs false
open Go.RowKit
namespace Nu
open Wd We Es Bu
open Dm (Ds vl decs vl_pos vl_lt)

/-- what the program's read answers -/
def RdP (x : (Bool × List Int × Int) × Bool) (w : World) (e : Ending) (w' : World) : Prop :=
  e = .returned (.tuple #[.agg #[.bool x.1.1, .string (Dm.bs x.1.2.1), .int .i64 x.1.2.2], .bool x.2]) ∧ Below w.heap.size w w'
theorem rd_none {l : List Int} (h : val l = none) : rd l = ((false, [], 0), false) := by unfold rd; rw [h]
theorem rd_some {l : List Int} {x : Bool × List Int × Int} (h : val l = some x) : rd l = (x, true) := by unfold rd; rw [h]

set_option maxRecDepth 100000 in
set_option maxHeartbeats 8000000 in
theorem read_ok (l : List Int) (w : World) (hb : IsB l) (hn : l.length ≤ 140737488351232) :
    Calls Tryd.prog 35 #[.string (Dm.bs l)] w (RdP (rd l) w) := by
  obtain ⟨W1, hW1⟩ : ∃ W1, w.alloc (.cells #[.bool false, .string ⟨#[]⟩, .int .i64 0] 54) = W1 := ⟨_, rfl⟩
  obtain ⟨R, hR⟩ : ∃ R, w.heap.size = R := ⟨_, rfl⟩
  have hz1 : W1.heap.size = R + 1 := by rw [← hW1, World.size_alloc, hR]
  have r1 : VB W1 R false ⟨#[]⟩ 0 := by rw [← hW1, ← hR]; exact heap_alloc_new w _
  have b1 : Below R w W1 := by rw [← hW1, ← hR]; exact below_alloc9 w _
  obtain ⟨c, w1, kc, t, hbl⟩ := conv_back W1 rfl hb (by unfold maxLen; omega)
  have CON := check_ok _ _ _ _ 0 w1 t hb (by omega) (by omega) (by omega)
  obtain ⟨m, e, hk⟩ : ∃ m e, ck 0 l = (m, e) := ⟨_, _, rfl⟩
  have h0 : uc l ((0 : Nat) : Int) = ((m : Int), e) := uc_in (Nat.zero_le _) (by rw [List.drop_zero]; exact hk)
  rw [show ((0 : Nat) : Int) = 0 from rfl] at h0
  rw [h0] at CON
  have hmle : m ≤ l.length := by have := ck_le 0 l; rw [hk] at this; simpa using this
  have HC := Lib.hid CON
  have HK := Lib.hid hk
  have R1 := Lib.hid (r1.below hbl (by omega))
  have hs1 := hbl.size
  have B1 := Lib.hid (b1.trans (hbl.mono (by omega)))
  have HW1 := Lib.hid hW1
  have HR := Lib.hid hR
  have hR1 : R < w1.heap.size := by omega
  obtain ⟨X, hX⟩ : ∃ X, rd l = X := ⟨_, rfl⟩
  rw [hX]
  have HX := Lib.hid hX
  have HN0 := Lib.hid hn
  have HB := Lib.hid hb
  dsimp only at HC
  obtain ⟨S, hS⟩ : ∃ S, Dm.bs l = S := ⟨_, rfl⟩
  have hsz : S.size = l.length := by rw [← hS]; exact Dm.bs_size l
  obtain ⟨N, hN⟩ : ∃ N, l.length = N := ⟨_, rfl⟩
  rw [hS] at kc ⊢
  rw [hN] at kc HC hsz hn hmle
  have hz0 : W1.heap.size = w.heap.size + 1 := by rw [← hW1, World.size_alloc]
  rw [hz0] at kc HC
  rw [← hW1] at kc
  have HN := Lib.hid hN
  have HS := Lib.hid hS
  have hsz' : (S.size : Int) = (N : Int) := by omega
  clear CON h0 hk hbl t hS hb hX hW1 hR hz1 r1 b1 hs1 hN hz0
  by_cases hbad : e = 0 ∧ m = N
  · obtain ⟨rfl, hmN⟩ := hbad
    subst hmN
    have hkg : ck 0 l = (l.length, 0) := by rw [HK.out, HN.out]
    obtain ⟨hp1, hp2, hp3, hp4, hp5⟩ := parts hkg
    have hpv := pl_val hkg
    have hrd := rest_ds hkg
    have hxl := xpo_le hkg
    rw [xpo_pwr] at hxl
    have hfl := frc_le l
    have hvl : val l = if nz (dgs l) = [] then some (false, [], 0) else match pw (pwr l) with
        | none => none
        | some v => some (hd1 45 45 l, ez (nz (dgs l)), v - (frc l : Int) + (tz (nz (dgs l)) : Int)) := by
      unfold val
      rw [if_neg (fun g => g hkg), xpo_pwr]
      rfl
    have hbl : (bdy l).length ≤ 140737488351232 := by
      have := (List.takeWhile_sublist (l := l) nl).length_le
      have := HN0.out
      unfold bdy; omega
    have hpl2 : (pwr l).length ≤ 140737488351232 := by
      have := (List.dropWhile_sublist (l := l) nl).length_le
      have := HN0.out
      unfold pwr; rw [List.length_drop]; omega
    have hzl : (ez (nz (dgs l))).length + tz (nz (dgs l)) ≤ 140737488351232 := by
      rw [ez_length]
      have h1 := nz_length (dgs l)
      have h2 : (dgs l).length ≤ l.length := by
        have a1 := (List.filter_sublist (p := dg) (l := l.takeWhile nl)).length_le
        have a2 := (List.takeWhile_sublist (l := l) nl).length_le
        unfold dgs; omega
      have := HN0.out
      omega
    have LOW := Lib.hid (fun w' => low_any l hp4 (by have := HN0.out; omega) w')
    have PLN := Lib.hid (fun w' => plain_ok (bdy l) w' hp1 hbl)
    rw [hpv] at PLN
    have POW := Lib.hid (fun w' => powerOf_ok (pwr l) w' hrd hpl2)
    obtain ⟨f, hcut⟩ : ∃ f : Bool, ∀ w' : World, Calls Tryd.prog 41 #[.string (Dm.bs (l.map lo9)), .string ⟨#[101]⟩] w' fun e w'' => e = .returned (.tuple #[.string (Dm.bs (bdy l)), .string (Dm.bs (pwr l)), .bool f]) ∧ Below w'.heap.size w' w'' := by
      rcases hp5 with ⟨h1, h2, h3⟩ | ⟨h1, h2⟩
      · refine ⟨false, fun w' => ?_⟩
        rw [h1, h3]
        exact cut_none (bdy l) (fun x hx => by have := hp1 x hx; omega) (fun x hx => by have := hp1 x hx; omega) (by omega) w'
      · refine ⟨true, fun w' => ?_⟩
        rw [h1]
        refine cut_yes (bdy l) (pwr l) ?_ (fun x hx => by have := hp1 x hx; omega) hp2 ?_ w'
        · intro x hx
          rw [← h1] at hx
          obtain ⟨y, hy, rfl⟩ := List.mem_map.1 hx
          have := hp4 y hy
          unfold lo9; split <;> omega
        · rw [← h1, List.length_map]; have := HN0.out; omega
    have HCUT := Lib.hid hcut
    obtain ⟨LS, hLS⟩ : ∃ S, Dm.bs (l.map lo9) = S := ⟨_, rfl⟩
    obtain ⟨BS, hBS⟩ : ∃ S, Dm.bs (bdy l) = S := ⟨_, rfl⟩
    obtain ⟨PS, hPS⟩ : ∃ S, Dm.bs (pwr l) = S := ⟨_, rfl⟩
    rw [HS.out, hLS] at LOW
    rw [hLS, hBS, hPS] at HCUT
    rw [hBS] at PLN
    rw [hPS] at POW
    obtain ⟨F, hF⟩ : ∃ F, frc l = F := ⟨_, rfl⟩
    obtain ⟨T, hT⟩ : ∃ T, tz (nz (dgs l)) = T := ⟨_, rfl⟩
    obtain ⟨D, hD⟩ : ∃ D, ez (nz (dgs l)) = D := ⟨_, rfl⟩
    obtain ⟨sg, hsg⟩ : ∃ s, hd1 45 45 l = s := ⟨_, rfl⟩
    obtain ⟨PW, hPW⟩ : ∃ s, pw (pwr l) = s := ⟨_, rfl⟩
    rw [hF, hT, hD, hsg] at PLN hvl
    rw [hF] at hfl
    rw [hT, hD] at hzl
    rw [hPW] at POW hxl hvl
    have HVL := Lib.hid hvl
    have HHD := Lib.hid hD
    have hFN : (F : Int) ≤ 140737488351232 := by have h7 := HN0.out; have h8 := HN.out; omega
    have hTN : (T : Int) ≤ 140737488351232 := by omega
    obtain ⟨hxl1, hxl2⟩ := hxl
    have c1 : ¬ (m : Int) < (S.size : Int) := by omega
    clear hkg hp1 hp2 hp3 hp4 hp5 hpv hrd hfl hvl hbl hpl2 hcut hLS hBS hPS hF hT hD hsg hPW hsz
    go_enter Tryd.func35, Tryd.ntmps35
    go_wp2_with fail
    refine HC.out.mono ?_
    rintro e2 w2 ⟨rfl, h2⟩
    have R2 := Lib.hid (R1.out.below h2 hR1)
    have B2 := Lib.hid (B1.out.trans (h2.mono (by omega)))
    clear h2 R1 B1 hR1 kc
    rw [HR.out]
    go_wp2_with fail
    refine (LOW.out w2).mono ?_
    rintro e3 w3 ⟨rfl, h3⟩
    have R3 := Lib.hid (R2.out.below h3 R2.out.lt)
    have B3 := Lib.hid (B2.out.trans (h3.mono (Nat.le_of_lt R2.out.lt)))
    clear h3 R2 B2
    go_wp2_with fail
    refine (HCUT.out w3).mono ?_
    rintro e4 w4 ⟨rfl, h4⟩
    have R4 := Lib.hid (R3.out.below h4 R3.out.lt)
    have B4 := Lib.hid (B3.out.trans (h4.mono (Nat.le_of_lt R3.out.lt)))
    clear h4 R3 B3
    go_wp2_with fail
    refine (PLN.out w4).mono ?_
    rintro e5 w5 ⟨rfl, h5⟩
    have R5 := Lib.hid (R4.out.below h5 R4.out.lt)
    have B5 := Lib.hid (B4.out.trans (h5.mono (Nat.le_of_lt R4.out.lt)))
    clear h5 R4 B4
    by_cases hnz : nz (dgs l) = []
    · rw [if_pos hnz]
      rw [if_pos hnz] at HVL
      have hx : X = ((false, [], 0), true) := by rw [← HX.out]; exact rd_some HVL.out
      subst hx
      dsimp only
      rw [show Dm.bs [] = (⟨#[]⟩ : ByteArray) from rfl]
      obtain ⟨Q, hQ⟩ : ∃ Q, w5.heap.size = Q := ⟨_, rfl⟩
      obtain ⟨W6, hW6⟩ : ∃ W6, w5.alloc (.cells #[.bool false, .string ⟨#[]⟩, .int .i64 0] 54) = W6 := ⟨_, rfl⟩
      have hRQ : R < Q := by have := R5.out.lt; omega
      have b6 : Below Q w5 W6 := by rw [← hW6, ← hQ]; exact below_alloc9 w5 _
      have q6 : VB W6 Q false ⟨#[]⟩ 0 := by rw [← hW6, ← hQ]; exact heap_alloc_new w5 _
      have R6 := R5.out.below b6 hRQ
      have B6 := Lib.hid (B5.out.trans (b6.mono (by omega)))
      have HQ := Lib.hid hQ
      have HW6 := Lib.hid hW6
      have p0 := q6.c0
      have p1 := q6.c1
      have p2 := q6.c2
      have r0 := R6.c0
      have r1 := R6.c1
      have r2 := R6.c2
      have g0 := R6.fz 0
      have g1 := R6.fz 1
      have g2 := R6.fz 2
      clear hnz hQ hW6 b6 q6 R6 HVL PLN LOW HCUT POW HC
      go_upto_region 6 with fail
      rw [HW6.out, HQ.out]
      clear HW6 HQ
      go_wp2_with fail
      refine bodyPost_ret (v := .tuple #[.agg #[.bool false, .string ⟨#[]⟩, .int .i64 0], .bool true]) ?_ rfl ⟨rfl, ?_⟩
      · simp only [results]
        go_simp
      · rw [HR.out]
        exact ((B6.out.setCell (p := ⟨R, 0, none⟩) (Nat.le_refl _) _).setCell (p := ⟨R, 1, none⟩) (Nat.le_refl _) _).setCell (p := ⟨R, 2, none⟩) (Nat.le_refl _) _
    · rw [if_neg hnz]
      rw [if_neg hnz] at HVL
      dsimp only
      obtain ⟨E, hE⟩ : ∃ E, Dm.bs D = E := ⟨_, rfl⟩
      have hne : E.toList.isEmpty = false := by
        rw [← hE, Dm.bs_list]
        cases hq : D with
        | nil =>
          exfalso
          rcases nz_head (dgs l) with h | ⟨y, t, h, hy⟩
          · exact hnz h
          · obtain ⟨t', ht'⟩ := ez_head hy t
            have := HHD.out
            rw [h, ht', hq] at this
            cases this
        | cons a t => rfl
      rw [hE]
      have HE := Lib.hid hE
      obtain ⟨Q, hQ⟩ : ∃ Q, w5.heap.size = Q := ⟨_, rfl⟩
      obtain ⟨W6, hW6⟩ : ∃ W6, w5.alloc (.cells #[.bool sg, .string E, .int .i64 (- (F : Int) + (T : Int))] 54) = W6 := ⟨_, rfl⟩
      have hRQ : R < Q := by have := R5.out.lt; omega
      have b6 : Below Q w5 W6 := by rw [← hW6, ← hQ]; exact below_alloc9 w5 _
      have Q6 : Hid (VB W6 Q sg E (- (F : Int) + (T : Int))) := Lib.hid (by rw [← hW6, ← hQ]; exact heap_alloc_new w5 _)
      have R6 := Lib.hid (R5.out.below b6 hRQ)
      have B6 := Lib.hid (B5.out.trans (b6.mono (by omega)))
      have HQ := Lib.hid hQ
      have HW6 := Lib.hid hW6
      have p0 := Q6.out.c0
      have p1 := Q6.out.c1
      have p2 := Q6.out.c2
      clear hnz hQ hW6 b6 hE
      go_upto_region 6 with fail
      rw [HW6.out, HQ.out]
      clear HW6 HQ
      go_wp2_with fail
      refine (POW.out W6).mono ?_
      rintro e7 w7 ⟨rfl, h7⟩
      have Q7 := Lib.hid (Q6.out.below h7 Q6.out.lt)
      have R7 := Lib.hid (R6.out.below h7 R6.out.lt)
      have B7 := Lib.hid (B6.out.trans (h7.mono (Nat.le_of_lt R6.out.lt)))
      have s0 := Q7.out.c0
      have s1 := Q7.out.c1
      have s2 := Q7.out.c2
      have s3 := Q7.out.fz 2
      have r0 := R7.out.c0
      have r1 := R7.out.c1
      have r2 := R7.out.c2
      have g0 := R7.out.fz 0
      have g1 := R7.out.fz 1
      have g2 := R7.out.fz 2
      have n1 : ¬ Q = R := by omega
      have n2 : ¬ R = Q := by omega
      clear h7 p0 p1 p2 PLN LOW HCUT POW HC
      cases PW with
      | none =>
        have hx : X = ((false, [], 0), false) := by rw [← HX.out]; exact rd_none HVL.out
        subst hx
        clear HVL hxl1 hxl2
        go_wp2_with fail
        refine bodyPost_ret (v := .tuple #[.agg #[.bool false, .string ⟨#[]⟩, .int .i64 0], .bool false]) ?_ rfl ⟨rfl, ?_⟩
        · simp only [results]
          go_simp
        · rw [HR.out]
          exact ((B7.out.setCell (p := ⟨R, 0, none⟩) (Nat.le_refl _) _).setCell (p := ⟨R, 1, none⟩) (Nat.le_refl _) _).setCell (p := ⟨R, 2, none⟩) (Nat.le_refl _) _
      | some v =>
        have hx : X = ((sg, D, v - (F : Int) + (T : Int)), true) := by rw [← HX.out]; exact rd_some HVL.out
        subst hx
        have v1 : -1000000000000000 < v := hxl1
        have v2 : v < 1000000000000000 := hxl2
        clear HVL hxl1 hxl2
        dsimp only [Option.getD, Option.isSome]
        go_wp2_with fail
        refine bodyPost_ret (v := .tuple #[.agg #[.bool sg, .string E, .int .i64 (- (F : Int) + (T : Int) + v)], .bool true]) ?_ rfl ⟨?_, ?_⟩
        · simp only [results]
          go_simp
        · dsimp only
          rw [HE.out, show - (F : Int) + (T : Int) + v = v - (F : Int) + (T : Int) by omega]
        · rw [HR.out]
          exact (((B7.out.setCell (p := ⟨Q, 2, none⟩) (by show R ≤ Q; omega) _).setCell (p := ⟨R, 0, none⟩) (Nat.le_refl _) _).setCell (p := ⟨R, 1, none⟩) (Nat.le_refl _) _).setCell (p := ⟨R, 2, none⟩) (Nat.le_refl _) _
  · have hx : X = ((false, [], 0), false) := by
      rw [← HX.out]
      exact rd_none (val_bad (l := l) (by rw [HK.out]; intro g; have g1 := congrArg Prod.fst g; have g2 := congrArg Prod.snd g; exact hbad ⟨g2, by rw [← HN.out]; exact g1⟩))
    subst hx
    by_cases he : e = 0
    · have hm : (m : Int) < (S.size : Int) := by
        have : m ≠ N := fun g => hbad ⟨he, g⟩
        omega
      subst he
      clear hbad hsz
      go_enter Tryd.func35, Tryd.ntmps35
      go_wp2_with fail
      refine HC.out.mono ?_
      rintro e2 w2 ⟨rfl, h2⟩
      have R2 := R1.out.below h2 hR1
      have B2 := Lib.hid (B1.out.trans (h2.mono (by omega)))
      have r0 := R2.c0
      have r1 := R2.c1
      have r2 := R2.c2
      have g0 := R2.fz 0
      have g1 := R2.fz 1
      have g2 := R2.fz 2
      clear h2 R2
      rw [HR.out]
      go_wp2_with fail
      refine bodyPost_ret (v := .tuple #[.agg #[.bool false, .string ⟨#[]⟩, .int .i64 0], .bool false]) ?_ rfl ⟨rfl, ?_⟩
      · simp only [results]
        go_simp
      · rw [HR.out]
        exact ((B2.out.setCell (p := ⟨R, 0, none⟩) (Nat.le_refl _) _).setCell (p := ⟨R, 1, none⟩) (Nat.le_refl _) _).setCell (p := ⟨R, 2, none⟩) (Nat.le_refl _) _
    · have he' : (e != 0) = true := by simpa using he
      clear hbad hsz
      go_enter Tryd.func35, Tryd.ntmps35
      go_wp2_with fail
      refine HC.out.mono ?_
      rintro e2 w2 ⟨rfl, h2⟩
      have R2 := R1.out.below h2 hR1
      have B2 := Lib.hid (B1.out.trans (h2.mono (by omega)))
      have r0 := R2.c0
      have r1 := R2.c1
      have r2 := R2.c2
      have g0 := R2.fz 0
      have g1 := R2.fz 1
      have g2 := R2.fz 2
      clear h2 R2
      rw [HR.out]
      go_wp2_with fail
      refine bodyPost_ret (v := .tuple #[.agg #[.bool false, .string ⟨#[]⟩, .int .i64 0], .bool false]) ?_ rfl ⟨rfl, ?_⟩
      · simp only [results]
        go_simp
      · rw [HR.out]
        exact ((B2.out.setCell (p := ⟨R, 0, none⟩) (Nat.le_refl _) _).setCell (p := ⟨R, 1, none⟩) (Nat.le_refl _) _).setCell (p := ⟨R, 2, none⟩) (Nat.le_refl _) _

theorem str_eq {a b : List Int} (ha : IsB a) (hb : IsB b) : ((Dm.bs a).toList == (Dm.bs b).toList) = decide (a = b) := Dm.bs_eq ha hb
theorem rd_ds {l : List Int} : IsB (rd l).1.2.1 := by
  unfold rd
  cases h : val l with
  | none => intro x hx; cases hx
  | some x =>
    obtain ⟨b, d, p⟩ := x
    show IsB d
    unfold val at h
    split at h
    · cases h
    split at h
    · injection h with h; injection h with h1 h2; injection h2 with h2 h3; rw [← h2]; intro x hx; cases hx
    · split at h
      · cases h
      · injection h with h; injection h with h1 h2; injection h2 with h2 h3; rw [← h2]
        exact ds_byte (ez_ds (nz_ds (fun y hy => dg_ds (List.mem_filter.1 hy).2)))
theorem sam_rd (a b : List Int) : sam a b = ((rd a).2 && (rd b).2 && ((rd a).1.1 == (rd b).1.1 && decide ((rd a).1.2.1 = (rd b).1.2.1) && ((rd a).1.2.2 == (rd b).1.2.2))) := by
  unfold sam rd
  cases ha : val a with
  | none => rfl
  | some x =>
    cases hb : val b with
    | none => rfl
    | some y =>
      obtain ⟨b1, d1, p1⟩ := x
      obtain ⟨b2, d2, p2⟩ := y
      simp only [Bool.true_and, Prod.mk.injEq]
      by_cases g1 : b1 = b2 <;> by_cases g2 : d1 = d2 <;> by_cases g3 : p1 = p2 <;> simp [g1, g2, g3]
set_option maxRecDepth 100000 in
set_option maxHeartbeats 4000000 in
theorem same_ok (a b : List Int) (w : World) (ha : IsB a) (hb : IsB b) (hn : a.length ≤ 140737488351232) (hm : b.length ≤ 140737488351232) :
    Calls Tryd.prog 17 #[.string (Dm.bs a), .string (Dm.bs b)] w fun e w' => e = .returned (.bool (sam a b)) ∧ Below w.heap.size w w' := by
  have RA := Lib.hid (read_ok a w ha hn)
  have RB := Lib.hid (fun w' => read_ok b w' hb hm)
  have HS := Lib.hid (sam_rd a b)
  have hda := rd_ds (l := a)
  have hdb := rd_ds (l := b)
  obtain ⟨Z, hZ⟩ : ∃ Z, sam a b = Z := ⟨_, rfl⟩
  rw [hZ] at HS ⊢
  obtain ⟨b1, d1, p1, o1, h1⟩ : ∃ x0 d p o, rd a = ((x0, d, p), o) := ⟨_, _, _, _, rfl⟩
  obtain ⟨b2, d2, p2, o2, h2⟩ : ∃ x0 d p o, rd b = ((x0, d, p), o) := ⟨_, _, _, _, rfl⟩
  rw [h1] at RA HS hda
  rw [h2] at RB HS hdb
  dsimp only at HS hda hdb
  unfold RdP at RA RB
  dsimp only at RA RB
  have hse := str_eq hda hdb
  obtain ⟨S, hS⟩ : ∃ S, Dm.bs a = S := ⟨_, rfl⟩
  obtain ⟨T, hT⟩ : ∃ T, Dm.bs b = T := ⟨_, rfl⟩
  obtain ⟨E1, hE1⟩ : ∃ S, Dm.bs d1 = S := ⟨_, rfl⟩
  obtain ⟨E2, hE2⟩ : ∃ S, Dm.bs d2 = S := ⟨_, rfl⟩
  rw [hS, hE1] at RA
  rw [hT, hE2] at RB
  rw [hS, hT]
  rw [hE1, hE2] at hse
  rw [← hse] at HS
  clear hZ h1 h2 hda hdb hse hS hT hE1 hE2 ha hb hn hm
  go_enter Tryd.func17, Tryd.ntmps17
  go_wp2_with fail
  refine RA.out.mono ?_
  rintro e w1 ⟨rfl, hb1⟩
  have P1 := Lib.hid (show VB (w1.alloc (.cells #[.bool b1, .string E1, .int .i64 p1] 54)) w1.heap.size b1 E1 p1 from heap_alloc_new w1 _)
  have B1 := Lib.hid (ext9 hb1 (below_alloc9 w1 (.cells #[.bool b1, .string E1, .int .i64 p1] 54)))
  clear hb1
  go_wp2_with fail
  obtain ⟨Q, hQ⟩ : ∃ Q, w1.heap.size = Q := ⟨_, rfl⟩
  obtain ⟨W1, hW1⟩ : ∃ W1, w1.alloc (.cells #[.bool b1, .string E1, .int .i64 p1] 54) = W1 := ⟨_, rfl⟩
  rw [hW1] at P1 B1 ⊢
  rw [hQ] at P1 ⊢
  clear hW1 hQ
  refine (RB.out W1).mono ?_
  rintro e w2 ⟨rfl, hb2⟩
  have Q1 := (P1.out.below hb2 P1.out.lt).below (below_alloc9 w2 (.cells #[.bool b2, .string E2, .int .i64 p2] 54)) (P1.out.below hb2 P1.out.lt).lt
  have Q2 := (show VB (w2.alloc (.cells #[.bool b2, .string E2, .int .i64 p2] 54)) w2.heap.size b2 E2 p2 from heap_alloc_new w2 _)
  have B2 := Lib.hid (ext9 (ext9 B1.out hb2) (below_alloc9 w2 (.cells #[.bool b2, .string E2, .int .i64 p2] 54)))
  obtain ⟨W2, hW2⟩ : ∃ W2, w2.alloc (.cells #[.bool b2, .string E2, .int .i64 p2] 54) = W2 := ⟨_, rfl⟩
  obtain ⟨R, hR⟩ : ∃ R, w2.heap.size = R := ⟨_, rfl⟩
  rw [hW2] at Q1 Q2 B2
  rw [hR] at Q2
  have HW2 := Lib.hid hW2
  have HR := Lib.hid hR
  have q10 := Q1.c0
  have q11 := Q1.c1
  have q12 := Q1.c2
  have q20 := Q2.c0
  have q21 := Q2.c1
  have q22 := Q2.c2
  clear hW2 hR hb2 Q1 Q2
  go_upto_region 3 with fail
  rw [HW2.out, HR.out]
  clear HW2 HR
  cases o1 with
  | false =>
    obtain rfl : Z = false := by rw [HS.out]; rfl
    go_wp2_with fail
    go_ret
    exact ⟨rfl, B2.out⟩
  | true =>
    cases o2 with
    | false =>
      obtain rfl : Z = false := by rw [HS.out]; rfl
      go_wp2_with fail
      go_ret
      exact ⟨rfl, B2.out⟩
    | true =>
      have HS2 := Lib.hid (show Z = ((b1 == b2) && (E1.toList == E2.toList) && (p1 == p2)) by rw [HS.out]; simp)
      clear HS
      cases g3 : (E1.toList == E2.toList) with
      | false =>
        obtain rfl : Z = false := by rw [HS2.out, g3]; simp
        clear HS2
        go_wp2_with fail
        all_goals
          go_ret
          exact ⟨rfl, B2.out⟩
      | true =>
        by_cases g1 : b1 = b2
        · subst g1
          by_cases g2 : p1 = p2
          · subst g2
            obtain rfl : Z = true := by rw [HS2.out, g3]; simp
            clear HS2
            go_wp2_with fail
            all_goals
              go_ret
              exact ⟨rfl, B2.out⟩
          · obtain rfl : Z = false := by rw [HS2.out, g3]; simp [g2]
            clear HS2
            go_wp2_with fail
            all_goals
              go_ret
              exact ⟨rfl, B2.out⟩
        · obtain rfl : Z = false := by rw [HS2.out, g3]; simp [g1]
          clear HS2
          go_wp2_with fail
          all_goals
            go_ret
            exact ⟨rfl, B2.out⟩
end Nu
end Go.Proofs.YtjgkaccmfdjffaaDoor
