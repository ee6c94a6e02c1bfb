/-
  The program's plain of layer 9.
-/
import Derived.Test.YtjgkaccmfdjffaaDoorNw
import Derived.BigQuiet
namespace Go.Proofs.YtjgkaccmfdjffaaDoor
set_option linter.unusedVariables false
set_option linter.unusedSimpArgs false
open Go.RowKit
namespace Nu
open Wd We Es Bu
open Dm (Ds vl decs vl_pos vl_lt)

/-- a value of the program's, in a block of its own -/
def VB (w : World) (P : Nat) (b : Bool) (s : ByteArray) (p : Int) : Prop := w.heap[P]? = some (.cells #[.bool b, .string s, .int .i64 p] 54 (0, 0))
section
variable {w : World} {P : Nat} {b : Bool} {s : ByteArray} {p : Int}
theorem VB.c0 (h : VB w P b s p) : w.cell? ⟨P, 0, none⟩ = some (.bool b) := by unfold VB at h; simp only [World.cell?, h]; rfl
theorem VB.c1 (h : VB w P b s p) : w.cell? ⟨P, 1, none⟩ = some (.string s) := by unfold VB at h; simp only [World.cell?, h]; rfl
theorem VB.c2 (h : VB w P b s p) : w.cell? ⟨P, 2, none⟩ = some (.int .i64 p) := by unfold VB at h; simp only [World.cell?, h]; rfl
theorem VB.fz (h : VB w P b s p) (j : Nat) : w.frozen? ⟨P, j, none⟩ = false := by unfold VB at h; simp [World.frozen?, h]
theorem VB.lt (h : VB w P b s p) : P < w.heap.size := (Array.getElem?_eq_some_iff.1 h).1
theorem VB.set0 (h : VB w P b s p) (q : Bool) : VB (w.setCell ⟨P, 0, none⟩ (.bool q)) P q s p := by unfold VB at h ⊢; simp [World.setCell, Array.getElem?_modify, h]
theorem VB.set1 (h : VB w P b s p) (q : ByteArray) : VB (w.setCell ⟨P, 1, none⟩ (.string q)) P b q p := by unfold VB at h ⊢; simp [World.setCell, Array.getElem?_modify, h]
theorem VB.set2 (h : VB w P b s p) (q : Int) : VB (w.setCell ⟨P, 2, none⟩ (.int .i64 q)) P b s q := by unfold VB at h ⊢; simp [World.setCell, Array.getElem?_modify, h]
theorem VB.put (h : VB w P b s p) {Q : Nat} (hq : Q ≠ P) (j : Nat) (u : Value) : VB (w.setCell ⟨Q, j, none⟩ u) P b s p := by
  unfold VB at h ⊢; rw [← h]; exact Below.heap_setCell _ _ _ _ (fun e => hq e.symm)
theorem VB.below (h : VB w P b s p) {w' : World} {B : Nat} (hw : Below B w w') (hB : P < B) : VB w' P b s p := by
  unfold VB at h ⊢; rw [← h]; exact hw.block P hB
end
theorem Bld.set {b P : Nat} {bs : List Value} {w : World} (h : Bld b bs w) (hP : P < b) (j : Nat) (u : Value) : Bld b bs (w.setCell ⟨P, j, none⟩ u) := by
  have hg : w.grownBy (w.setCell ⟨P, j, none⟩ u) (some P) := ⟨rfl, rfl, rfl, by simp [World.setCell], fun k _ hk => Below.heap_setCell _ _ _ _ (fun e => hk (by simp [e]))⟩
  have one : ∀ p, Lib.BuilderAtF 74 5 b b p bs w → Lib.BuilderAtF 74 5 b b p bs (w.setCell ⟨P, j, none⟩ u) := fun p h => by
    obtain ⟨hB, v, hbk, hown, hne⟩ := h
    refine ⟨hB, v, (Below.heap_setCell _ _ _ _ (fun e => by simp only at e; omega)).trans hbk, hown.kept hg ?_, hne⟩
    cases hv : v.ownBlock with
    | none => simp
    | some g => right; intro e; injection e with e; have := (hown.lt g hv).1; omega
  rcases h with h | h
  · exact .inl (one _ h)
  · exact .inr (one _ h)
theorem Bld.lt9 {b : Nat} {bs : List Value} {w : World} (h : Bld b bs w) : b < w.heap.size := by
  rcases h with h | h <;> exact h.lt
/-- bytes as a builder holds them -/
def bc (l : List Int) : List Value := Lib.byteCells (u8s l)
theorem bc_len (l : List Int) : (bc l).length = l.length := by unfold bc u8s; rw [Lib.byteCells_length, List.length_map]
theorem bc_snoc {l : List Int} {x : Int} (h0 : 0 ≤ x) (h1 : x ≤ 127) : bc (l ++ [x]) = bc l ++ Lib.runeCells x := by
  have h : Lib.runeCells x = bc [x] := by
    unfold Lib.runeCells bc u8s Lib.byteCells
    rw [Lib.encodeRuneZ_one h0 h1]
    show [Value.int .u8 x] = [Value.int .u8 ((UInt8.ofNat x.toNat).toNat : Int)]
    rw [UInt8.toNat_ofNat', show ((x.toNat % 2 ^ 8 : Nat) : Int) = x by omega]
  rw [h]
  unfold bc u8s Lib.byteCells
  simp
theorem enc_asc {x : Int} (h0 : 0 ≤ x) (h1 : x < 128) : Utf8.encode x = Dm.bs [x] :=
  byte_all9 (P := fun x => x < 128 → Utf8.encode x = Dm.bs [x]) (by decide +kernel) h0 (by omega) h1
/-- is it below 0? -/
def mj (l : List Int) (j : Nat) : Bool := (l.take j).any (fun x => decide (x = 45))
theorem mj_next {l : List Int} {j : Nat} {x : Int} (h : l[j]? = some x) : mj l (j + 1) = (mj l j || decide (x = 45)) := by
  unfold mj; rw [take_snoc h, List.any_append]; simp
/-- what a number without a power is made of -/
def Pl (l : List Int) : Prop := ∀ x ∈ l, x = 45 ∨ x = 46 ∨ (48 ≤ x ∧ x ≤ 57)
/-- what plain tells -/
def pl (l : List Int) : Bool × List Int × Int :=
  if nz (l.filter dg) = [] then (false, [], 0) else (mj l l.length, ez (nz (l.filter dg)), - (((l.dropWhile np).filter dg).length : Int) + (tz (nz (l.filter dg)) : Int))

set_option maxRecDepth 100000 in
set_option maxHeartbeats 4000000 in
theorem plain_ok (l : List Int) (w : World) (hl : Pl l) (hn : l.length ≤ 140737488351232) :
    Calls Tryd.prog 43 #[.string (Dm.bs l)] w fun e w' => e = .returned (.agg #[.bool (pl l).1, .string (Dm.bs (pl l).2.1), .int .i64 (pl l).2.2]) ∧ Below w.heap.size w w' := by
  have HL := Lib.hid hl
  obtain ⟨X, hX⟩ : ∃ X, pl l = X := ⟨_, rfl⟩
  rw [hX]
  have HX0 := Lib.hid hX
  clear hX
  obtain ⟨S, hS⟩ : ∃ S, Dm.bs l = S := ⟨_, rfl⟩
  have HS := Lib.hid hS
  have hsz : S.size = l.length := by rw [← hS]; exact Dm.bs_size l
  obtain ⟨N, hN⟩ : ∃ N, l.length = N := ⟨_, rfl⟩
  have HN := Lib.hid hN
  rw [hN] at hsz hn
  rw [hS]
  obtain ⟨W1, hW1⟩ : ∃ W1, w.alloc (.cells #[.bool false, .string ⟨#[]⟩, .int .i64 0] 54) = W1 := ⟨_, rfl⟩
  obtain ⟨W2, hW2⟩ : ∃ W2, W1.alloc (.cells #[.bool false, .string ⟨#[]⟩, .int .i64 0] 54) = W2 := ⟨_, rfl⟩
  obtain ⟨W3, hW3⟩ : ∃ W3, W2.alloc (.cells #[.pointer none, .slice none 0 0] 74) = W3 := ⟨_, rfl⟩
  obtain ⟨W4, hW4⟩ : ∃ W4, W3.alloc (.stringIter S 0) = W4 := ⟨_, rfl⟩
  obtain ⟨R, hR⟩ : ∃ R, w.heap.size = R := ⟨_, rfl⟩
  obtain ⟨P, hP⟩ : ∃ P, R + 1 = P := ⟨_, rfl⟩
  obtain ⟨B, hB⟩ : ∃ B, P + 1 = B := ⟨_, rfl⟩
  obtain ⟨K, hK⟩ : ∃ K, B + 1 = K := ⟨_, rfl⟩
  have z1 : W1.heap.size = P := by rw [← hW1, World.size_alloc, hR, hP]
  have z2 : W2.heap.size = B := by rw [← hW2, World.size_alloc, z1, hB]
  have z3 : W3.heap.size = K := by rw [← hW3, World.size_alloc, z2, hK]
  have b1 : Below R w W1 := by rw [← hW1, ← hR]; exact below_alloc9 w _
  have b2 : Below P W1 W2 := by rw [← hW2, ← z1]; exact below_alloc9 W1 _
  have b3 : Below B W2 W3 := by rw [← hW3, ← z2]; exact below_alloc9 W2 _
  have b4 : Below K W3 W4 := by rw [← hW4, ← z3]; exact below_alloc9 W3 _
  have r1 : VB W1 R false ⟨#[]⟩ 0 := by rw [← hW1, ← hR]; exact heap_alloc_new w _
  have p2 : VB W2 P false ⟨#[]⟩ 0 := by rw [← hW2, ← z1]; exact heap_alloc_new W1 _
  have r4 : VB W4 R false ⟨#[]⟩ 0 := ((r1.below b2 (by omega)).below b3 (by omega)).below b4 (by omega)
  have p4 : VB W4 P false ⟨#[]⟩ 0 := (p2.below b3 (by omega)).below b4 (by omega)
  have d3 : Bld B (bc []) W3 := by rw [← hW3, ← z2]; exact Lib.IsBuilderF.of (Lib.fresh_isBuilder 74 5 W2)
  have d4 : Bld B (bc []) W4 := by rw [← hW4]; exact Lib.IsBuilderF.alloc d3 _
  have i4 : W4.heap[K]? = some (.stringIter S 0) := by rw [← hW4, ← z3]; exact World.iter_heap W3 S 0
  have b5 : Below R w W4 := ((b1.trans (b2.mono (by omega))).trans (b3.mono (by omega))).trans (b4.mono (by omega))
  have R4 := Lib.hid r4
  have P4 := Lib.hid p4
  have D4 := Lib.hid d4
  have I4 := Lib.hid i4
  have B5 := Lib.hid b5
  have HW1 := Lib.hid hW1
  have HW2 := Lib.hid hW2
  have HW3 := Lib.hid hW3
  have HW4 := Lib.hid (show W3.iter S 0 = W4 from hW4)
  have HR := Lib.hid hR
  have HP := Lib.hid hP
  have HB := Lib.hid hB
  have HK := Lib.hid hK
  have HSZ := Lib.hid hsz
  have hRP : R < P := by omega
  have hPB : P < B := by omega
  have hBK : B < K := by omega
  clear hl hS hN hsz hW1 hW2 hW3 hW4 hR hP hB hK b1 b2 b3 b4 r1 p2 d3 r4 p4 d4 i4 b5 z1 z2 z3
  go_enter Tryd.func43, Tryd.ntmps43
  go_wp2
  rw [HW1.out, HW2.out, HW3.out, HW4.out, HR.out, HP.out, HB.out, HK.out]
  have HRW : Hid (w.heap.size = R) := HR
  clear HW1 HW2 HW3 HW4 HR HP HB HK
  go_loopw [5] (fun bv wr => ∃ q : Nat, bv = .bool (pj l q) ∧ q ≤ N ∧ Hid (VB wr P (mj l q) ⟨#[]⟩ (- (fj l q : Int))) ∧ Hid (VB wr R false ⟨#[]⟩ 0) ∧ Hid (Bld B (bc (dj l q)) wr) ∧ Hid (wr.heap[K]? = some (.stringIter S q)) ∧ Hid (Below R w wr)) (fun _ wr => N - wr.iterPos K)
  case atStart => exact ⟨0, rfl, Nat.zero_le _, P4, R4, D4, I4, B5⟩
  case round =>
    obtain ⟨q, rfl, hq, HP0, HR0, HD0, HI0, HB0⟩ := hrel
    by_cases hqN : q < N
    · have hql : q < l.length := by have := HN.out; omega
      obtain ⟨x, hx⟩ : ∃ x, l[q]? = some x := ⟨_, List.getElem?_eq_getElem hql⟩
      have hxp := HL.out x (List.mem_of_getElem? hx)
      have hnx0 : ∀ ty, (Instr.next (.pointer (some ⟨K, 0, none⟩)) true ty).run Tryd.prog wr = .ok (.tuple #[.bool true, .int .i64 q, .int .i32 x]) (wr.iterAt K S (q + 1)) := fun ty => by
        have h := next_asc (P := Tryd.prog) (l := l) (by rw [HS.out]; exact HI0.out) hx (by omega) (by omega) ty
        rw [HS.out] at h; exact h
      have HDN := Lib.hid (dj_next hx)
      have HFN := Lib.hid (fj_next hx)
      have HPN := Lib.hid (pj_next hx)
      have HMN := Lib.hid (mj_next hx)
      have I20 := Lib.iterAt_heap wr K S q (q + 1) HI0.out
      have E20 := Lib.below_iterAt HB0.out (k := K) (by omega) S (q + 1)
      have E2K := Lib.below_iterAt (Below.refl K wr) (k := K) (Nat.le_refl _) S (q + 1)
      have D20 : Bld B (bc (dj l q)) (wr.iterAt K S (q + 1)) := Lib.IsBuilderF.iterAt HD0.out HI0.out (q + 1)
      have P20 := HP0.out.below E2K (by omega)
      have R20 := HR0.out.below E2K (by omega)
      obtain ⟨V, hV⟩ : ∃ V, wr.iterAt K S (q + 1) = V := ⟨_, rfl⟩
      rw [hV] at I20 E20 hnx0 D20 P20 R20
      have I2 := Lib.hid I20
      have E2 := Lib.hid E20
      have D2 := Lib.hid D20
      have P2 := Lib.hid P20
      have R2 := Lib.hid R20
      have hnx := hnx0
      have HM : Hid (∀ V' : World, V'.heap[K]? = some (.stringIter S (q + 1)) → N - V'.iterPos K < N - wr.iterPos K) := Lib.hid (fun V' h => by rw [iterPos9 h, iterPos9 HI0.out]; omega)
      have HX := Lib.hid hx
      clear I20 E20 E2K hV hnx0 hx hql D20 P20 R20 HP0 HR0 HD0 HB0
      rcases hxp with rfl | rfl | hxd
      · have c0 := P2.out.c0
        have f0 := P2.out.fz 0
        have E1 := Lib.hid (show dj l (q + 1) = dj l q by rw [HDN.out, if_neg (by decide), List.append_nil])
        have E2' := Lib.hid (show fj l (q + 1) = fj l q by rw [HFN.out, if_neg (fun g => by have := g.1; revert this; decide)]; rfl)
        have E3 := Lib.hid (show pj l (q + 1) = pj l q by rw [HPN.out, decide_eq_false (by decide), Bool.or_false])
        have E4 := Lib.hid (show mj l (q + 1) = true by rw [HMN.out]; simp)
        have P3 : Hid (VB (V.setCell ⟨P, 0, none⟩ (.bool true)) P (mj l (q + 1)) ⟨#[]⟩ (- (fj l (q + 1) : Int))) := Lib.hid (by rw [E4.out, E2'.out]; exact P2.out.set0 true)
        have R3 : Hid (VB (V.setCell ⟨P, 0, none⟩ (.bool true)) R false ⟨#[]⟩ 0) := Lib.hid (R2.out.put (by omega) 0 _)
        have D3 : Hid (Bld B (bc (dj l (q + 1))) (V.setCell ⟨P, 0, none⟩ (.bool true))) := Lib.hid (by rw [E1.out]; exact Bld.set D2.out hPB 0 _)
        have I3 : Hid ((V.setCell ⟨P, 0, none⟩ (.bool true)).heap[K]? = some (.stringIter S (q + 1))) := Lib.hid ((Below.heap_setCell _ _ _ _ (fun e => by simp only at e; omega)).trans I2.out)
        have B3 : Hid (Below R w (V.setCell ⟨P, 0, none⟩ (.bool true))) := Lib.hid (E2.out.setCell (p := ⟨P, 0, none⟩) (by show R ≤ P; omega) _)
        have h45 : ((Utf8.encode 45).toList == [45]) = true := by decide +kernel
        go_wp2_with fail
        exact ⟨⟨q + 1, by rw [E3.out], by omega, P3, R3, D3, I3, B3⟩, HM.out _ I3.out⟩
      · have E1 := Lib.hid (show dj l (q + 1) = dj l q by rw [HDN.out, if_neg (by decide), List.append_nil])
        have E2' := Lib.hid (show fj l (q + 1) = fj l q by rw [HFN.out, if_neg (fun g => by have := g.1; revert this; decide)]; rfl)
        have E3 := Lib.hid (show pj l (q + 1) = true by rw [HPN.out]; simp)
        have E4 := Lib.hid (show mj l (q + 1) = mj l q by rw [HMN.out, decide_eq_false (by decide), Bool.or_false])
        have P3 : Hid (VB V P (mj l (q + 1)) ⟨#[]⟩ (- (fj l (q + 1) : Int))) := Lib.hid (by rw [E4.out, E2'.out]; exact P2.out)
        have D3 : Hid (Bld B (bc (dj l (q + 1))) V) := Lib.hid (by rw [E1.out]; exact D2.out)
        have h45 : ((Utf8.encode 46).toList == [45]) = false := by decide +kernel
        have h46 : ((Utf8.encode 46).toList == [46]) = true := by decide +kernel
        go_wp2_with fail
        exact ⟨⟨q + 1, by rw [E3.out], by omega, P3, R2, D3, I2, E2⟩, HM.out _ I2.out⟩
      · have h45 := byte_all9 (P := fun x => 48 ≤ x → x ≤ 57 → ((Utf8.encode x).toList == [45]) = false) (by decide +kernel) (c := x) (by omega) (by omega) hxd.1 hxd.2
        have h46 := byte_all9 (P := fun x => 48 ≤ x → x ≤ 57 → ((Utf8.encode x).toList == [46]) = false) (by decide +kernel) (c := x) (by omega) (by omega) hxd.1 hxd.2
        obtain ⟨x0, x1⟩ := hxd
        have hdg : dg x = true := decide_eq_true ⟨x0, x1⟩
        have E1 := Lib.hid (show bc (dj l (q + 1)) = bc (dj l q) ++ Lib.runeCells x by rw [HDN.out, if_pos hdg, bc_snoc (by omega) (by omega)])
        have E3 := Lib.hid (show pj l (q + 1) = pj l q by rw [HPN.out, decide_eq_false (by omega), Bool.or_false])
        have E4 := Lib.hid (show mj l (q + 1) = mj l q by rw [HMN.out, decide_eq_false (by omega), Bool.or_false])
        have E5 := Lib.hid (show fj l (q + 1) = fj l q + (if pj l q = true then 1 else 0) by
          rw [HFN.out, E3.out]
          by_cases g : pj l q = true
          · rw [if_pos ⟨hdg, g⟩, if_pos g]
          · rw [if_neg (fun h => g h.2), if_neg g])
        have hbl : (bc (dj l q)).length + 4 ≤ 140737488355328 := by
          have := (List.filter_sublist (p := dg) (l := l.take q)).length_le
          rw [List.length_take] at this
          rw [bc_len]; unfold dj; omega
        have hfj : fj l q ≤ q := by
          have h1 := (List.filter_sublist (p := dg) (l := (l.take q).dropWhile np)).length_le
          have h2 := (List.dropWhile_sublist (l := l.take q) np).length_le
          rw [List.length_take] at h2; unfold fj; omega
        have hBV := Nat.le_of_lt (Bld.lt9 D2.out)
        clear hdg
        go_wp2_with fail
        refine (writeRune_any B _ x (by omega) (by omega) V D2.out hbl hBV).mono ?_
        rintro e w5 ⟨rfl, h5, b5, k5⟩
        have D5 : Hid (Bld B (bc (dj l (q + 1))) w5) := Lib.hid (by rw [E1.out]; exact h5)
        have I5 := Lib.hid (k5.iter I2.out (by omega))
        have B5 := Lib.hid (E2.out.trans (b5.mono (by omega)))
        have P5 := Lib.hid (P2.out.below b5 hPB)
        have R5 := Lib.hid (R2.out.below b5 (by omega))
        clear h5 b5 k5
        cases hpj : pj l q with
        | false =>
          rw [hpj] at E3 E5
          have P6 : Hid (VB w5 P (mj l (q + 1)) ⟨#[]⟩ (- (fj l (q + 1) : Int))) := Lib.hid (by rw [E4.out, E5.out]; exact P5.out)
          go_wp2_with fail
          exact ⟨⟨q + 1, by rw [E3.out], by omega, P6, R5, D5, I5, B5⟩, HM.out _ I5.out⟩
        | true =>
          rw [hpj] at E3 E5
          have c2 := P5.out.c2
          have f2 := P5.out.fz 2
          obtain ⟨F, hF⟩ : ∃ F, fj l q = F := ⟨_, rfl⟩
          rw [hF] at c2 hfj
          have P6 : Hid (VB (w5.setCell ⟨P, 2, none⟩ (.int .i64 (-(F : Int) - 1))) P (mj l (q + 1)) ⟨#[]⟩ (- (fj l (q + 1) : Int))) := Lib.hid (by
            have h := P5.out.set2 (-(F : Int) - 1)
            rw [E4.out, E5.out, hF, if_pos rfl, show (- ((F + 1 : Nat) : Int)) = -(F : Int) - 1 by omega]; exact h)
          have R6 : Hid (VB (w5.setCell ⟨P, 2, none⟩ (.int .i64 (-(F : Int) - 1))) R false ⟨#[]⟩ 0) := Lib.hid (R5.out.put (by omega) 2 _)
          have D6 : Hid (Bld B (bc (dj l (q + 1))) (w5.setCell ⟨P, 2, none⟩ (.int .i64 (-(F : Int) - 1)))) := Lib.hid (Bld.set D5.out hPB 2 _)
          have I6 : Hid ((w5.setCell ⟨P, 2, none⟩ (.int .i64 (-(F : Int) - 1))).heap[K]? = some (.stringIter S (q + 1))) := Lib.hid ((Below.heap_setCell _ _ _ _ (fun e => by simp only at e; omega)).trans I5.out)
          have B6 : Hid (Below R w (w5.setCell ⟨P, 2, none⟩ (.int .i64 (-(F : Int) - 1)))) := Lib.hid (B5.out.setCell (p := ⟨P, 2, none⟩) (by show R ≤ P; omega) _)
          clear hF
          go_wp2_with fail
          exact ⟨⟨q + 1, by rw [E3.out], by omega, P6, R6, D6, I6, B6⟩, HM.out _ I6.out⟩
    · obtain rfl : q = N := by omega
      have hp : ¬ q < S.size := by rw [HSZ.out]; omega
      have hnx : ∀ ty, (Instr.next (.pointer (some ⟨K, 0, none⟩)) true ty).run Tryd.prog wr = _ := fun ty => Lib.run_next_end_at wr K S _ ty HI0.out hp
      clear hp
      have hD : dj l q = l.filter dg := by unfold dj; rw [List.take_of_length_le (by have := HN.out; omega)]
      have hF : fj l q = ((l.dropWhile np).filter dg).length := by unfold fj; rw [List.take_of_length_le (by have := HN.out; omega)]
      have HPL : Hid (X = if nz (dj l q) = [] then (false, [], 0) else (mj l q, ez (nz (dj l q)), - (fj l q : Int) + (tz (nz (dj l q)) : Int))) := Lib.hid (by rw [← HX0.out, hD, hF, ← HN.out]; rfl)
      have hDs : Ds (dj l q) := fun x hx => dg_ds (List.mem_filter.1 hx).2
      have hDl : (dj l q).length ≤ q := by
        have := (List.filter_sublist (p := dg) (l := l.take q)).length_le
        rw [List.length_take] at this
        unfold dj; omega
      have hFl : fj l q ≤ q := by
        have h1 := (List.filter_sublist (p := dg) (l := (l.take q).dropWhile np)).length_le
        have h2 := (List.dropWhile_sublist (l := l.take q) np).length_le
        rw [List.length_take] at h2; unfold fj; omega
      obtain ⟨D, hD'⟩ : ∃ D, dj l q = D := ⟨_, rfl⟩
      obtain ⟨F, hF'⟩ : ∃ F, fj l q = F := ⟨_, rfl⟩
      obtain ⟨M, hM'⟩ : ∃ M, mj l q = M := ⟨_, rfl⟩
      rw [hD', hF', hM'] at HPL
      rw [hF', hM'] at HP0
      rw [hD'] at hDs hDl HD0
      rw [hF'] at hFl
      have hBV := Nat.le_of_lt (Bld.lt9 HD0.out)
      have ST := Lib.hid (string_any B (u8s D) wr HD0.out hBV)
      have TL := Lib.hid (fun w' => trimL_nought D (ds_byte hDs) w')
      have TR := Lib.hid (fun w' => trimR_nought (nz D) (ds_byte (nz_ds hDs)) (by have := nz_length D; omega) w')
      rw [bs_u8s] at ST
      have hz1 : (Dm.bs (nz D)).size = (nz D).length := Dm.bs_size _
      have hz2 : (Dm.bs (ez (nz D))).size = (ez (nz D)).length := Dm.bs_size _
      have hz3 := ez_length (nz D)
      have hz4 := nz_length D
      obtain ⟨DS, hDS⟩ : ∃ S, Dm.bs D = S := ⟨_, rfl⟩
      obtain ⟨Z, hZ⟩ : ∃ S, Dm.bs (nz D) = S := ⟨_, rfl⟩
      obtain ⟨E, hE⟩ : ∃ S, Dm.bs (ez (nz D)) = S := ⟨_, rfl⟩
      have HZ := Lib.hid hZ
      have HE := Lib.hid hE
      rw [hDS] at ST TL
      rw [hZ] at TL TR hz1
      rw [hE] at TR hz2
      clear hD hF hD' hF' hM' hDS hZ hE hDs
      go_wp2_with fail
      refine ST.out.mono ?_
      rintro e w1 ⟨rfl, h1⟩
      have P1 := Lib.hid (HP0.out.below h1 hPB)
      have R1 := Lib.hid (HR0.out.below h1 (by omega))
      have B1 := Lib.hid (HB0.out.trans (h1.mono (by omega)))
      clear h1
      go_wp2_with fail
      refine (TL.out w1).mono ?_
      rintro e w2 ⟨rfl, h2⟩
      have P2 := Lib.hid (P1.out.below h2 P1.out.lt)
      have R2 := Lib.hid (R1.out.below h2 R1.out.lt)
      have B2 := Lib.hid (B1.out.trans (h2.mono (by have := R1.out.lt; omega)))
      clear h2
      by_cases hnz : nz D = []
      · have hx : X = (false, [], 0) := by rw [HPL.out, if_pos hnz]
        subst hx
        have hze : Z = ⟨#[]⟩ := by rw [← HZ.out, hnz]; rfl
        subst hze
        have r0 := R2.out.c0
        have r1 := R2.out.c1
        have r2 := R2.out.c2
        have g0 := R2.out.fz 0
        have g1 := R2.out.fz 1
        have g2 := R2.out.fz 2
        go_wp2_with fail
        refine bodyPost_ret (v := .agg #[.bool false, .string ⟨#[]⟩, .int .i64 0]) ?_ rfl ⟨rfl, ?_⟩
        · simp only [results]
          go_simp
        · rw [HRW.out]
          exact ((B2.out.setCell (p := ⟨R, 0, none⟩) (Nat.le_refl _) _).setCell (p := ⟨R, 1, none⟩) (Nat.le_refl _) _).setCell (p := ⟨R, 2, none⟩) (Nat.le_refl _) _
      · have hze : Z.toList.isEmpty = false := by
          rw [← HZ.out, Dm.bs_list]
          cases hq : nz D with
          | nil => exact absurd hq hnz
          | cons a t => rfl
        have hx : X = (M, ez (nz D), - (F : Int) + (tz (nz D) : Int)) := by rw [HPL.out, if_neg hnz]
        subst hx
        have TR1 := Lib.hid (TR.out w2)
        have ht : (Z.size : Int) - (E.size : Int) = (tz (nz D) : Int) := by omega
        obtain ⟨t0, ht0⟩ : ∃ t0, tz (nz D) = t0 := ⟨_, rfl⟩
        rw [ht0] at ht hz3
        have HT0 := Lib.hid ht0
        have s1 : (Z.size : Int) ≤ 140737488351232 := by omega
        have s2 : (E.size : Int) ≤ 140737488351232 := by omega
        have s3 : (0 : Int) ≤ (E.size : Int) := by omega
        have s4 : (E.size : Int) ≤ (Z.size : Int) := by omega
        clear ht0 hz1 hz2 hz3 hz4 hnz
        go_wp2_with fail
        refine TR1.out.mono ?_
        rintro e w3 ⟨rfl, h3⟩
        have P3 := P2.out.below h3 P2.out.lt
        have R3 := R2.out.below h3 R2.out.lt
        have B3 := Lib.hid (B2.out.trans (h3.mono (by have := R2.out.lt; omega)))
        have p0 := P3.c0
        have p1 := P3.c1
        have p2 := P3.c2
        have q0 := P3.fz 0
        have q1 := P3.fz 1
        have q2 := P3.fz 2
        have r0 := R3.c0
        have r1 := R3.c1
        have r2 := R3.c2
        have g0 := R3.fz 0
        have g1 := R3.fz 1
        have g2 := R3.fz 2
        have n1 : ¬ P = R := by omega
        have n2 : ¬ R = P := by omega
        clear h3 P3 R3
        go_wp2_with fail
        refine bodyPost_ret (v := .agg #[.bool M, .string E, .int .i64 (-(F : Int) + (t0 : Int))]) ?_ rfl ⟨by rw [HT0.out, HE.out], ?_⟩
        · simp only [results]
          go_simp
        · rw [HRW.out]
          exact ((((B3.out.setCell (p := ⟨P, 1, none⟩) (by show R ≤ P; omega) _).setCell (p := ⟨P, 2, none⟩) (by show R ≤ P; omega) _).setCell (p := ⟨R, 0, none⟩) (Nat.le_refl _) _).setCell (p := ⟨R, 1, none⟩) (Nat.le_refl _) _).setCell (p := ⟨R, 2, none⟩) (Nat.le_refl _) _
end Nu
end Go.Proofs.YtjgkaccmfdjffaaDoor
