/-
  What the statements' writes and awake (layer 7) answer.
-/
import Derived.Test.YtigiiofiajhnlaaGreatDoorFe
namespace Go.Proofs.YtigiiofiajhnlaaGreatDoor
set_option linter.unusedVariables false
set_option linter.unusedSimpArgs false
open Go.RowKit Go.Shelf
namespace Fa
open Wd We Dm Dc Dd Hm Hb He Fm

theorem sw0 : (⟨#[67, 111, 110, 116, 101, 110, 116, 45, 76, 101, 110, 103, 116, 104, 58, 32, 50, 13, 10, 13, 10, 123, 125, 67, 111, 110, 116, 101, 110, 116, 45, 76, 101]⟩ : ByteArray) = bs [67, 111, 110, 116, 101, 110, 116, 45, 76, 101, 110, 103, 116, 104, 58, 32, 50, 13, 10, 13, 10, 123, 125, 67, 111, 110, 116, 101, 110, 116, 45, 76, 101] := by kernel_rfl
theorem iw0 : IsB [67, 111, 110, 116, 101, 110, 116, 45, 76, 101, 110, 103, 116, 104, 58, 32, 50, 13, 10, 13, 10, 123, 125, 67, 111, 110, 116, 101, 110, 116, 45, 76, 101] := isB_all (by decide +kernel)
theorem sw1 : (⟨#[110, 103, 116, 104, 58, 32, 49, 13, 10, 13, 10]⟩ : ByteArray) = bs [110, 103, 116, 104, 58, 32, 49, 13, 10, 13, 10] := by kernel_rfl
theorem iw1 : IsB [110, 103, 116, 104, 58, 32, 49, 13, 10, 13, 10] := isB_all (by decide +kernel)
theorem sw2 : (⟨#[55, 120]⟩ : ByteArray) = bs [55, 120] := by kernel_rfl
theorem iw2 : IsB [55, 120] := isB_all (by decide +kernel)
theorem sw3 : (⟨#[13, 10]⟩ : ByteArray) = bs [13, 10] := by kernel_rfl
theorem iw3 : IsB [13, 10] := isB_all (by decide +kernel)
theorem sw4 : (⟨#[]⟩ : ByteArray) = bs [] := by kernel_rfl
theorem iw4 : IsB [] := isB_all (by decide +kernel)
theorem sw5 : (⟨#[13, 10, 13, 10]⟩ : ByteArray) = bs [13, 10, 13, 10] := by kernel_rfl
theorem iw5 : IsB [13, 10, 13, 10] := isB_all (by decide +kernel)
theorem xw0 : wrt (some []) [67, 111, 110, 116, 101, 110, 116, 45, 76, 101, 110, 103, 116, 104, 58, 32, 50, 13, 10, 13, 10, 123, 125, 67, 111, 110, 116, 101, 110, 116, 45, 76, 101] = ([[123, 125]], 0, some [67, 111, 110, 116, 101, 110, 116, 45, 76, 101]) := by decide +kernel
theorem xw1 : wrt (some [67, 111, 110, 116, 101, 110, 116, 45, 76, 101]) [110, 103, 116, 104, 58, 32, 49, 13, 10, 13, 10] = ([], 0, some [67, 111, 110, 116, 101, 110, 116, 45, 76, 101, 110, 103, 116, 104, 58, 32, 49, 13, 10, 13, 10]) := by decide +kernel
theorem xw2 : wrt (some [67, 111, 110, 116, 101, 110, 116, 45, 76, 101, 110, 103, 116, 104, 58, 32, 49, 13, 10, 13, 10]) [55, 120] = ([[55]], 0, some [120]) := by decide +kernel
theorem xw3 : wrt (some [120]) [13, 10] = ([], 0, some [120, 13, 10]) := by decide +kernel
theorem xw4 : wrt (some [120, 13, 10]) [] = ([], 0, some [120, 13, 10]) := by decide +kernel
theorem xw5 : wrt (some [120, 13, 10]) [13, 10, 13, 10] = ([], 60, none) := by decide +kernel

set_option maxRecDepth 100000 in
set_option maxHeartbeats 1600000 in
theorem writes_none (wb w : World) (B P : Nat) (s s' : St) (g : Option Nat) (str : ByteArray) (L : List Int) (hs : str = bs L) (ib : IsB L) (hL : L.length ≤ 1000) (env : Env wb) (hwb : Below wb.heap.size wb w) (hBb : wb.heap.size ≤ B) (hB : B ≤ w.heap.size) (r : RdM w B P s g) (hw : wrt s L = ([], 0, s')) :
    Calls Tryz.prog 26 #[.pointer (some ⟨P, 0, none⟩), .string str, .slice none 0 0] w fun e w' => e = .returned (.bool true) ∧ B ≤ w'.heap.size ∧ Below wb.heap.size wb w' ∧ ∃ g', RdM w' B P s' g' := by
  subst hs
  obtain ⟨c, w1, kc, t, hbl⟩ := conv_back w rfl ib (by unfold maxLen; omega)
  have hb1 := hwb.trans (hbl.mono hwb.size)
  have hs1 := hbl.size
  have CON := Lib.hid (write_any wb w1 B P s g _ _ _ _ env hb1 hBb (by omega) (r.below hbl) t ib (by omega))
  have HB1 := Lib.hid hb1
  have HW := Lib.hid hw
  have HR := Lib.hid r
  have hlo := r.lo
  have hgl := Lib.hid r.g_lt
  clear t hbl hb1 r hw hwb env
  go_enter Tryz.func26, Tryz.ntmps26
  go_wp2_with fail
  refine CON.out.mono ?_
  rintro e w2 ⟨vb, g', rfl, o2, r2, hg', st⟩
  rw [HW.out] at o2 r2
  rw [HW.out]
  obtain ⟨Av, cv, rfl, _, _⟩ := OL.ll o2
  simp only [List.length_nil] at *
  have HB2 := Lib.hid (HB1.out.trans (st.below (by have := HB1.out.size; omega) (fun k e => by rcases e with e | e; omega; have := (hgl.out k e).1; omega)))
  have hs2 := st.size
  have R2 := Lib.hid r2
  clear o2 r2 hg' st
  go_wp2
  go_loopw [9] (fun ix wr => ix = .int .i64 0 ∧ wr = w2) (fun _ _ => 0)
  case atStart => exact ⟨rfl, rfl⟩
  case round =>
    obtain ⟨rfl, rfl⟩ := hrel
    go_wp2
    go_ret
    exact ⟨rfl, by omega, HB2.out, _, R2.out⟩

set_option maxRecDepth 100000 in
set_option maxHeartbeats 1600000 in
theorem writes_one (wb w : World) (B P W : Nat) (s s' : St) (g : Option Nat) (str sb : ByteArray) (L b : List Int) (hs : str = bs L) (ib : IsB L) (hL : L.length ≤ 1000) (hsb : sb = bs b) (env : Env wb) (hwb : Below wb.heap.size wb w) (hBb : wb.heap.size ≤ B) (hB : B ≤ w.heap.size) (r : RdM w B P s g) (hw : wrt s L = ([b], 0, s'))
    (cW : w.cell? ⟨W, 0, none⟩ = some (.string sb)) (hW : W ≠ P ∧ g ≠ some W) :
    Calls Tryz.prog 26 #[.pointer (some ⟨P, 0, none⟩), .string str, .slice (some ⟨W, 0, none⟩) 1 1] w fun e w' => e = .returned (.bool true) ∧ B ≤ w'.heap.size ∧ Below wb.heap.size wb w' ∧ ∃ g', RdM w' B P s' g' := by
  subst hs
  obtain ⟨c, w1, kc, t, hbl⟩ := conv_back w rfl ib (by unfold maxLen; omega)
  have hb1 := hwb.trans (hbl.mono hwb.size)
  have hs1 := hbl.size
  have CON := Lib.hid (write_any wb w1 B P s g _ _ _ _ env hb1 hBb (by omega) (r.below hbl) t ib (by omega))
  have HB1 := Lib.hid hb1
  have HW := Lib.hid hw
  have hlo := r.lo
  have hgl := Lib.hid r.g_lt
  have cW1 : w1.cell? ⟨W, 0, none⟩ = some (.string sb) := (hbl.cell (p := ⟨W, 0, none⟩) (lt_of_cell cW)).trans cW
  clear t hbl hb1 r hw hwb env cW
  go_enter Tryz.func26, Tryz.ntmps26
  go_wp2_with fail
  refine CON.out.mono ?_
  rintro e w2 ⟨vb, g', rfl, o2, r2, hg', st⟩
  rw [HW.out] at o2 r2
  rw [HW.out]
  obtain ⟨Av, cv, rfl, ll, _⟩ := OL.ll o2
  simp only [List.length_cons, List.length_nil, Nat.zero_add] at *
  obtain ⟨x, off, X, m, k, hA, hc, sx⟩ := ll.at_ 0 b rfl
  subst hA
  have cW2 := (st.cell (p := ⟨W, 0, none⟩) (lt_of_cell cW1) (fun e => by rcases e with e | e; exact hW.1 e; exact hW.2 e)).trans cW1
  have HB2 := Lib.hid (HB1.out.trans (st.below (by have := HB1.out.size; omega) (fun k e => by rcases e with e | e; omega; have := (hgl.out k e).1; omega)))
  have hs2 := st.size
  have R2 := Lib.hid r2
  have kv : ∀ q, (convert 27 9 (.slice X m k)).run Tryz.prog (w2.drewN q) = .ok (.string (bs b)) (w2.drewN q) := fun q => conv_bs (sx.drewN q)
  rw [Nat.add_zero] at hc
  clear o2 r2 hg' st ll sx
  go_wp2
  go_loopw [9] (fun ix wr => (ix = .int .i64 0 ∨ ix = .int .i64 1) ∧ ∃ q, wr = w2.drewN q) (fun ix _ => 1 - (intOf ix).toNat)
  case atStart => exact ⟨.inl rfl, 0, rfl⟩
  case round =>
    obtain ⟨rfl | rfl, q, rfl⟩ := hrel
    · have c1 : (w2.drewN q).cell? ⟨x, off, none⟩ = some (.slice X m k) := hc
      have c2 : (w2.drewN q).cell? ⟨W, 0, none⟩ = some (.string sb) := cW2
      go_wp2
      go_quiet (fail)
      go_wp2
      go_roundw
      case rel => exact ⟨.inr rfl, _, rfl⟩
      case measure => simp [intOf]
    · go_wp2
      go_ret
      exact ⟨rfl, by show B ≤ w2.heap.size; omega, Wd.below_drewN HB2.out q, _, R2.out.below (Wd.below_drewN (Below.refl _ _) q)⟩

set_option maxRecDepth 100000 in
set_option maxHeartbeats 4000000 in
theorem awake7 (w : World) (env : Env w) :
    Calls Tryz.prog 10 #[] w fun e w' => e = .returned (.bool true) ∧ Below w.heap.size w w' := by
  have E := Lib.hid env
  clear env
  go_enter Tryz.func10, Tryz.ntmps10
  go_wp2_with fail
  refine (new_any _).mono ?_
  rintro e w1 ⟨rfl, r1, b1⟩
  obtain ⟨B, hBeq⟩ : ∃ B, w.heap.size = B := ⟨_, rfl⟩
  rw [hBeq] at r1
  have R1 := Lib.hid r1
  have H1 := Lib.hid b1
  have hs1 := b1.size
  clear r1 b1
  go_wp2_with fail
  have a1 := Dd.below_alloc w1 (.cells #[.string ⟨#[123, 125]⟩] 9)
  refine (writes_one w _ B B w1.heap.size _ _ _ _ ⟨#[123, 125]⟩ _ [123, 125] sw0 iw0 (by decide) (by kernel_rfl) E.out (H1.out.trans (a1.mono hs1)) (by omega) (by rw [World.size_alloc]; omega) (R1.out.below a1) xw0 (Boxed.new w1 _ _).cell ⟨by have := R1.out.lt; omega, by simp⟩).mono ?_
  rintro e w2 ⟨rfl, hs2, b2, g2, r2⟩
  have R2 := Lib.hid r2
  have H2 := Lib.hid b2
  clear r2 b2 a1 R1 H1
  have L2 := Lib.hid (left_any w2 _ _ _ _ R2.out)
  go_wp2_with fail
  refine L2.out.mono ?_
  rintro e w' ⟨rfl, rfl⟩
  rw [show (lft (some [67, 111, 110, 116, 101, 110, 116, 45, 76, 101])).length = 10 from rfl]
  clear L2
  go_wp2_with fail
  refine (writes_none w w2 B B _ _ _ _ _ sw1 iw1 (by decide) E.out H2.out (by omega) hs2 R2.out xw1).mono ?_
  rintro e w3 ⟨rfl, hs3, b3, g3, r3⟩
  have R3 := Lib.hid r3
  have H3 := Lib.hid b3
  clear r3 b3 R2 H2
  go_wp2_with fail
  have a3 := Dd.below_alloc w3 (.cells #[.string ⟨#[55]⟩] 9)
  refine (writes_one w _ B B w3.heap.size _ _ _ _ ⟨#[55]⟩ _ [55] sw2 iw2 (by decide) (by kernel_rfl) E.out (H3.out.trans (a3.mono H3.out.size)) (by omega) (by rw [World.size_alloc]; omega) (R3.out.below a3) xw2 (Boxed.new w3 _ _).cell ⟨by have := R3.out.lt; omega, fun h => by have := (R3.out.g_lt _ h).2.1; omega⟩).mono ?_
  rintro e w4 ⟨rfl, hs4, b4, g4, r4⟩
  have R4 := Lib.hid r4
  have H4 := Lib.hid b4
  clear r4 b4 a3 R3 H3
  have L4 := Lib.hid (left_any w4 _ _ _ _ R4.out)
  go_wp2_with fail
  refine L4.out.mono ?_
  rintro e w' ⟨rfl, rfl⟩
  rw [show (lft (some [120])).length = 1 from rfl]
  clear L4
  go_wp2_with fail
  refine (writes_none w w4 B B _ _ _ _ _ sw3 iw3 (by decide) E.out H4.out (by omega) hs4 R4.out xw3).mono ?_
  rintro e w5 ⟨rfl, hs5, b5, g5, r5⟩
  have R5 := Lib.hid r5
  have H5 := Lib.hid b5
  clear r5 b5 R4 H4
  go_wp2_with fail
  refine (writes_none w w5 B B _ _ _ _ _ sw4 iw4 (by decide) E.out H5.out (by omega) hs5 R5.out xw4).mono ?_
  rintro e w6 ⟨rfl, hs6, b6, g6, r6⟩
  have R6 := Lib.hid r6
  have H6 := Lib.hid b6
  clear r6 b6 R5 H5
  have C6 := Lib.hid (closed_any w6 _ _ _ _ R6.out)
  go_wp2_with fail
  refine C6.out.mono ?_
  rintro e w' ⟨rfl, rfl⟩
  simp only [Option.isNone]
  clear C6
  have kc := fun (w : World) (C : Array Value) (n c : Nat) => Lib.run_convert_bytes_const (P := Tryz.prog) w 27 5 C n c Tryz.underlying27 Tryz.underlying5
  have a6 := Dd.below_alloc w6 (.cells #[.int .u8 13, .int .u8 10, .int .u8 13, .int .u8 10] 5 (4, 5))
  have t6 : Sl .u8 (w6.alloc (.cells #[.int .u8 13, .int .u8 10, .int .u8 13, .int .u8 10] 5 (4, 5))) (some ⟨w6.heap.size, 0, none⟩) 4 4 [13, 10, 13, 10] := Dd.Sl.mark w6 [13, 10, 13, 10] 5 (4, 5) (by decide)
  have W6 := Lib.hid (write_any w _ B B _ _ _ _ _ _ E.out (H6.out.trans (a6.mono H6.out.size)) (by omega) (by rw [World.size_alloc]; omega) (R6.out.below a6) t6 iw5 (by omega))
  have H6' := Lib.hid (H6.out.trans (a6.mono H6.out.size))
  have G6 := Lib.hid (R6.out.below a6).g_lt
  clear a6 t6 R6 H6
  go_wp2_with fail
  refine W6.out.mono ?_
  rintro e w7 ⟨vb, g7, rfl, o7, r7, _, st7⟩
  rw [xw5] at o7 r7 ⊢
  obtain ⟨Av, cv, rfl, _, _⟩ := OL.ll o7
  have H7 := Lib.hid (H6'.out.trans (st7.below (by have := H6'.out.size; omega) (fun k e => by rcases e with e | e; omega; have := (G6.out k e).1; omega)))
  have hs7 := st7.size
  have R7 := Lib.hid r7
  clear o7 r7 st7 W6
  simp only [List.length_nil] at *
  go_wp2_with fail
  refine (write_closed w7 B B _ _ [] R7.out).mono ?_
  rintro e w8 ⟨vb, g8, rfl, o8, r8, _, st8⟩
  rw [wrt_none] at r8 ⊢
  have H8 := Lib.hid (H7.out.trans (st8.below (by have := H7.out.size; omega) (fun k e => by rcases e with e | e; omega; have := (R7.out.g_lt k e).1; omega)))
  have R8 := Lib.hid r8
  clear o8 r8 st8
  have C8 := Lib.hid (closed_any w8 _ _ _ _ R8.out)
  have L8 := Lib.hid (left_any w8 _ _ _ _ R8.out)
  go_wp2_with fail
  refine C8.out.mono ?_
  rintro e w' ⟨rfl, rfl⟩
  simp only [Option.isNone]
  go_wp2_with fail
  refine L8.out.mono ?_
  rintro e w' ⟨rfl, rfl⟩
  rw [show (lft none).length = 0 from rfl]
  go_wp2_with fail
  go_ret
  exact ⟨rfl, by have := H8.out; exact this⟩
end Fa
end Go.Proofs.YtigiiofiajhnlaaGreatDoor
