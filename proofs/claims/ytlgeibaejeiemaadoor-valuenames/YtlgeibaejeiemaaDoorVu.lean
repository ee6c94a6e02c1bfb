/-
  Lists written out; what the statements' awake of layer 10 tells.
-/
import Derived.Test.YtlgeibaejeiemaaDoorVs
namespace Go.Proofs.YtlgeibaejeiemaaDoor
set_option linter.unusedVariables false
set_option linter.unusedSimpArgs false
open Go.RowKit
namespace Vt
open Wd We
open Dm (decs)

/-- a value without lists -/
theorem vl_plain (w : World) {k : Int} (b : Bool) {s : ByteArray} (hk : -9223372036854775808 ≤ k ∧ k ≤ 9223372036854775807) (hs : s.size ≤ 140737488351232) : Vl w (.agg #[.int .i64 k, .bool b, .string s, .slice none 0 0, .slice none 0 0]) (.mk k b s [] []) :=
  Vl.shut (t := .mk k b s [] []) (VL.none_ w) (Nm.none_ w) hk hs
def num (x : Int) : Tr := .mk 2 false (numT x) [] []
theorem numT_size {x : Int} (h0 : -9223372036854775808 ≤ x) (h1 : x ≤ 9223372036854775807) : (numT x).size ≤ 20 := by
  have := Dm.decs_length_le (n := x.natAbs) (by omega)
  unfold numT
  split <;> rw [Dm.bs_size]
  · rw [List.length_cons]; omega
  · omega
theorem vl_num (w : World) {x : Int} (h0 : -9223372036854775808 ≤ x) (h1 : x ≤ 9223372036854775807) : Vl w (.agg #[.int .i64 2, .bool false, .string (numT x), .slice none 0 0, .slice none 0 0]) (num x) :=
  vl_plain w false ⟨by omega, by omega⟩ (by have := numT_size h0 h1; omega)
theorem VL.one_at {w : World} {B : Nat} {e : TypeId} {fr : Nat × Nat} {t0 : Tr} {A0 : Option Addr} {m0 c0 : Nat} {B0 : Option Addr} {q0 d0 : Nat} (hb : w.heap[B]? = some (.cells #[.int .i64 t0.kind, .bool t0.isB, .string t0.text, .slice A0 m0 c0, .slice B0 q0 d0] e fr)) (h0 : Vl w (.agg #[.int .i64 t0.kind, .bool t0.isB, .string t0.text, .slice A0 m0 c0, .slice B0 q0 d0]) t0) :
    VL w (some ⟨B, 0, none⟩) 1 1 [t0] := by
  refine ⟨rfl, Nat.le_refl _, by unfold maxLen; omega, (fun e => by cases e), by omega, fun _ => ⟨B, 0, rfl, fun i x hx => ?_⟩⟩
  have hi : i < 1 := by have := (List.getElem?_eq_some_iff.1 hx).1; simpa using this
  obtain rfl : i = 0 := by omega
  obtain rfl : t0 = x := by simpa using hx
  refine ⟨_, ⟨_, _, _, _, _, rfl, ?_, ?_, ?_, ?_, ?_⟩, h0⟩ <;> simp [World.cell?, hb]
theorem VL.two_at {w : World} {B : Nat} {e : TypeId} {fr : Nat × Nat} {t0 : Tr} {A0 : Option Addr} {m0 c0 : Nat} {B0 : Option Addr} {q0 d0 : Nat} {t1 : Tr} {A1 : Option Addr} {m1 c1 : Nat} {B1 : Option Addr} {q1 d1 : Nat} (hb : w.heap[B]? = some (.cells #[.int .i64 t0.kind, .bool t0.isB, .string t0.text, .slice A0 m0 c0, .slice B0 q0 d0, .int .i64 t1.kind, .bool t1.isB, .string t1.text, .slice A1 m1 c1, .slice B1 q1 d1] e fr)) (h0 : Vl w (.agg #[.int .i64 t0.kind, .bool t0.isB, .string t0.text, .slice A0 m0 c0, .slice B0 q0 d0]) t0) (h1 : Vl w (.agg #[.int .i64 t1.kind, .bool t1.isB, .string t1.text, .slice A1 m1 c1, .slice B1 q1 d1]) t1) :
    VL w (some ⟨B, 0, none⟩) 2 2 [t0, t1] := by
  refine ⟨rfl, Nat.le_refl _, by unfold maxLen; omega, (fun e => by cases e), by omega, fun _ => ⟨B, 0, rfl, fun i x hx => ?_⟩⟩
  have hi : i < 2 := by have := (List.getElem?_eq_some_iff.1 hx).1; simpa using this
  by_cases hi0 : i = 0
  · subst hi0
    obtain rfl : t0 = x := by simpa using hx
    refine ⟨_, ⟨_, _, _, _, _, rfl, ?_, ?_, ?_, ?_, ?_⟩, h0⟩ <;> simp [World.cell?, hb]
  obtain rfl : i = 1 := by omega
  obtain rfl : t1 = x := by simpa using hx
  refine ⟨_, ⟨_, _, _, _, _, rfl, ?_, ?_, ?_, ?_, ?_⟩, h1⟩ <;> simp [World.cell?, hb]
theorem VL.three_at {w : World} {B : Nat} {e : TypeId} {fr : Nat × Nat} {t0 : Tr} {A0 : Option Addr} {m0 c0 : Nat} {B0 : Option Addr} {q0 d0 : Nat} {t1 : Tr} {A1 : Option Addr} {m1 c1 : Nat} {B1 : Option Addr} {q1 d1 : Nat} {t2 : Tr} {A2 : Option Addr} {m2 c2 : Nat} {B2 : Option Addr} {q2 d2 : Nat} (hb : w.heap[B]? = some (.cells #[.int .i64 t0.kind, .bool t0.isB, .string t0.text, .slice A0 m0 c0, .slice B0 q0 d0, .int .i64 t1.kind, .bool t1.isB, .string t1.text, .slice A1 m1 c1, .slice B1 q1 d1, .int .i64 t2.kind, .bool t2.isB, .string t2.text, .slice A2 m2 c2, .slice B2 q2 d2] e fr)) (h0 : Vl w (.agg #[.int .i64 t0.kind, .bool t0.isB, .string t0.text, .slice A0 m0 c0, .slice B0 q0 d0]) t0) (h1 : Vl w (.agg #[.int .i64 t1.kind, .bool t1.isB, .string t1.text, .slice A1 m1 c1, .slice B1 q1 d1]) t1) (h2 : Vl w (.agg #[.int .i64 t2.kind, .bool t2.isB, .string t2.text, .slice A2 m2 c2, .slice B2 q2 d2]) t2) :
    VL w (some ⟨B, 0, none⟩) 3 3 [t0, t1, t2] := by
  refine ⟨rfl, Nat.le_refl _, by unfold maxLen; omega, (fun e => by cases e), by omega, fun _ => ⟨B, 0, rfl, fun i x hx => ?_⟩⟩
  have hi : i < 3 := by have := (List.getElem?_eq_some_iff.1 hx).1; simpa using this
  by_cases hi0 : i = 0
  · subst hi0
    obtain rfl : t0 = x := by simpa using hx
    refine ⟨_, ⟨_, _, _, _, _, rfl, ?_, ?_, ?_, ?_, ?_⟩, h0⟩ <;> simp [World.cell?, hb]
  by_cases hi1 : i = 1
  · subst hi1
    obtain rfl : t1 = x := by simpa using hx
    refine ⟨_, ⟨_, _, _, _, _, rfl, ?_, ?_, ?_, ?_, ?_⟩, h1⟩ <;> simp [World.cell?, hb]
  obtain rfl : i = 2 := by omega
  obtain rfl : t2 = x := by simpa using hx
  refine ⟨_, ⟨_, _, _, _, _, rfl, ?_, ?_, ?_, ?_, ?_⟩, h2⟩ <;> simp [World.cell?, hb]
theorem Nm.one_at {w : World} {B : Nat} {e : TypeId} {fr : Nat × Nat} {s0 : ByteArray} (hb : w.heap[B]? = some (.cells #[.string s0] e fr)) : Nm w (some ⟨B, 0, none⟩) 1 1 [s0] := by
  refine ⟨rfl, Nat.le_refl _, by unfold maxLen; omega, (fun e => by cases e), by omega, fun _ => ⟨B, 0, rfl, fun i x hx => ?_⟩⟩
  have hi : i < 1 := by have := (List.getElem?_eq_some_iff.1 hx).1; simpa using this
  obtain rfl : i = 0 := by omega
  obtain rfl : s0 = x := by simpa using hx
  simp [World.cell?, hb]
theorem Nm.two_at {w : World} {B : Nat} {e : TypeId} {fr : Nat × Nat} {s0 s1 : ByteArray} (hb : w.heap[B]? = some (.cells #[.string s0, .string s1] e fr)) : Nm w (some ⟨B, 0, none⟩) 2 2 [s0, s1] := by
  refine ⟨rfl, Nat.le_refl _, by unfold maxLen; omega, (fun e => by cases e), by omega, fun _ => ⟨B, 0, rfl, fun i x hx => ?_⟩⟩
  have hi : i < 2 := by have := (List.getElem?_eq_some_iff.1 hx).1; simpa using this
  by_cases hi0 : i = 0
  · subst hi0
    obtain rfl : s0 = x := by simpa using hx
    simp [World.cell?, hb]
  obtain rfl : i = 1 := by omega
  obtain rfl : s1 = x := by simpa using hx
  simp [World.cell?, hb]
theorem Nm.three_at {w : World} {B : Nat} {e : TypeId} {fr : Nat × Nat} {s0 s1 s2 : ByteArray} (hb : w.heap[B]? = some (.cells #[.string s0, .string s1, .string s2] e fr)) : Nm w (some ⟨B, 0, none⟩) 3 3 [s0, s1, s2] := by
  refine ⟨rfl, Nat.le_refl _, by unfold maxLen; omega, (fun e => by cases e), by omega, fun _ => ⟨B, 0, rfl, fun i x hx => ?_⟩⟩
  have hi : i < 3 := by have := (List.getElem?_eq_some_iff.1 hx).1; simpa using this
  by_cases hi0 : i = 0
  · subst hi0
    obtain rfl : s0 = x := by simpa using hx
    simp [World.cell?, hb]
  by_cases hi1 : i = 1
  · subst hi1
    obtain rfl : s1 = x := by simpa using hx
    simp [World.cell?, hb]
  obtain rfl : i = 2 := by omega
  obtain rfl : s2 = x := by simpa using hx
  simp [World.cell?, hb]
theorem numT_one {n : Nat} (h : n < 10) : numT n = Dm.bs [48 + (n : Int)] := by
  unfold numT
  rw [if_neg (by omega), Int.natAbs_natCast, Dm.decs_one h]
theorem numT_1 : numT 1 = ⟨#[49]⟩ := (numT_one (n := 1) (by omega)).trans rfl
theorem numT_2 : numT 2 = ⟨#[50]⟩ := (numT_one (n := 2) (by omega)).trans rfl
theorem numT_3 : numT 3 = ⟨#[51]⟩ := (numT_one (n := 3) (by omega)).trans rfl
theorem field_text (a b x y : Value) (s : ByteArray) (w : World) : Sem.run Tryd.prog (Instr.field 25 (.agg #[a, b, .string s, x, y]) 2) w = .ok (.string s) w := by
  unfold Instr.field
  simp [go_sem, Tryd.underlying25, part, isAgg, asAgg, Tryd.underlying9]
theorem chk_of {t : Tr} (hm : may t = false) : chk t = 2 := by unfold chk; rw [if_pos hm]
theorem chk_ok {t : Tr} (hm : may t = true) (hd : dep t ≤ 128) : chk t = 0 := by unfold chk; rw [if_neg (by rw [hm]; decide), if_neg (by omega)]
theorem dep_plain (k : Int) (b : Bool) (s : ByteArray) (n : List ByteArray) : dep (.mk k b s [] n) = 1 := by rw [dep_mk, depL_nil]
theorem dep_nest (t : Tr) (n : Nat) : dep (nestT t n) = dep t + n := by
  induction n with
  | zero => rfl
  | succ n ih => rw [nestT, dep_mk, depL_cons, depL_nil, ih]; omega
theorem numT_m12 : numT (-12) = ⟨#[45, 49, 50]⟩ := by
  unfold numT
  rw [if_pos (by omega), show (-12 : Int).natAbs = 12 from rfl, Dm.decs_more (by omega), Dm.decs_one (by omega)]
  rfl
set_option maxRecDepth 100000 in
set_option maxHeartbeats 16000000 in
theorem awake_any (w : World) (ht : It.Tab w) : Calls Tryd.prog 14 #[] w fun e w' => e = .returned (.bool true) ∧ Below w.heap.size w w' := by
  have T := Lib.hid (fun (w' : World) (h : Below w.heap.size w w') => ht.below h)
  obtain ⟨Q, hQ⟩ : ∃ Q, w.heap.size = Q := ⟨_, rfl⟩
  obtain ⟨W1, hW1⟩ : ∃ W1, w.alloc (.cells #[.string ⟨#[97]⟩, .string ⟨#[98]⟩, .string ⟨#[97]⟩] 9) = W1 := ⟨_, rfl⟩
  have b1 : Below w.heap.size w W1 := by rw [← hW1]; exact below_allocV w _
  have N1 : Nm W1 (some ⟨Q, 0, none⟩) 3 3 [⟨#[97]⟩, ⟨#[98]⟩, ⟨#[97]⟩] := Nm.three_at (by rw [← hW1, ← hQ]; exact heap_alloc_new w _)
  have HN1 := Lib.hid N1
  have B1 := Lib.hid b1
  have HW1 := Lib.hid hW1
  have HQ := Lib.hid hQ
  clear ht b1 N1 hW1 hQ
  go_enter Tryd.func14, Tryd.ntmps14
  go_wp2_with fail
  rw [HW1.out, HQ.out]
  refine (number_any 1 (by omega) (by omega) W1 (T.out W1 B1.out)).mono ?_
  rintro e w2 ⟨rfl, hb2⟩
  rw [numT_1]
  have B2 := Lib.hid (extV B1.out hb2)
  have C2 := Lib.hid hb2
  clear hb2
  go_wp2_with fail
  refine (number_any 2 (by omega) (by omega) w2 (T.out w2 B2.out)).mono ?_
  rintro e w3 ⟨rfl, hb3⟩
  rw [numT_2]
  have B3 := Lib.hid (extV B2.out hb3)
  have C3 := Lib.hid (extV C2.out hb3)
  clear hb3
  go_wp2_with fail
  refine (number_any 3 (by omega) (by omega) w3 (T.out w3 B3.out)).mono ?_
  rintro e w4 ⟨rfl, hb4⟩
  rw [numT_3]
  have B4 := Lib.hid (extV B3.out hb4)
  have C4 := Lib.hid (extV C3.out hb4)
  clear hb4
  go_wp2_with fail
  obtain ⟨W5, hW5⟩ : ∃ W5, w4.alloc (.cells #[.int .i64 2, .bool false, .string ⟨#[49]⟩, .slice none 0 0, .slice none 0 0, .int .i64 2, .bool false, .string ⟨#[50]⟩, .slice none 0 0, .slice none 0 0, .int .i64 2, .bool false, .string ⟨#[51]⟩, .slice none 0 0, .slice none 0 0] 25) = W5 := ⟨_, rfl⟩
  have b5 : Below w4.heap.size w4 W5 := by rw [← hW5]; exact below_allocV w4 _
  have L5 : VL W5 (some ⟨w4.heap.size, 0, none⟩) 3 3 [.mk 2 false ⟨#[49]⟩ [] [], .mk 2 false ⟨#[50]⟩ [] [], .mk 2 false ⟨#[51]⟩ [] []] :=
    VL.three_at (by rw [← hW5]; exact heap_alloc_new w4 _) (vl_plain W5 (k := 2) false (s := ⟨#[49]⟩) ⟨by omega, by omega⟩ (by decide)) (vl_plain W5 (k := 2) false (s := ⟨#[50]⟩) ⟨by omega, by omega⟩ (by decide)) (vl_plain W5 (k := 2) false (s := ⟨#[51]⟩) ⟨by omega, by omega⟩ (by decide))
  rw [hW5]
  refine (vmake_any _ 3 3 _ _ 3 3 _ W5 L5 (HN1.out.below (extV C4.out b5))).mono ?_
  rintro e w6 ⟨hb6, hm6⟩
  simp only [List.length_cons, List.length_nil, ↓reduceIte] at hm6
  obtain ⟨A6, m6, c6, B6, q6, d6, rfl, ho6⟩ := hm6
  have O6 := Lib.hid (ho6.vl _)
  have B6' := Lib.hid (extV B4.out (extV b5 hb6))
  clear hb6 ho6 b5 L5 hW5
  obtain ⟨R1, hR1⟩ : ∃ R, w6.heap.size = R := ⟨_, rfl⟩
  obtain ⟨U1, hU1⟩ : ∃ U, w6.alloc (.cells #[.int .i64 0, .bool false, .string ⟨#[]⟩, .slice none 0 0, .slice none 0 0] 25) = U := ⟨_, rfl⟩
  obtain ⟨nb, nb2⟩ := newbox hR1 hU1
  obtain ⟨nb3, nb4, nb5⟩ := nb2 (.int .i64 5) (.bool false) (.string ⟨#[]⟩) (.slice A6 m6 c6) (.slice B6 q6 d6)
  have e0 := nb.c0; have e1 := nb.c1; have e2 := nb.c2; have e3 := nb.c3; have e4 := nb.c4
  have f0 := nb.fz 0; have f1 := nb.fz 1; have f2 := nb.fz 2; have f3 := nb.fz 3; have f4 := nb.fz 4
  obtain ⟨V1, hV1⟩ : ∃ V, put5 U1 R1 (.int .i64 5) (.bool false) (.string ⟨#[]⟩) (.slice A6 m6 c6) (.slice B6 q6 d6) = V := ⟨_, rfl⟩
  rw [hV1] at nb3 nb4 nb5
  have HV1 := Lib.hid hV1
  have HR1 := Lib.hid hR1
  have N1 := Lib.hid nb3
  have NB1 := Lib.hid nb4
  have NS1 := Lib.hid nb5
  clear hV1 nb nb2 nb3 nb4 nb5
  go_upto_region 2 with fail
  rw [show ((((U1.setCell ⟨R1, 0, none⟩ (.int .i64 5)).setCell ⟨R1, 1, none⟩ (.bool false)).setCell ⟨R1, 2, none⟩ (.string ⟨#[]⟩)).setCell ⟨R1, 3, none⟩ (.slice A6 m6 c6)).setCell ⟨R1, 4, none⟩ (.slice B6 q6 d6) = V1 from HV1.out]
  clear e0 e1 e2 e3 e4 f0 f1 f2 f3 f4 hU1
  have BV1 := Lib.hid (extV B6'.out NB1.out)
  have OV1 := Lib.hid (Vl.up NB1.out _ O6.out)
  clear hR1 O6
  have e0 := N1.out.c0; have e1 := N1.out.c1; have e2 := N1.out.c2; have e3 := N1.out.c3; have e4 := N1.out.c4
  go_wp2_with fail
  refine (vget_any _ _ ⟨#[97]⟩ V1 OV1.out).mono ?_
  rintro e w7 ⟨hb7, hg7⟩
  rw [show getT (.mk 5 false ⟨#[]⟩ [.mk 2 false ⟨#[49]⟩ [] [], .mk 2 false ⟨#[50]⟩ [] [], .mk 2 false ⟨#[51]⟩ [] []] [⟨#[97]⟩, ⟨#[98]⟩, ⟨#[97]⟩]) ⟨#[97]⟩ = some (.mk 2 false ⟨#[51]⟩ [] []) from rfl] at hg7
  obtain ⟨A7, m7, c7, B7, q7, d7, rfl, ho7⟩ := hg7
  simp only [Tr.kind, Tr.isB, Tr.text] at ho7 ⊢
  have B7' := Lib.hid (extV BV1.out hb7)
  have N17 := Lib.hid (N1.out.below hb7 N1.out.lt)
  have OV7 := Lib.hid (Vl.up hb7 _ OV1.out)
  clear hb7 ho7 e0 e1 e2 e3 e4 N1
  obtain ⟨R2, hR2⟩ : ∃ R, w7.heap.size = R := ⟨_, rfl⟩
  obtain ⟨U2, hU2⟩ : ∃ U, w7.alloc (.cells #[.int .i64 0, .bool false, .string ⟨#[]⟩, .slice none 0 0, .slice none 0 0] 25) = U := ⟨_, rfl⟩
  obtain ⟨nb, nb2⟩ := newbox hR2 hU2
  obtain ⟨nb3, nb4, nb5⟩ := nb2 (.int .i64 2) (.bool false) (.string ⟨#[51]⟩) (.slice A7 m7 c7) (.slice B7 q7 d7)
  have e0 := nb.c0; have e1 := nb.c1; have e2 := nb.c2; have e3 := nb.c3; have e4 := nb.c4
  have f0 := nb.fz 0; have f1 := nb.fz 1; have f2 := nb.fz 2; have f3 := nb.fz 3; have f4 := nb.fz 4
  obtain ⟨V2, hV2⟩ : ∃ V, put5 U2 R2 (.int .i64 2) (.bool false) (.string ⟨#[51]⟩) (.slice A7 m7 c7) (.slice B7 q7 d7) = V := ⟨_, rfl⟩
  rw [hV2] at nb3 nb4 nb5
  have HV2 := Lib.hid hV2
  have HR2 := Lib.hid hR2
  have N2 := Lib.hid nb3
  have NB2 := Lib.hid nb4
  have NS2 := Lib.hid nb5
  clear hV2 nb nb2 nb3 nb4 nb5
  go_upto_region 3 with fail
  rw [show ((((U2.setCell ⟨R2, 0, none⟩ (.int .i64 2)).setCell ⟨R2, 1, none⟩ (.bool false)).setCell ⟨R2, 2, none⟩ (.string ⟨#[51]⟩)).setCell ⟨R2, 3, none⟩ (.slice A7 m7 c7)).setCell ⟨R2, 4, none⟩ (.slice B7 q7 d7) = V2 from HV2.out]
  clear e0 e1 e2 e3 e4 f0 f1 f2 f3 f4 hU2
  have BV2 := Lib.hid (extV B7'.out NB2.out)
  have OV2 := Lib.hid (Vl.up NB2.out _ OV7.out)
  have N12 := Lib.hid (N17.out.below NB2.out N17.out.lt)
  clear hR2 OV7 N17
  have e0 := N12.out.c0; have e1 := N12.out.c1; have e2 := N12.out.c2; have e3 := N12.out.c3; have e4 := N12.out.c4
  go_wp2_with fail
  refine (vget_any _ _ ⟨#[99]⟩ V2 OV2.out).mono ?_
  rintro e w8 ⟨hb8, hg8⟩
  rw [show getT (.mk 5 false ⟨#[]⟩ [.mk 2 false ⟨#[49]⟩ [] [], .mk 2 false ⟨#[50]⟩ [] [], .mk 2 false ⟨#[51]⟩ [] []] [⟨#[97]⟩, ⟨#[98]⟩, ⟨#[97]⟩]) ⟨#[99]⟩ = none from rfl] at hg8
  subst hg8
  have B8' := Lib.hid (extV BV2.out hb8)
  have N18 := Lib.hid (N12.out.below hb8 N12.out.lt)
  have N28 := Lib.hid (N2.out.below hb8 N2.out.lt)
  have OV8 := Lib.hid (Vl.up hb8 _ OV2.out)
  clear hb8 e0 e1 e2 e3 e4 N12 N2
  obtain ⟨R3, hR3⟩ : ∃ R, w8.heap.size = R := ⟨_, rfl⟩
  obtain ⟨U3, hU3⟩ : ∃ U, w8.alloc (.cells #[.int .i64 0, .bool false, .string ⟨#[]⟩, .slice none 0 0, .slice none 0 0] 25) = U := ⟨_, rfl⟩
  obtain ⟨nb, nb2⟩ := newbox hR3 hU3
  obtain ⟨nb3, nb4, nb5⟩ := nb2 (.int .i64 0) (.bool false) (.string ⟨#[]⟩) (.slice none 0 0) (.slice none 0 0)
  have e0 := nb.c0; have e1 := nb.c1; have e2 := nb.c2; have e3 := nb.c3; have e4 := nb.c4
  have f0 := nb.fz 0; have f1 := nb.fz 1; have f2 := nb.fz 2; have f3 := nb.fz 3; have f4 := nb.fz 4
  obtain ⟨V3, hV3⟩ : ∃ V, put5 U3 R3 (.int .i64 0) (.bool false) (.string ⟨#[]⟩) (.slice none 0 0) (.slice none 0 0) = V := ⟨_, rfl⟩
  rw [hV3] at nb3 nb4 nb5
  have HV3 := Lib.hid hV3
  have HR3 := Lib.hid hR3
  have N3 := Lib.hid nb3
  have NB3 := Lib.hid nb4
  have NS3 := Lib.hid nb5
  clear hV3 nb nb2 nb3 nb4 nb5
  go_upto_region 4 with fail
  rw [show ((((U3.setCell ⟨R3, 0, none⟩ (.int .i64 0)).setCell ⟨R3, 1, none⟩ (.bool false)).setCell ⟨R3, 2, none⟩ (.string ⟨#[]⟩)).setCell ⟨R3, 3, none⟩ (.slice none 0 0)).setCell ⟨R3, 4, none⟩ (.slice none 0 0) = V3 from HV3.out]
  clear e0 e1 e2 e3 e4 f0 f1 f2 f3 f4 hU3
  have BV3 := Lib.hid (extV B8'.out NB3.out)
  have OV3 := Lib.hid (Vl.up NB3.out _ OV8.out)
  have N13 := Lib.hid (N18.out.below NB3.out N18.out.lt)
  have N23 := Lib.hid (N28.out.below NB3.out N28.out.lt)
  clear hR3 OV8 N18 N28
  go_wp2_with fail
  refine (check_any _ _ V3 (vl_plain V3 (k := 1) false (s := ⟨#[120]⟩) ⟨by omega, by omega⟩ (by decide)) (by rw [dep_plain]; omega)).mono ?_
  rintro e w9 ⟨rfl, hb9⟩
  rw [chk_of (by rw [may_mk]; rfl)]
  have B9 := Lib.hid (extV BV3.out hb9)
  have C9 := Lib.hid hb9
  obtain ⟨W10, hW10⟩ : ∃ W10, w9.alloc (.cells #[.string ⟨#[120]⟩] 9) = W10 := ⟨_, rfl⟩
  have b10 : Below w9.heap.size w9 W10 := by rw [← hW10]; exact below_allocV w9 _
  have N10 : Nm W10 (some ⟨w9.heap.size, 0, none⟩) 1 1 [⟨#[120]⟩] := Nm.one_at (by rw [← hW10]; exact heap_alloc_new w9 _)
  have B10 := Lib.hid (extV B9.out b10)
  have C10 := Lib.hid (extV C9.out b10)
  have HN10 := Lib.hid N10
  have HW10 := Lib.hid hW10
  clear hb9 hW10 b10 N10
  go_wp2_with fail
  rw [HW10.out]
  refine (check_any (.mk 5 false ⟨#[]⟩ [] [⟨#[120]⟩]) _ W10 (Vl.shut (t := .mk 5 false ⟨#[]⟩ [] [⟨#[120]⟩]) (VL.none_ W10) HN10.out (show (-9223372036854775808 : Int) ≤ 5 ∧ (5 : Int) ≤ 9223372036854775807 by omega) (show 0 ≤ 140737488351232 by omega)) (by rw [dep_plain]; omega)).mono ?_
  rintro e w11 ⟨rfl, hb11⟩
  rw [chk_of (by rw [may_mk]; rfl)]
  have B11 := Lib.hid (extV B10.out hb11)
  have C11 := Lib.hid (extV C10.out hb11)
  clear hb11
  go_wp2_with fail
  refine (check_any _ _ w11 (vl_plain w11 (k := 6) false (s := ⟨#[]⟩) ⟨by omega, by omega⟩ (by decide)) (by rw [dep_plain]; omega)).mono ?_
  rintro e w12 ⟨rfl, hb12⟩
  rw [chk_of (by rw [may_mk]; rfl)]
  have B12 := Lib.hid (extV B11.out hb12)
  have C12 := Lib.hid (extV C11.out hb12)
  clear hb12
  go_wp2_with fail
  refine (depth_any _ _ w12 (vl_plain w12 (k := 0) false (s := ⟨#[]⟩) ⟨by omega, by omega⟩ (by decide)) (by rw [dep_plain]; omega)).mono ?_
  rintro e w13 ⟨rfl, hb13⟩
  rw [dep_plain]
  have B13 := Lib.hid (extV B12.out hb13)
  have C13 := Lib.hid (extV C12.out hb13)
  clear hb13
  go_wp2_with fail
  refine (vlist_any none 0 0 [] w13 (VL.none_ w13)).mono ?_
  rintro e w14 ⟨A14, m14, c14, B14', q14, d14, rfl, hb14, ho14⟩
  simp only [Tr.kind, Tr.isB, Tr.text] at ho14 ⊢
  have B14 := Lib.hid (extV B13.out hb14)
  have C14 := Lib.hid (extV C13.out hb14)
  have V14 := Lib.hid (ho14.vl _)
  clear hb14 ho14
  go_wp2_with fail
  refine (depth_any _ _ w14 V14.out (by rw [dep_plain]; omega)).mono ?_
  rintro e w15 ⟨rfl, hb15⟩
  rw [dep_plain]
  have B15 := Lib.hid (extV B14.out hb15)
  have C15 := Lib.hid (extV C14.out hb15)
  clear hb15
  go_wp2_with fail
  refine (number_any 1 (by omega) (by omega) w15 (T.out w15 B15.out)).mono ?_
  rintro e w16 ⟨rfl, hb16⟩
  have B16 := Lib.hid (extV B15.out hb16)
  have C16 := Lib.hid (extV C15.out hb16)
  clear hb16
  go_wp2_with fail
  refine (nested_any (num 1) _ 2 (by omega) w16 (vl_num w16 (by omega) (by omega))).mono ?_
  rintro e w17 ⟨u, rfl, hb17, hu⟩
  have B17 := Lib.hid (extV B16.out hb17)
  have C17 := Lib.hid (extV C16.out hb17)
  have U17 := Lib.hid hu
  clear hb17 hu
  go_wp2_with fail
  have hd2 : dep (nestT (num 1) (2 : Int).toNat) = 3 := by rw [dep_nest]; unfold num; rw [dep_plain]; rfl
  refine (depth_any _ _ w17 U17.out (by rw [hd2]; omega)).mono ?_
  rintro e w18 ⟨rfl, hb18⟩
  rw [hd2]
  have B18 := Lib.hid (extV B17.out hb18)
  have C18 := Lib.hid (extV C17.out hb18)
  clear hb18
  go_wp2_with fail
  refine (equal_any _ _ _ _ w18 (vl_plain w18 (k := 2) false (s := ⟨#[49]⟩) ⟨by omega, by omega⟩ (by decide)) (vl_plain w18 (k := 2) false (s := ⟨#[49, 46, 48]⟩) ⟨by omega, by omega⟩ (by decide))).mono ?_
  rintro e w19 ⟨rfl, hb19⟩
  rw [alk_no (by intro g; injection g with _ _ g; exact absurd (congrArg ByteArray.size g) (by decide))]
  have B19 := Lib.hid (extV B18.out hb19)
  have C19 := Lib.hid (extV C18.out hb19)
  clear hb19
  have M1 := N13.out.below C19.out N13.out.lt
  have M2 := N23.out.below C19.out N23.out.lt
  have OM := Lib.hid (Vl.up C19.out _ OV3.out)
  have HM1 := Lib.hid M1
  have r0 := M1.c0; have r1 := M1.c1; have r2 := M1.c2; have r3 := M1.c3; have r4 := M1.c4
  have s2 := M2.c2
  clear M1 M2
  go_wp2_with fail
  refine (number_any (-12) (by omega) (by omega) w19 (T.out w19 B19.out)).mono ?_
  rintro e w20 ⟨rfl, hb20⟩
  rw [numT_m12]
  have B20 := Lib.hid (extV B19.out hb20)
  have M3 := HM1.out.below hb20 HM1.out.lt
  have ON := Lib.hid (Vl.up hb20 _ OM.out)
  have r0 := M3.c0; have r1 := M3.c1; have r2 := M3.c2; have r3 := M3.c3; have r4 := M3.c4
  clear hb20 M3
  go_wp2_with fail
  rw [field_text]
  go_wp2_with fail
  have hdO : dep (.mk 5 false ⟨#[]⟩ [.mk 2 false ⟨#[49]⟩ [] [], .mk 2 false ⟨#[50]⟩ [] [], .mk 2 false ⟨#[51]⟩ [] []] [⟨#[97]⟩, ⟨#[98]⟩, ⟨#[97]⟩]) = 2 := by simp only [dep_mk, depL_cons, depL_nil]; rfl
  have hmO : may (.mk 5 false ⟨#[]⟩ [.mk 2 false ⟨#[49]⟩ [] [], .mk 2 false ⟨#[50]⟩ [] [], .mk 2 false ⟨#[51]⟩ [] []] [⟨#[97]⟩, ⟨#[98]⟩, ⟨#[97]⟩]) = true := by simp only [may_mk, List.all_cons, List.all_nil]; rfl
  refine (check_any _ _ w20 ON.out (by rw [hdO]; omega)).mono ?_
  rintro e w21 ⟨rfl, hb21⟩
  rw [chk_ok hmO (by rw [hdO]; omega)]
  have B21 := Lib.hid (extV B20.out hb21)
  clear hb21
  go_wp2_with fail
  go_ret
  exact ⟨rfl, B21.out⟩
end Vt
end Go.Proofs.YtlgeibaejeiemaaDoor
