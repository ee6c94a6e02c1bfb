/-
  The walk of LinesKnown.
-/
import Derived.Test.YtlicfeepmhaemaaLh
import Derived.Test.YtlicfeepmhaemaaWh
import Derived.Test.YtlicfeepmhaemaaWp
import Derived.LoopN
namespace Go.Proofs.Ytlicfeepmhaemaa
set_option linter.unusedVariables false
set_option linter.unusedSimpArgs false
open Go.RowKit Go.ChangeShapes Go.WideShapes Go.Shelf
open Utf Wd Wr We Wi Lm Lc
attribute [local go_sem] Oper.semAt_some

def ktxt : List Int := [13, 13, 10, 10, 13]
theorem ktxt_lns : lns ktxt = [(0, 0), (1, 1), (3, 3), (4, 4), (5, 5)] := by decide
theorem nil_lns : lns [] = [(0, 0)] := by decide
theorem nil_parts : Parts (lns []) ((0 : Nat) : Int) 1 := by
  rw [nil_lns]
  refine ⟨by decide, ?_, ?_⟩
  · intro j x hj hx
    obtain rfl : j = 0 := by omega
    simp at hx; subst hx; decide
  · intro j x hj hx
    rcases j with _ | j
    · omega
    · simp at hx
/-- the answer's box, and what lay -/
def KB (w : World) (W : World) : Prop := Boxed W w.heap.size 4 (.bool false) ∧ Below w.heap.size w W
theorem KB.ext {w W W' : World} (h : KB w W) (hb : Below W.heap.size W W') : KB w W' := ⟨(hb.block _ h.1.lt).trans h.1, ext_trans h.2 hb⟩
theorem KB.alloc {w W : World} (h : KB w W) (o : Obj) : KB w (W.alloc o) := h.ext (below_alloc W o)

theorem kb_ne {X : World} {b B : Nat} {t : TypeId} {v : Value} {row : Option Nat} (h : Boxed X b t v) (hr : ∀ r, row = some r → B ≤ r ∧ ∃ o : Obj, X.heap[r]? = some o ∧ o.isCells = false) : some b ≠ row := by
  intro e
  obtain ⟨_, o, ho, hc⟩ := hr b e.symm
  rw [show X.heap[b]? = _ from h] at ho
  cases ho; cases hc
theorem kb_own {w : World} {B : Nat} (hB : w.heap.size ≤ B) : OwnFrom B (fun (_ : List (Nat × (Nat × Nat))) W => KB w W) := by
  rintro pre X Y row ⟨h, k⟩ hg hr
  exact ⟨h.kept hg (kb_ne h hr), k.grown hg k.size (fun j e => by have := (hr j e).1; omega)⟩
/-- and a block for deferred calls, and an index without lines -/
def KD (w : World) (D E : Nat) (W : World) : Prop := KB w W ∧ W.heap[D]? = some (.deferred (some [])) ∧ Boxed W E 55 (.slice none 0 0)
theorem KD.ext {w W W' : World} {D E : Nat} (h : KD w D E W) (hb : Below W.heap.size W W') : KD w D E W' := ⟨h.1.ext hb, (hb.block _ (Array.getElem?_eq_some_iff.1 h.2.1).1).trans h.2.1, (hb.block _ h.2.2.lt).trans h.2.2⟩
theorem KD.alloc {w W : World} {D E : Nat} (h : KD w D E W) (o : Obj) : KD w D E (W.alloc o) := h.ext (below_alloc W o)
theorem KD.non {w W : World} {D E : Nat} (h : KD w D E W) : Non W (some ⟨E, 0, none⟩) := .inr ⟨E, rfl, h.2.2.lt, h.2.2.cell⟩
theorem kd_own {w : World} {D E B : Nat} (hB : w.heap.size ≤ B) (hD : D < B) : OwnFrom B (fun (_ : List (Nat × (Nat × Nat))) W => KD w D E W) := by
  rintro pre X Y row ⟨h, k, m⟩ hg hr
  exact ⟨kb_own hB pre X Y row h hg hr, (hg.block D (Array.getElem?_eq_some_iff.1 k).1 (fun e => by have := (hr D e.symm).1; omega)).trans k, m.kept hg (kb_ne m hr)⟩

set_option maxRecDepth 100000 in
set_option maxHeartbeats 6400000 in
theorem walk_LinesKnown  (w : World)  :
    Calls Try.prog 10 #[] w fun e w' => e = .returned (.bool true) ∧ Below w.heap.size w w' := by
  refine (callsIn_wide (n := 6)).1 (callsIn_of_wp_marks Try.func10 rfl trivial ?_ rfl)
  simp only [Try.ntmps10, List.size_toArray, List.length_cons, List.length_nil, Nat.reduceAdd, Nat.reduceSub, Array.replicate_succ, Array.replicate_zero, List.push_toArray, List.append_toArray, List.nil_append, List.cons_append]
  refine wpIn_wide.2 ?_
  go_wp2_with fail
  have kb : KB w (w.alloc (.cells #[.bool false] 4)) := ⟨Boxed.new w _ _, below_alloc w _⟩
  generalize w.alloc (.cells #[.bool false] 4) = W0 at kb ⊢
  have K0 := Lib.hid kb
  clear kb
  refine (new_ok none 0 0 [] W0 Sl.none_ (fun x hx => by cases hx) (i := 0) (m := 0) (by decide) (by decide)).mono ?_
  rintro e w1 ⟨P, rfl, hI, hb⟩
  have K1 := Lib.hid (K0.out.ext hb)
  have I1 := Lib.hid hI
  clear hI hb
  go_wp2_with fail
  refine (count_txt _ P [] w1 I1.out).mono ?_
  rintro e w' ⟨rfl, rfl⟩
  rw [nil_lns]
  go_wp2_with fail
  refine (spans_ok _ P [] 0 0 0 0 w1 I1.out (by decide) (by decide)).mono ?_
  rintro e w2 ⟨rfl, hb⟩
  have K2 := Lib.hid (K1.out.ext hb)
  have I2 := Lib.hid (I1.out.ext hb)
  clear hb
  go_wp2_with fail
  refine (find_ok _ P (lns []) 0 0 w2 I2.out (ok_lns [] (by decide)) (by decide)).mono ?_
  rintro e w3 ⟨r, rfl, hp, hb⟩
  obtain rfl : r = 0 := by have := parts_one hp nil_parts; omega
  have K3 := Lib.hid (K2.out.ext hb)
  have I3 := Lib.hid (I2.out.ext hb)
  clear hp hb
  go_wp2_with fail
  refine (find_out _ P (lns []) 0 1 w3 I3.out (ok_lns [] (by decide)) (by decide)).mono ?_
  rintro e w4 ⟨rfl, hb⟩
  have K4 := Lib.hid (K3.out.ext hb)
  have I4 := Lib.hid (I3.out.ext hb)
  clear hb
  go_wp2_with fail
  refine (find_out _ P (lns []) 0 (-1) w4 I4.out (ok_lns [] (by decide)) (by decide)).mono ?_
  rintro e w5 ⟨rfl, hb⟩
  have K5 := Lib.hid (K4.out.ext hb)
  have I5 := Lib.hid (I4.out.ext hb)
  clear hb
  go_wp2_with fail
  refine (line_out _ P (lns []) 1 w5 I5.out (by decide) (by decide)).mono ?_
  rintro e w6 ⟨rfl, hb⟩
  have K6 := Lib.hid (K5.out.ext hb)
  have I6 := Lib.hid (I5.out.ext hb)
  clear hb
  simp only [sp]
  go_wp2_with fail
  have hb2 : Below w6.heap.size w6 ((w6.alloc (.cells #[.int .i64 0, .int .i64 0] 35)).alloc (.cells #[.int .i64 0, .int .i64 0] 35)) := ((Below.refl _ _).alloc (Nat.le_refl _) _).alloc (by simp) _
  generalize (w6.alloc (.cells #[.int .i64 0, .int .i64 0] 35)).alloc (.cells #[.int .i64 0, .int .i64 0] 35) = v6 at hb2 ⊢
  have KV6 := Lib.hid (K6.out.ext hb2)
  have IV6 := Lib.hid (I6.out.ext hb2)
  clear hb2
  refine (line_out _ P (lns []) (-1) v6 IV6.out (by decide) (by decide)).mono ?_
  rintro e w7 ⟨rfl, hb⟩
  have K7 := Lib.hid (KV6.out.ext hb)
  have I7 := Lib.hid (IV6.out.ext hb)
  clear hb
  simp only [sp]
  go_wp2_with fail
  have hb2 : Below w7.heap.size w7 ((w7.alloc (.cells #[.int .i64 0, .int .i64 0] 35)).alloc (.cells #[.int .i64 0, .int .i64 0] 35)) := ((Below.refl _ _).alloc (Nat.le_refl _) _).alloc (by simp) _
  have hz7 : ((w7.alloc (.cells #[.int .i64 0, .int .i64 0] 35)).alloc (.cells #[.int .i64 0, .int .i64 0] 35)).heap.size = w7.heap.size + 1 + 1 := by simp
  generalize (w7.alloc (.cells #[.int .i64 0, .int .i64 0] 35)).alloc (.cells #[.int .i64 0, .int .i64 0] 35) = v7 at hb2 hz7 ⊢
  have KV7 := Lib.hid (K7.out.ext hb2)
  have IV7 := Lib.hid (I7.out.ext hb2)
  clear hb2
  have s1 : Sl .u8 (v7.alloc (.cells #[.int .u8 10, .int .u8 255] 5)) (some ⟨w7.heap.size + 1 + 1, 0, none⟩) 2 2 [10, 255] := Sl.newAt v7 [10, 255] 5 .u8 (by decide) hz7
  have k1 := KV7.out.alloc (.cells #[.int .u8 10, .int .u8 255] 5)
  generalize v7.alloc (.cells #[.int .u8 10, .int .u8 255] 5) = w8 at s1 k1 ⊢
  have S1 := Lib.hid s1
  have K8 := Lib.hid k1
  clear s1 k1
  refine (new_bad _ _ _ [10, 255] w8 S1.out (by unfold IsB; decide) (i := 1) (m := 1) (e := 10) (by decide) (by decide)).mono ?_
  rintro e w' ⟨rfl, rfl⟩
  go_wp2_with fail
  have s1 : Sl .u8 (w8.alloc (.cells #[.int .u8 10, .int .u8 195] 5)) (some ⟨w8.heap.size, 0, none⟩) 2 2 [10, 195] := Sl.new w8 [10, 195] 5 .u8 (by decide)
  have k1 := K8.out.alloc (.cells #[.int .u8 10, .int .u8 195] 5)
  generalize w8.alloc (.cells #[.int .u8 10, .int .u8 195] 5) = w9 at s1 k1 ⊢
  have S2 := Lib.hid s1
  have K9 := Lib.hid k1
  clear s1 k1
  refine (new_bad _ _ _ [10, 195] w9 S2.out (by unfold IsB; decide) (i := 1) (m := 1) (e := 3) (by decide) (by decide)).mono ?_
  rintro e w' ⟨rfl, rfl⟩
  go_wp2_with fail
  have s1 : Sl .u8 (w9.alloc (.cells #[.int .u8 13, .int .u8 13, .int .u8 10, .int .u8 10, .int .u8 13] 5)) (some ⟨w9.heap.size, 0, none⟩) 5 5 ktxt := Sl.new w9 ktxt 5 .u8 (by decide)
  have k1 := K9.out.alloc (.cells #[.int .u8 13, .int .u8 13, .int .u8 10, .int .u8 10, .int .u8 13] 5)
  generalize w9.alloc (.cells #[.int .u8 13, .int .u8 13, .int .u8 10, .int .u8 10, .int .u8 13] 5) = w10 at s1 k1 ⊢
  have S3 := Lib.hid s1
  have K10 := Lib.hid k1
  clear s1 k1
  refine (new_ok _ _ _ ktxt w10 S3.out (by unfold ktxt IsB; decide) (i := 5) (m := 5) (by decide) (by decide)).mono ?_
  rintro e w11 ⟨Y, rfl, hI, hb⟩
  have K11 := Lib.hid (K10.out.ext hb)
  have J11 := Lib.hid hI
  clear hI hb
  go_wp2_with fail
  refine (count_txt _ Y ktxt w11 J11.out).mono ?_
  rintro e w' ⟨rfl, rfl⟩
  rw [ktxt_lns]
  go_wp2_with fail
  refine (spans_ok _ Y ktxt 0 0 0 1 w11 J11.out (by decide) (by decide)).mono ?_
  rintro e w12 ⟨rfl, hb⟩
  have K12 := Lib.hid (K11.out.ext hb)
  have J12 := Lib.hid (J11.out.ext hb)
  clear hb
  go_wp2_with fail
  refine (spans_ok _ Y ktxt 1 1 1 3 w12 J12.out (by decide) (by decide)).mono ?_
  rintro e w13 ⟨rfl, hb⟩
  have K13 := Lib.hid (K12.out.ext hb)
  have J13 := Lib.hid (J12.out.ext hb)
  clear hb
  go_wp2_with fail
  refine (spans_ok _ Y ktxt 2 3 3 4 w13 J13.out (by decide) (by decide)).mono ?_
  rintro e w14 ⟨rfl, hb⟩
  have K14 := Lib.hid (K13.out.ext hb)
  have J14 := Lib.hid (J13.out.ext hb)
  clear hb
  go_wp2_with fail
  refine (spans_ok _ Y ktxt 3 4 4 5 w14 J14.out (by decide) (by decide)).mono ?_
  rintro e w15 ⟨rfl, hb⟩
  have K15 := Lib.hid (K14.out.ext hb)
  have J15 := Lib.hid (J14.out.ext hb)
  clear hb
  go_wp2_with fail
  refine (spans_ok _ Y ktxt 4 5 5 5 w15 J15.out (by decide) (by decide)).mono ?_
  rintro e w16 ⟨rfl, hb⟩
  have K16 := Lib.hid (K15.out.ext hb)
  have J16 := Lib.hid (J15.out.ext hb)
  clear hb
  go_wp2_with fail
  clear K0 K1 K2 K3 K4 K5 K6 K7 K8 K9 K10 K11 K12 K13 K14 K15 KV6 KV7 I1 I2 I3 I4 I5 I6 I7 IV6 IV7 J11 J12 J13 J14 J15 J16 S1 S2 S3
  refine wp_loop_rounds (2 + 1) ?_
  rw [rounds_succ]
  go_wp2_with fail
  refine (line_none none 0 w16 (.inl rfl)).mono ?_
  rintro e w17 ⟨rfl, hb⟩
  have K17 := Lib.hid (K16.out.ext hb)
  clear hb
  simp only [sp]
  go_wp2_with fail
  have k1 := (K17.out.alloc (.cells #[.int .i64 0, .int .i64 0] 35)).alloc (.cells #[.int .i64 0, .int .i64 0] 35)
  generalize (w17.alloc (.cells #[.int .i64 0, .int .i64 0] 35)).alloc (.cells #[.int .i64 0, .int .i64 0] 35) = w18 at k1 ⊢
  have K18 := Lib.hid k1
  clear k1
  refine (find_none none 0 w18 (.inl rfl)).mono ?_
  rintro e w19 ⟨rfl, hb⟩
  have K19 := Lib.hid (K18.out.ext hb)
  clear hb
  go_wp2_with fail
  refine (callsIn_wide (n := 5)).1 (all_in _ _ _) |>.mono ?_
  rintro e w' ⟨rfl, rfl⟩
  have k1 := K19.out.alloc (.cells #[.pointer none] 24)
  generalize w19.alloc (.cells #[.pointer none] 24) = w20 at k1 ⊢
  have K20 := Lib.hid k1
  clear k1
  go_wp2_with fail
  rw [func_not_nil]
  go_wp2_with fail
  refine (callsIn_wide (n := 5)).1 (all_in _ _ _) |>.mono ?_
  rintro e w' ⟨rfl, rfl⟩
  have k1 := K20.out.alloc (.cells #[.pointer none] 24)
  have c1 : (w20.alloc (.cells #[.pointer none] 24)).cell? ⟨w20.heap.size, 0, none⟩ = some (.pointer none) := (Boxed.new w20 _ _).cell
  have z1 : (w20.alloc (.cells #[.pointer none] 24)).heap.size = w20.heap.size + 1 := by simp
  generalize w20.alloc (.cells #[.pointer none] 24) = w21 at k1 c1 z1 ⊢
  have K21 := Lib.hid k1
  have C21 := Lib.hid c1
  clear k1 c1
  go_wp2_with fail
  have hz21 := K21.out.2.size
  have hlt21 : w.heap.size < w21.heap.size := K21.out.1.lt
  refine (wpIn_wide (n := 6)).1 ?_
  refine wpIn_rangeFunc_ownH (n := 6) rfl (by decide) (gf := 29) (lb := #[.pointer (some ⟨w20.heap.size, 0, none⟩)]) rfl trivial (enters_of Try.func29 (by kernel_rfl) rfl)
    (none_stops 5 (by decide) w20.heap.size none w21 (by omega) C21.out (.inl rfl))
    belowK_t (belowK_b (Nat.zero_le _)) (Below.refl _ _) (fun _ => rfl)
    (fun _ W => KB w W) (fun _ _ _ => False) (kb_own hz21) (fun _ _ _ _ _ hs _ _ => hs) K21.out
    (fun _ _ _ => True) (fun _ _ _ _ _ _ _ _ _ => trivial) ?assign ?body ?done ?stop
  case assign =>
    rintro l pre x W K hi hK
    simp only [isp, sp]
    gi_wp2_with fail
    exact hK _ _ (KeepsFrom.refl _ _) (Below.refl _ _) hi trivial
  case body =>
    rintro l pre x a' W _ _ _ _ hlt
    exact absurd hlt (Nat.not_lt_zero _)
  case stop =>
    rintro D c pre W _ _ h _
    exact h.elim
  case done =>
    rintro D ys W hD rfl hkb hK
    have hD' : D < W.heap.size := (Array.getElem?_eq_some_iff.1 hK).1
    have K22 := Lib.hid hkb
    have HK := Lib.hid hK
    clear hkb hK K21 K20 K19 K18 K17 K16 C21
    go_wp2_with fail
    refine (count_nil W).mono ?_
    rintro e w' ⟨rfl, rfl⟩
    go_wp2_with fail
    have k1 : KD w D W.heap.size (W.alloc (.cells #[.slice none 0 0] 55)) := ⟨K22.out.alloc _, ((below_alloc W _).block _ hD').trans HK.out, Boxed.new W _ _⟩
    generalize hE : W.heap.size = E at k1 ⊢
    generalize W.alloc (.cells #[.slice none 0 0] 55) = w22 at k1 ⊢
    have N22 := Lib.hid k1
    clear k1 hE K22 HK hD'
    rw [show (2 : Nat) = 1 + 1 from rfl, rounds_succ]
    go_wp2_with fail
    refine (line_none _ 0 w22 N22.out.non).mono ?_
    rintro e w23 ⟨rfl, hb⟩
    have N23 := Lib.hid (N22.out.ext hb)
    clear hb
    simp only [sp]
    go_wp2_with fail
    have k1 := (N23.out.alloc (.cells #[.int .i64 0, .int .i64 0] 35)).alloc (.cells #[.int .i64 0, .int .i64 0] 35)
    generalize (w23.alloc (.cells #[.int .i64 0, .int .i64 0] 35)).alloc (.cells #[.int .i64 0, .int .i64 0] 35) = w24 at k1 ⊢
    have N24 := Lib.hid k1
    clear k1
    refine (find_none _ 0 w24 N24.out.non).mono ?_
    rintro e w25 ⟨rfl, hb⟩
    have N25 := Lib.hid (N24.out.ext hb)
    clear hb
    go_wp2_with fail
    refine (callsIn_wide (n := 5)).1 (all_in _ _ _) |>.mono ?_
    rintro e w' ⟨rfl, rfl⟩
    have k1 := N25.out.alloc (.cells #[.pointer (some ⟨E, 0, none⟩)] 24)
    generalize w25.alloc (.cells #[.pointer (some ⟨E, 0, none⟩)] 24) = w26 at k1 ⊢
    have N26 := Lib.hid k1
    clear k1
    go_wp2_with fail
    rw [func_not_nil]
    go_wp2_with fail
    refine (callsIn_wide (n := 5)).1 (all_in _ _ _) |>.mono ?_
    rintro e w' ⟨rfl, rfl⟩
    have k1 := N26.out.alloc (.cells #[.pointer (some ⟨E, 0, none⟩)] 24)
    have c1 : (w26.alloc (.cells #[.pointer (some ⟨E, 0, none⟩)] 24)).cell? ⟨w26.heap.size, 0, none⟩ = some (.pointer (some ⟨E, 0, none⟩)) := (Boxed.new w26 _ _).cell
    have z1' : (w26.alloc (.cells #[.pointer (some ⟨E, 0, none⟩)] 24)).heap.size = w26.heap.size + 1 := by simp
    generalize w26.alloc (.cells #[.pointer (some ⟨E, 0, none⟩)] 24) = w27 at k1 c1 z1' ⊢
    have N27 := Lib.hid k1
    have C27 := Lib.hid c1
    clear k1 c1
    go_wp2_with fail
    have hz27 := N27.out.1.2.size
    have hD27 : D < w27.heap.size := (Array.getElem?_eq_some_iff.1 N27.out.2.1).1
    refine (wpIn_wide (n := 6)).1 ?_
    refine wpIn_rangeFunc_ownH (n := 6) rfl (by decide) (gf := 29) (lb := #[.pointer (some ⟨w26.heap.size, 0, none⟩)]) rfl trivial (enters_of Try.func29 (by kernel_rfl) rfl)
      (none_stops 5 (by decide) w26.heap.size (some ⟨E, 0, none⟩) w27 (by omega) C27.out N27.out.non)
      belowK_t (belowK_b (Nat.zero_le _)) (Below.refl _ _) (fun _ => rfl)
      (fun _ W => KD w D E W) (fun _ _ _ => False) (kd_own hz27 hD27) (fun _ _ _ _ _ hs _ _ => hs) N27.out
      (fun _ _ _ => True) (fun _ _ _ _ _ _ _ _ _ => trivial) ?assign2 ?body2 ?done2 ?stop2
    case assign2 =>
      rintro l pre x W K hi hK
      simp only [isp, sp]
      gi_wp2_with fail
      exact hK _ _ (KeepsFrom.refl _ _) (Below.refl _ _) hi trivial
    case body2 =>
      rintro l pre x a' W _ _ _ _ hlt
      exact absurd hlt (Nat.not_lt_zero _)
    case stop2 =>
      rintro D c pre W _ _ h _
      exact h.elim
    case done2 =>
      rintro D2 ys W hD2 rfl hkd hK
      have N28 := Lib.hid hkd
      have HK2 := Lib.hid hK
      have hDD : D < D2 := by omega
      clear hkd hK N27 N26 N25 N24 N23 N22 C27
      go_wp2_with fail
      refine (count_none _ W N28.out.non).mono ?_
      rintro e w' ⟨rfl, rfl⟩
      go_wp2_with fail
      have hb1 := below_alloc W (.cells #[.slice none 0 0] 55)
      generalize W.alloc (.cells #[.slice none 0 0] 55) = w29 at hb1 ⊢
      have N29 := Lib.hid (N28.out.ext hb1)
      have HK3 := Lib.hid ((hb1.block _ (Array.getElem?_eq_some_iff.1 HK2.out).1).trans HK2.out)
      clear hb1 HK2 N28
      rw [show (1 : Nat) = 0 + 1 from rfl, rounds_succ]
      go_wp2_with fail
      refine (works_true w29).mono ?_
      rintro e w30 ⟨rfl, hb⟩
      have N30 := Lib.hid (N29.out.ext hb)
      have HK4 := Lib.hid ((hb.block _ (Array.getElem?_eq_some_iff.1 HK3.out).1).trans HK3.out)
      clear hb N29 HK3
      have cR := N30.out.1.1.cell
      have fR := N30.out.1.1.frozen
      go_wp2_with fail
      have R2 := N30.out.1.1.set (.bool true)
      have hK2 := (KeepsOthers.setCell w30 ⟨w.heap.size, 0, none⟩ (.bool true)).same D2 _ HK4.out rfl
      have hK1 := (KeepsOthers.setCell w30 ⟨w.heap.size, 0, none⟩ (.bool true)).same D _ N30.out.2.1 rfl
      have hwD : w.heap.size < D := by omega
      have g2 := grownBy_putObj' (w30.setCell ⟨w.heap.size, 0, none⟩ (.bool true)) D2 (.deferred none)
      have hK1' := (g2.block D (Array.getElem?_eq_some_iff.1 hK1).1 (fun e => by cases e; omega)).trans hK1
      have g1 := grownBy_putObj' ((w30.setCell ⟨w.heap.size, 0, none⟩ (.bool true)).putObj D2 (.deferred none)) D (.deferred none)
      have R3 := ((R2.kept g2 (fun e => by cases e; omega)).kept g1 (fun e => by cases e; omega)).cell
      have hB2 := N30.out.1.2.setCell (p := ⟨w.heap.size, 0, none⟩) (Nat.le_refl _) (.bool true)
      have hB3 := hB2.trans (belowK_b (w := w) (Nat.le_refl _) _ D2 _ (.deferred none) (by omega) hK2 rfl rfl)
      have hB4 := hB3.trans (belowK_b (w := w) (Nat.le_refl _) _ D _ (.deferred none) (by omega) hK1' rfl rfl)
      refine ⟨by simp, .inl ⟨_, _, rfl, run_takeDeferred hK2, by simp, .inl ⟨_, _, rfl, run_takeDeferred hK1', ?_⟩⟩⟩
      refine ⟨.bool true, ?_, rfl, hB4⟩
      simp only [results]
      go_simp
end Go.Proofs.Ytlicfeepmhaemaa
