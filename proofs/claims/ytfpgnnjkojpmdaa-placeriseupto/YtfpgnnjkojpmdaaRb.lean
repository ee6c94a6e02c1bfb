/-
  What New of colophonref03 (the document's answer) does: two rows of spans in a struct.
-/
import Derived.Test.YtfpgnnjkojpmdaaRa
namespace Go.Proofs.Ytfpgnnjkojpmdaa
set_option linter.unusedVariables false
set_option linter.unusedSimpArgs false
open Go.RowKit Go.Shelf
namespace Lc
open Utf Wd Wr We Wi Lm Wf

/-- a struct of two slices, in a block of its own -/
def Two (W : World) (X : Nat) (a b : Value) : Prop := W.heap[X]? = some (.cells #[a, b] 94 (0, 0))
/-- a row of spans of the call's own -/
def Sp (W : World) (B : Nat) (v : Value) (L : List (Nat × Nat)) : Prop := W.ownsRow B 44 2 v L.length (flat L)
def Apart (a b : Value) : Prop := ∀ g, a.ownBlock = some g → b.ownBlock ≠ some g
theorem Apart.symm {a b : Value} (h : Apart a b) : Apart b a := fun g h1 h2 => h g h2 h1
theorem Apart.or {a b : Value} (h : Apart a b) : a.ownBlock = none ∨ a.ownBlock ≠ b.ownBlock := by
  cases ha : a.ownBlock with
  | none => exact .inl rfl
  | some g => exact .inr (fun e => h g ha e.symm)
section
variable {W W' : World} {X B : Nat} {a b : Value} {L : List (Nat × Nat)}
theorem Two.lt (h : Two W X a b) : X < W.heap.size := (Array.getElem?_eq_some_iff.1 h).1
theorem Two.at0 (h : Two W X a b) : W.cell? ⟨X, 0, none⟩ = some a := by simp [World.cell?, show W.heap[X]? = _ from h]
theorem Two.at1 (h : Two W X a b) : W.cell? ⟨X, 1, none⟩ = some b := by simp [World.cell?, show W.heap[X]? = _ from h]
theorem Two.fz (h : Two W X a b) (i : Nat) : W.frozen? ⟨X, i, none⟩ = false := by simp [World.frozen?, show W.heap[X]? = _ from h]
theorem Two.kept {row : Option Nat} (h : Two W X a b) (hg : W.grownBy W' row) (hne : some X ≠ row) : Two W' X a b := (hg.block X h.lt hne).trans h
theorem Two.alloc (h : Two W X a b) (o : Obj) : Two (W.alloc o) X a b := h.kept (World.grownBy_alloc W o none) (by simp)
theorem Two.below (h : Two W X a b) {n : Nat} (hb : Below n W W') (hX : X < n) : Two W' X a b := (hb.block X hX).trans h
theorem Two.new (W : World) (a b : Value) : Two (W.alloc (.cells #[a, b] 94)) W.heap.size a b := World.alloc_heap_new W _
theorem Two.set0 (h : Two W X a b) (v : Value) : Two (W.setCell ⟨X, 0, none⟩ v) X v b := by
  obtain ⟨hlt, hk⟩ := Array.getElem?_eq_some_iff.1 h
  show (W.heap.modify X _)[X]? = _
  rw [Array.getElem?_eq_getElem (by rw [Array.size_modify]; exact hlt), Array.getElem_modify_self, hk]
  rfl
theorem Two.set1 (h : Two W X a b) (v : Value) : Two (W.setCell ⟨X, 1, none⟩ v) X a v := by
  obtain ⟨hlt, hk⟩ := Array.getElem?_eq_some_iff.1 h
  show (W.heap.modify X _)[X]? = _
  rw [Array.getElem?_eq_getElem (by rw [Array.size_modify]; exact hlt), Array.getElem_modify_self, hk]
  rfl
theorem Two.not_row (h : Two W X a b) {v : Value} (hr : Sp W B v L) : some X ≠ v.ownBlock := by
  rcases hr.2 with ⟨rfl, _⟩ | ⟨g, cap, cur, rfl, _, hgb, _⟩
  · simp [Value.ownBlock]
  · intro e
    obtain rfl : X = g := by simpa [Value.ownBlock] using e
    rw [show W.heap[X]? = _ from h] at hgb
    injection hgb with hgb
    injection hgb with _ ht _
    exact absurd ht (by decide)
theorem grown_set (W : World) (X i : Nat) (v : Value) : W.grownBy (W.setCell ⟨X, i, none⟩ v) (some X) :=
  ⟨rfl, rfl, rfl, (KeepsWalks.setCell W _ v).size, fun k _ hk => Below.heap_setCell _ _ _ k (fun e => hk (by rw [e]))⟩
theorem Sp.kept {row : Option Nat} {v : Value} (h : Sp W B v L) (hg : W.grownBy W' row) (hne : v.ownBlock = none ∨ v.ownBlock ≠ row) : Sp W' B v L := World.ownsRow.kept h hg hne
theorem Sp.lt {v : Value} (h : Sp W B v L) {g : Nat} (hg : v.ownBlock = some g) : B ≤ g ∧ g < W.heap.size := World.ownsRow.lt h g hg
theorem Sp.alloc {v : Value} (h : Sp W B v L) (o : Obj) : Sp (W.alloc o) B v L := World.ownsRow.alloc h o
theorem Sp.nil : Sp W B (.slice none 0 0) [] := World.ownsRow_nil _ _ _ _
end

/-- the two rows, in the struct X -/
structure Bi (W : World) (B X : Nat) (vw vp : Value) (Lw Lp : List (Nat × Nat)) : Prop where
  two : Two W X vw vp
  rw_ : Sp W B vw Lw
  rp : Sp W B vp Lp
  ap : Apart vw vp
  lo : B ≤ X

theorem Bi.app1 {W w1 : World} {B X : Nat} {vw vp vp' : Value} {Lw Lp Lp' : List (Nat × Nat)} {tmp : Obj} (h : Bi W B X vw vp Lw Lp) (hB : B ≤ W.heap.size) (hg : (W.alloc tmp).grownBy w1 vp.ownBlock)
    (hown : Sp w1 B vp' Lp') (hat : vp'.ownBlock = vp.ownBlock ∨ vp'.ownBlock = some (W.alloc tmp).heap.size) :
    Two w1 X vw vp ∧ Bi (w1.setCell ⟨X, 1, none⟩ vp') B X vw vp' Lw Lp' ∧ Below B W (w1.setCell ⟨X, 1, none⟩ vp') := by
  have t1 : Two w1 X vw vp := (h.two.alloc tmp).kept hg ((h.two.alloc tmp).not_row (h.rp.alloc tmp))
  have w1' : Sp w1 B vw Lw := (h.rw_.alloc tmp).kept hg h.ap.or
  have ap' : Apart vw vp' := by
    intro g hg1 hg2
    rcases hat with e | e
    · rw [e] at hg2; exact h.ap g hg1 hg2
    · rw [hg2] at e
      have := (h.rw_.lt hg1).2
      rw [World.size_alloc] at e
      cases e
      omega
  refine ⟨t1, ⟨t1.set1 vp', w1'.kept (grown_set w1 X 1 vp') (.inr (t1.not_row w1').symm), hown.kept (grown_set w1 X 1 vp') (.inr (t1.not_row hown).symm), ap', h.lo⟩, ?_⟩
  exact (((Below.refl B W).alloc hB tmp).grown hg (by rw [World.size_alloc]; omega) (fun j ej => (h.rp.lt ej).1)).setCell (p := ⟨X, 1, none⟩) h.lo vp'
theorem Bi.app0 {W w1 : World} {B X : Nat} {vw vp vw' : Value} {Lw Lp Lw' : List (Nat × Nat)} {tmp : Obj} (h : Bi W B X vw vp Lw Lp) (hB : B ≤ W.heap.size) (hg : (W.alloc tmp).grownBy w1 vw.ownBlock)
    (hown : Sp w1 B vw' Lw') (hat : vw'.ownBlock = vw.ownBlock ∨ vw'.ownBlock = some (W.alloc tmp).heap.size) :
    Two w1 X vw vp ∧ Bi (w1.setCell ⟨X, 0, none⟩ vw') B X vw' vp Lw' Lp ∧ Below B W (w1.setCell ⟨X, 0, none⟩ vw') := by
  have t1 : Two w1 X vw vp := (h.two.alloc tmp).kept hg ((h.two.alloc tmp).not_row (h.rw_.alloc tmp))
  have w1' : Sp w1 B vp Lp := (h.rp.alloc tmp).kept hg h.ap.symm.or
  have ap' : Apart vw' vp := by
    intro g hg1 hg2
    rcases hat with e | e
    · rw [e] at hg1; exact h.ap g hg1 hg2
    · rw [hg1] at e
      have := (h.rp.lt hg2).2
      rw [World.size_alloc] at e
      cases e
      omega
  refine ⟨t1, ⟨t1.set0 vw', hown.kept (grown_set w1 X 0 vw') (.inr (t1.not_row hown).symm), w1'.kept (grown_set w1 X 0 vw') (.inr (t1.not_row w1').symm), ap', h.lo⟩, ?_⟩
  exact (((Below.refl B W).alloc hB tmp).grown hg (by rw [World.size_alloc]; omega) (fun j ej => (h.rw_.lt ej).1)).setCell (p := ⟨X, 0, none⟩) h.lo vw'

set_option maxHeartbeats 1600000 in
theorem rnew_bad (A : Option Addr) (n c : Nat) (b : List Int) (w : World) (s : Sl .u8 w A n c b) (hb : IsB b) {i m : Nat} {e : Int} (h : chk b = (i, m, e)) (he : e ≠ 0) :
    Calls Try.prog 40 #[.slice A n c] w fun r w' => r = .returned (.tuple #[.pointer none, .int .i64 e]) ∧ Below w.heap.size w w' := by
  have S := Lib.hid s
  have H := Lib.hid h
  clear s h
  have d : (e != 0) = true := by simpa using he
  clear he
  go_enter Try.func40, Try.ntmps40
  go_wp2_with fail
  refine (rcheck_at _ _ _ _ _ S.out hb H.out).mono ?_
  rintro r w' ⟨rfl, hbl⟩
  have HB := Lib.hid hbl
  clear hbl
  go_wp2_with fail
  go_ret2
  exact ⟨rfl, HB.out⟩

/-- append(v, x) where x is one span -/
theorem wp_span {w : World} {ops : Array Oper} {rest : List Oper} {o : Oper} {a : Act} {Q : Exit → Act → World → Prop} (hgd : o.guard = none) (s x : Operand)
    (ho : o.op = .call { callee := .builtin .append, args := #[s, x], argTypes := #[81, 81] }) {B : Nat} {v : Value} {L : List (Nat × Nat)} (f t : Nat) {fi ti : Int} (hf : fi = (f : Int)) (ht : ti = (t : Int)) (hs : a.eval s = v) (hown : Sp w B v L)
    {sz : Nat} (hx : a.eval x = .slice (some ⟨sz, 0, none⟩) 1 1) (hsz : w.heap.size = sz) (hlen : (L.length + 1) * 16 ≤ 140737488355328) (hB : B ≤ w.heap.size)
    (h : ∀ v' w', Sp w' B v' (L ++ [(f, t)]) → (w.alloc (.cells #[.int .i64 fi, .int .i64 ti] 44)).grownBy w' v.ownBlock → (v'.ownBlock = v.ownBlock ∨ v'.ownBlock = some (w.alloc (.cells #[.int .i64 fi, .int .i64 ti] 44)).heap.size) → (∃ g cap, v' = .slice (some ⟨g, 0, none⟩) (L.length + 1) cap) → wpList Try.prog ops Q rest (a.put o.dst v') w') :
    wpList Try.prog ops Q (o :: rest) a (w.alloc (.cells #[.int .i64 fi, .int .i64 ti] 44)) := by
  subst hf
  subst ht
  subst hsz
  obtain ⟨i0, hi, hz0, hz1, hz2⟩ := info_parts span_info
  refine wpList_append_own_at (P := Try.prog) _ hgd s x 81 ho B 44 i0 _ 2 16 Try.underlying81 hi hz0 hz1 hz2 rfl (by omega) v L.length (flat L) hs (hown.alloc _) ⟨w.heap.size, 0, none⟩ 1 1 [.int .i64 (f : Nat), .int .i64 (t : Nat)] hx rfl (cell_two_new w _ _ _) (by simp [Value.oneCell']) (by unfold maxLen; omega) hlen (by rw [World.size_alloc]; omega) ?_
  intro v' w' ho' hg _ hat
  refine h v' w' ?_ hg hat (ownsRow_succ ho')
  unfold Sp
  rw [flat_snoc, List.length_append]
  exact ho'

set_option maxRecDepth 100000 in
set_option maxHeartbeats 3200000 in
theorem rnew_ok (A : Option Addr) (n c : Nat) (b : List Int) (w : World) (s : Sl .u8 w A n c b) (hb : IsB b) {i m : Nat} (h : chk b = (i, m, 0)) (hn : (n + 1) * 16 ≤ 140737488355328) :
    Calls Try.prog 40 #[.slice A n c] w fun r w' => ∃ X vw vp, r = .returned (.tuple #[.pointer (some ⟨X, 0, none⟩), .int .i64 0]) ∧ Bi w' w.heap.size X vw vp (whs b) (lns b) ∧ Below w.heap.size w w' := by
  have S := Lib.hid s
  have H := Lib.hid h
  have hlen := s.len
  have hle := ends_le b 0
  have HL := Lib.hid hlen
  rw [hlen] at hle
  clear s h hlen
  go_enter Try.func40, Try.ntmps40
  go_wp2_with fail
  refine (rcheck_at _ _ _ _ _ S.out hb H.out).mono ?_
  rintro r w1 ⟨rfl, hbl⟩
  have B1 := Lib.hid hbl
  have S1 := Lib.hid (S.out.below hbl)
  have hsz := hbl.size
  clear hbl
  go_wp2_with fail
  obtain ⟨W0, hW0⟩ : ∃ W0, w1.alloc (.cells #[.slice none 0 0, .slice none 0 0] 94) = W0 := ⟨_, rfl⟩
  rw [hW0]
  have hbi : Bi W0 w.heap.size w1.heap.size (.slice none 0 0) (.slice none 0 0) [] [] := by
    rw [← hW0]
    exact ⟨Two.new w1 _ _, Sp.nil, Sp.nil, (fun g h => by simp [Value.ownBlock] at h), hsz⟩
  have hb0 : Below w1.heap.size w1 W0 := by rw [← hW0]; exact below_alloc w1 _
  have BI0 := Lib.hid hbi
  have B0 := Lib.hid (ext_trans B1.out hb0)
  have S0 := Lib.hid (S1.out.below hb0)
  have hs0 : w.heap.size ≤ W0.heap.size := B0.out.size
  clear hbi hb0 hW0
  go_loopw [7, 8] (fun f a wr => ∃ (k : Nat) (pre : List (Nat × Nat)) (vw vp : Value), f = .int .i64 (lastTo 0 pre : Nat) ∧ a = .int .i64 (k : Nat) ∧ k ≤ n ∧ Hid (ends 0 b = pre ++ ends k (b.drop k)) ∧ Hid (Bi wr w.heap.size w1.heap.size vw vp (headw 0 pre) (heads 0 pre)) ∧ Hid (Below w.heap.size w wr)) (fun f a _ => n - (intOf a).toNat)
  case atStart => exact ⟨0, [], _, _, rfl, rfl, Nat.zero_le _, Lib.hid rfl, BI0, B0⟩
  case round =>
    obtain ⟨k, pre, vw, vp, rfl, rfl, hk, hE, BI, BW⟩ := hrel
    have SW := Lib.hid (S.out.below BW.out)
    have hswr : w.heap.size ≤ wr.heap.size := BW.out.size
    have hpl : pre.length ≤ n := by have := congrArg List.length hE.out; rw [List.length_append] at this; omega
    generalize hfr : lastTo 0 pre = fr
    have HFR := Lib.hid hfr
    clear hfr
    by_cases hkn : k < n
    · have i1 : (k : Int) < (n : Int) := by omega
      have hne : b.drop k ≠ [] := by intro e; have := congrArg List.length e; rw [List.length_drop, HL.out] at this; simp at this; omega
      have hst := ends_step k hne
      have hel := esz_le (b.drop k)
      rw [List.length_drop, HL.out] at hel
      obtain ⟨z, hz⟩ : ∃ z, esz (b.drop k) = z := ⟨_, rfl⟩
      rw [hz] at hst hel
      have HZ := Lib.hid hz
      have HST := Lib.hid hst
      clear hz hst hne
      go_wp2_with fail
      refine (rend_any _ _ _ _ k _ SW.out hkn).mono ?_
      rintro e w' ⟨rfl, rfl⟩
      rw [HZ.out]
      by_cases hz : 0 < z
      · have i2 : 0 < (z : Int) := by omega
        have cw := BI.out.two.at0
        have cp := BI.out.two.at1
        have hw1 : IntKind.i64.wrap ((k : Int) + (z : Int)) = (k : Int) + (z : Int) := by rw [IntKind.wrap_i64]; unfold maxLen at *; omega
        have hw2 : IntKind.i64.wrap ((k : Int) + (z : Int) - 1) = (k : Int) + (z : Int) - 1 := by rw [IntKind.wrap_i64]; omega
        have hnx := HST.out
        rw [if_pos hz, Nat.max_eq_left (show 1 ≤ z by omega), List.drop_drop] at hnx
        have hE3 := hE.out
        rw [hnx, ← List.append_assoc] at hE3
        have HE3 := Lib.hid hE3
        clear hnx hE3
        have e1 : heads 0 pre ++ [(fr, k)] = heads 0 (pre ++ [(k, k + z)]) := by rw [heads_snoc, HFR.out]
        have e2 : headw 0 pre ++ [(fr, k + z)] = headw 0 (pre ++ [(k, k + z)]) := by rw [headw_snoc, HFR.out]
        have E1 := Lib.hid e1
        have E2 := Lib.hid e2
        clear e1 e2
        go_wp2_with (first
          | (at_builtin; refine wp_span rfl _ _ rfl fr k rfl rfl rfl BI.out.rp rfl rfl (by rw [heads_length]; omega) hswr ?_; intro v' w3 ho3 hg3 hat3 hsh3; obtain ⟨g3, cap3, rfl⟩ := hsh3; obtain ⟨t3, b3, l3⟩ := BI.out.app1 hswr hg3 ho3 hat3; have c3 := t3.at1; have f3 := t3.fz 1; have hs3 := Nat.le_trans hswr l3.size; have cw3 := b3.two.at0; simp only [heads_length] at b3 l3 hs3 cw3; rw [E1.out] at b3; clear hg3 ho3 hat3 cw cp; have BI3 := Lib.hid b3; have L3 := Lib.hid l3; clear BI b3 l3 t3)
          | (at_builtin; refine wp_span rfl _ _ rfl fr (k + z) rfl (by omega) rfl BI3.out.rw_ rfl (by simp) (by rw [headw_length]; omega) hs3 ?_; intro v' w4 ho4 hg4 hat4 hsh4; obtain ⟨g4, cap4, rfl⟩ := hsh4; obtain ⟨t4, b4, l4⟩ := BI3.out.app0 hs3 hg4 ho4 hat4; have c4 := t4.at0; have f4 := t4.fz 0; simp only [headw_length] at b4 l4; rw [E2.out] at b4; clear hg4 ho4 hat4 cw3 c3 f3; have BI4 := Lib.hid b4; have L4 := Lib.hid (L3.out.trans l4); clear BI3 L3 b4 l4 t4))
        go_roundw
        case rel => exact ⟨k + z, pre ++ [(k, k + z)], _, _, by rw [lastTo_snoc]; go_num, by go_num, by omega, HE3, BI4, Lib.hid (BW.out.trans L4.out)⟩
        case measure => simp [intOf]; omega
      · obtain rfl : z = 0 := by omega
        have hw1 : IntKind.i64.wrap ((k : Int) + 1) = (k : Int) + 1 := by rw [IntKind.wrap_i64]; omega
        have hnx := HST.out
        rw [if_neg (by omega), Nat.max_eq_right (by omega), List.drop_drop, List.nil_append] at hnx
        have hE3 := hE.out
        rw [hnx] at hE3
        have HE3 := Lib.hid hE3
        clear hnx hE3
        go_wp2_with fail
        go_roundw
        case rel => exact ⟨k + 1, pre, vw, vp, by rw [HFR.out], by go_num, by omega, HE3, BI, BW⟩
        case measure => simp [intOf]; omega
    · obtain rfl : k = n := by omega
      have i1 : ¬ (k : Int) < (k : Int) := by omega
      have he : ends 0 b = pre := by rw [hE.out, List.drop_of_length_le (by rw [HL.out]; omega)]; simp [ends]
      have cw := BI.out.two.at0
      have cp := BI.out.two.at1
      have e1 : heads 0 pre ++ [(fr, k)] = lns b := by unfold lns plains; rw [he, HFR.out, HL.out]
      have e2 : headw 0 pre ++ [(fr, k)] = whs b := by unfold whs wholes; rw [he, HFR.out, HL.out]
      have E1 := Lib.hid e1
      have E2 := Lib.hid e2
      clear e1 e2 he
      go_wp2_with (first
        | (at_builtin; refine wp_span rfl _ _ rfl fr k rfl rfl rfl BI.out.rp rfl rfl (by rw [heads_length]; omega) hswr ?_; intro v' w3 ho3 hg3 hat3 hsh3; obtain ⟨g3, cap3, rfl⟩ := hsh3; obtain ⟨t3, b3, l3⟩ := BI.out.app1 hswr hg3 ho3 hat3; have c3 := t3.at1; have f3 := t3.fz 1; have hs3 := Nat.le_trans hswr l3.size; have cw3 := b3.two.at0; simp only [heads_length] at b3 l3 hs3 cw3; rw [E1.out] at b3; clear hg3 ho3 hat3 cw cp; have BI3 := Lib.hid b3; have L3 := Lib.hid l3; clear BI b3 l3 t3)
        | (at_builtin; refine wp_span rfl _ _ rfl fr k rfl rfl rfl BI3.out.rw_ rfl (by simp) (by rw [headw_length]; omega) hs3 ?_; intro v' w4 ho4 hg4 hat4 hsh4; obtain ⟨g4, cap4, rfl⟩ := hsh4; obtain ⟨t4, b4, l4⟩ := BI3.out.app0 hs3 hg4 ho4 hat4; have c4 := t4.at0; have f4 := t4.fz 0; simp only [headw_length] at b4 l4; rw [E2.out] at b4; clear hg4 ho4 hat4 cw3 c3 f3; have BI4 := Lib.hid b4; have L4 := Lib.hid (L3.out.trans l4); clear BI3 L3 b4 l4 t4))
      go_ret2
      exact ⟨w1.heap.size, rfl, ⟨_, _, BI4.out⟩, BW.out.trans L4.out⟩
end Lc
end Go.Proofs.Ytfpgnnjkojpmdaa
