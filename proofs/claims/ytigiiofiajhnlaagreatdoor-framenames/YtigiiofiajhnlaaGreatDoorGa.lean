/-
  The document's reader of layer 7 in memory; what its Write and Left compute.
-/
import Derived.Test.YtigiiofiajhnlaaGreatDoorFz
namespace Go.Proofs.YtigiiofiajhnlaaGreatDoor
set_option linter.unusedVariables false
set_option linter.unusedSimpArgs false
open Go.RowKit Go.Shelf
namespace Fa
open Wd We Dm Dc Dd Hm Hb He Hf Hh Hi Fm

/-- the block P is a reader of the document's: its bytes, whether it is closed -/
def Dor (w : World) (P : Nat) (cl : Bool) (v : Value) : Prop := w.heap[P]? = some (.cells #[v, .bool cl] 47 (0, 0))
theorem Dor.lt {w : World} {P : Nat} {cl : Bool} {v : Value} (h : Dor w P cl v) : P < w.heap.size := (Array.getElem?_eq_some_iff.1 h).1
theorem Dor.at0 {w : World} {P : Nat} {cl : Bool} {v : Value} (h : Dor w P cl v) : w.cell? ⟨P, 0, none⟩ = some v := by simp [World.cell?, show w.heap[P]? = _ from h]
theorem Dor.at1 {w : World} {P : Nat} {cl : Bool} {v : Value} (h : Dor w P cl v) : w.cell? ⟨P, 1, none⟩ = some (.bool cl) := by simp [World.cell?, show w.heap[P]? = _ from h]
theorem Dor.fz {w : World} {P : Nat} {cl : Bool} {v : Value} (h : Dor w P cl v) (j : Nat) : w.frozen? ⟨P, j, none⟩ = false := by simp [World.frozen?, show w.heap[P]? = _ from h]
theorem Dor.stay {S : Nat → Prop} {w w' : World} {P : Nat} {cl : Bool} {v : Value} (h : Dor w P cl v) (hb : Stay S w w') (hs : ¬ S P) : Dor w' P cl v := (hb.block P h.lt hs).trans h
theorem Dor.below {w w' : World} {P : Nat} {cl : Bool} {v : Value} (h : Dor w P cl v) (hb : Below w.heap.size w w') : Dor w' P cl v := (hb.block P h.lt).trans h
theorem Dor.set0 {w : World} {P : Nat} {cl : Bool} {v : Value} (h : Dor w P cl v) (v' : Value) : Dor (w.setCell ⟨P, 0, none⟩ v') P cl v' := by
  have := set_cells (off := 0) h v'; exact this
theorem Dor.set1 {w : World} {P : Nat} {cl : Bool} {v : Value} (h : Dor w P cl v) (cl' : Bool) : Dor (w.setCell ⟨P, 1, none⟩ (.bool cl')) P cl' v := by
  have := set_cells (off := 1) h (.bool cl'); exact this
theorem Dor.not_row {w : World} {P : Nat} {cl : Bool} {v u : Value} (h : Dor w P cl v) {e : TypeId} {B m : Nat} {us : List Value} (hr : w.ownsRow B e 1 u m us) (hne : 47 ≠ e) : u.ownBlock ≠ some P := by
  intro hu
  rcases hr.2 with ⟨rfl, _⟩ | ⟨g, cap, cur, rfl, _, h1, _⟩
  · simp [Value.ownBlock] at hu
  · simp [Value.ownBlock] at hu
    subst hu
    rw [show w.heap[g]? = _ from h] at h1
    cases h1
    exact hne rfl

/-- the block P, from B on, is a reader of the document's; g is the block of its bytes -/
structure RdD (w : World) (B P : Nat) (s : St) (g : Option Nat) : Prop where
  lo : B ≤ P
  rd : ∃ v, Dor w P s.isNone v ∧ Wd.Own .u8 5 w B v (lft s) ∧ v.ownBlock = g
  wt : Wt s
  ib : IsB (lft s)
theorem RdD.lt {w : World} {B P : Nat} {s : St} {g : Option Nat} (h : RdD w B P s g) : P < w.heap.size := h.rd.choose_spec.1.lt
theorem RdD.g_lt {w : World} {B P : Nat} {s : St} {g : Option Nat} (h : RdD w B P s g) : ∀ k, g = some k → B ≤ k ∧ k < w.heap.size ∧ k ≠ P := by
  obtain ⟨v, h1, h2, h3⟩ := h.rd
  intro k hk
  have := h2.lt (h3.trans hk)
  exact ⟨this.1, this.2, fun e => h1.not_row h2 (by decide) (by rw [h3, hk, e])⟩
theorem RdD.stay {S : Nat → Prop} {w w' : World} {B P : Nat} {s : St} {g : Option Nat} (h : RdD w B P s g) (hb : Stay S w w') (h1 : ¬ S P) (h2 : ∀ k, g = some k → ¬ S k) : RdD w' B P s g := by
  obtain ⟨v, q1, q2, q3⟩ := h.rd
  exact ⟨h.lo, ⟨v, q1.stay hb h1, q2.stay hb (fun k hk => h2 k (q3.symm.trans hk)), q3⟩, h.wt, h.ib⟩
theorem RdD.below {w w' : World} {B P : Nat} {s : St} {g : Option Nat} (h : RdD w B P s g) (hb : Below w.heap.size w w') : RdD w' B P s g := h.stay (Stay.of_below (fun _ => False) hb) (fun c => c) (fun _ _ c => c)

theorem rnew_rd (w : World) :
    Calls Tryz.prog 17 #[] w fun e w' => e = .returned (.pointer (some ⟨w.heap.size, 0, none⟩)) ∧ RdD w' w.heap.size w.heap.size (some []) none ∧ Below w.heap.size w w' := by
  refine (rnew_any w).mono ?_
  rintro e w' ⟨rfl, rfl⟩
  exact ⟨rfl, ⟨Nat.le_refl _, ⟨_, heap_alloc_new w _, Wd.Own.nil, rfl⟩, wt_new, fun x hx => by simp [lft] at hx⟩, (Below.refl _ _).alloc (Nat.le_refl _) _⟩

set_option maxRecDepth 100000 in
set_option maxHeartbeats 800000 in
theorem rleft_any (w : World) (B P : Nat) (s : St) (g : Option Nat) (h : RdD w B P s g) :
    Calls Tryz.prog 21 #[.pointer (some ⟨P, 0, none⟩)] w fun e w' => e = .returned (.int .i64 ((lft s).length : Nat)) ∧ w = w' := by
  obtain ⟨v, h1, h2, _⟩ := h.rd
  obtain ⟨A, c, rfl, _, _⟩ := h2.sl
  have c1 := h1.at0
  clear h h1 h2
  generalize (lft s).length = n at *
  go_enter Tryz.func21, Tryz.ntmps21
  go_wp2
  go_ret
  exact ⟨rfl, rfl⟩

/-- what the document's Write leaves -/
def DPost (w : World) (B P : Nat) (g : Option Nat) (q : List (List Int) × Int × St) (e : Ending) (w' : World) : Prop :=
  ∃ vb g', e = .returned (.tuple #[vb, .int .i64 q.2.1]) ∧ OL 27 5 w' w.heap.size (fun k => g' ≠ some k) vb q.1 ∧ RdD w' B P q.2.2 g' ∧ (g' = g ∨ ∀ k, g' = some k → w.heap.size ≤ k) ∧ Stay (fun k => k = P) w w'

theorem brk_three_not (l : List Int) : brk l ≠ 3 := by
  rcases brk_ways l with h | h | h <;> rw [h] <;> decide

set_option maxRecDepth 100000 in
set_option maxHeartbeats 4000000 in
theorem rwrite_any (w : World) (B P : Nat) (s : St) (g : Option Nat) (A : Option Addr) (n c : Nat) (b : List Int) (hB : B ≤ w.heap.size) (r : RdD w B P s g) (sb : Sl .u8 w A n c b) (ib : IsB b) (hn : n ≤ 140737488360000) :
    Calls Tryz.prog 19 #[.pointer (some ⟨P, 0, none⟩), .slice A n c] w (DPost w B P g (wrt s b)) := by
  obtain ⟨i0, hi, hz0, hz1, hz2⟩ := info_parts u8_info
  cases s with
  | none =>
    obtain ⟨v, h1, h2, h3⟩ := id r.rd
    have c1 := h1.at1
    simp only [Option.isNone_none] at c1
    have R := Lib.hid r
    clear r h1 h2 h3 sb ib
    go_enter Tryz.func19, Tryz.ntmps19
    go_wp2
    go_ret2
    exact ⟨_, g, rfl, OL.nil _ _ _ _ _, R.out, .inl rfl, Stay.refl _ _⟩
  | some l =>
    have hw : l.length < 66048 := wt_len r.wt
    have hP := r.lo
    have hPl := r.lt
    obtain ⟨v, h1, h2, h3⟩ := r.rd
    have hl : IsB l := r.ib
    obtain ⟨A0, c0, rfl, s0, _⟩ := h2.sl
    have hbl := sb.len
    have c1 := h1.at1
    have c0' := h1.at0
    simp only [Option.isNone_some] at c1
    simp only [lft] at c0' s0
    have R := Lib.hid (show Dor w P false (.slice A0 l.length c0) from h1)
    have S := Lib.hid sb
    have hlb := Lib.hid (hl.append ib)
    have CON := Lib.hid (copy_any _ _ _ _ w s0 (by omega))
    obtain ⟨xs, t, hf⟩ : ∃ xs t, frs (l ++ b) = (xs, t) := ⟨_, _, rfl⟩
    have HF := Lib.hid hf
    have hib := frs_isB hlb.out
    have hft := frs_left (l ++ b)
    rw [hf] at hib hft
    have IT := Lib.hid hib.2
    have FT := Lib.hid hft
    clear r h1 h2 h3 sb hf hib hft hl ib s0
    go_enter Tryz.func19, Tryz.ntmps19
    go_wp2_with fail
    refine CON.out.mono ?_
    rintro e w1 ⟨v1, rfl, o1, b1⟩
    have O1 := Lib.hid o1
    have S1 := Lib.hid (S.out.below b1)
    have HB1 := Lib.hid b1
    have hs1 := b1.size
    clear o1 b1
    go_wp2_with (at_builtin; refine wp_bytes rfl _ _ _ rfl w.heap.size Tryz.underlying27 hi hz0 hz1 hz2 rfl (v := v1) (l := l) rfl O1.out rfl S1.out (by unfold maxLen; omega) (by omega) hs1 ?_; intro v2 w2 o2 b2 _ _; obtain ⟨A2, d2, hv2, s2, _⟩ := o2.sl; rw [List.length_append, hbl] at hv2 s2; subst hv2; have S2 := Lib.hid s2; have HB2 := Lib.hid (HB1.out.trans b2); have hs2 := b2.size; clear o2 b2 s2)
    refine (bodies_any _ _ _ (l ++ b) w2 S2.out hlb.out (by omega)).mono ?_
    rintro e w3 ⟨vb, u, rfl, o3, u3, b3⟩
    rw [HF.out] at o3 u3
    rw [HF.out]
    obtain ⟨A3, d3, rfl, _, _⟩ := u3.sl
    have HB3 := HB2.out.trans (b3.mono (show w.heap.size ≤ w2.heap.size by omega))
    have R3 := R.out.below HB3
    have f0 := R3.fz 0
    have f1 := R3.fz 1
    have c3 := R3.at0
    have c4 := R3.at1
    have hs3 := b3.size
    have HR3 := Lib.hid R3
    have HO3 := Lib.hid o3
    have HU3 := Lib.hid u3
    have H3 := Lib.hid HB3
    clear R3 o3 u3 b3 HB3 c1 c0'
    dsimp only
    by_cases hk : brk t = 0
    · have HW := Lib.hid (wrt_ok HF.out hk)
      have HE := Lib.hid (er_three hk)
      have HK := Lib.hid hk
      rw [HE.out]
      clear hk
      go_wp2
      go_ret2
      unfold DPost
      rw [HW.out]
      have s1 := Stay.set (S := fun k => k = P) w3 (p := ⟨P, 0, none⟩) (.slice A3 t.length d3) rfl
      refine ⟨vb, (Value.slice A3 t.length d3).ownBlock, rfl, ?_, ⟨hP, ⟨(.slice A3 t.length d3), HR3.out.set0 (.slice A3 t.length d3), ?_, rfl⟩, fun l' hl' => by injection hl' with hl'; subst hl'; exact ⟨FT.out, HK.out⟩, IT.out⟩, .inr (fun k hk => by have := (HU3.out.lt hk).1; omega), (Stay.of_below _ H3.out).trans s1⟩
      · exact OL.low (OL.stay HO3.out s1 (fun g hg c => by have := (OL.lt HO3.out g hg).1; omega) (fun k hk _ _ c => by omega)) (by omega)
      · exact (HU3.out.stay s1 (fun g hg c => by have := (HU3.out.lt hg).1; omega)).mono (by omega)
    · have HW := Lib.hid (wrt_bad HF.out hk)
      have HE := Lib.hid (er_bad hk)
      have d1 : (brk t == 3) = false := by have := brk_three_not t; simpa using this
      rw [HE.out]
      clear hk
      generalize hq : brk t = q at *
      go_wp2
      go_ret2
      unfold DPost
      rw [HW.out]
      have s1 := fun (S : Nat → Prop) (hs : S P) => ((Stay.set (S := S) w3 (p := ⟨P, 0, none⟩) (.slice A3 t.length d3) hs).trans (Stay.set (w3.setCell ⟨P, 0, none⟩ (.slice A3 t.length d3)) (p := ⟨P, 0, none⟩) (.slice none 0 0) hs)).trans (Stay.set ((w3.setCell ⟨P, 0, none⟩ (.slice A3 t.length d3)).setCell ⟨P, 0, none⟩ (.slice none 0 0)) (p := ⟨P, 1, none⟩) (.bool true) hs)
      refine ⟨vb, none, rfl, ?_, ⟨hP, ⟨_, ((HR3.out.set0 (.slice A3 t.length d3)).set0 (.slice none 0 0)).set1 true, Wd.Own.nil, rfl⟩, wt_closed, fun x hx => by simp [lft] at hx⟩, .inr (fun k e => by cases e), (Stay.of_below _ H3.out).trans (s1 _ rfl)⟩
      have q1 := OL.stay HO3.out (s1 (fun k => k = P) rfl) (fun g hg c => by have := (OL.lt HO3.out g hg).1; omega) (fun k hk _ _ c => by omega)
      exact OL.mono (OL.low q1 (by omega)) (fun k _ e => by cases e)
end Fa
end Go.Proofs.YtigiiofiajhnlaaGreatDoor
