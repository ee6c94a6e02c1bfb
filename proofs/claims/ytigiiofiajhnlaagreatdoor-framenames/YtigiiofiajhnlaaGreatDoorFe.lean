/-
  What Write of package frame computes.
-/
import Derived.Test.YtigiiofiajhnlaaGreatDoorFd
namespace Go.Proofs.YtigiiofiajhnlaaGreatDoor
set_option linter.unusedVariables false
set_option linter.unusedSimpArgs false
open Go.RowKit Go.Shelf
namespace Fa
open Wd We Dm Dc Dd Hm Hb He Fm

theorem env_stay {wb w : World} (env : Env wb) (hb : Below wb.heap.size wb w) : Env w := env.below hb

set_option maxRecDepth 100000 in
set_option maxHeartbeats 4000000 in
theorem write_open (wb w : World) (B P : Nat) (g : Option Nat) (A : Option Addr) (n c : Nat) (l b : List Int) (env : Env wb) (hwb : Below wb.heap.size wb w) (hBb : wb.heap.size ≤ B) (hB : B ≤ w.heap.size) (r : RdM w B P (some l) g) (sb : Sl .u8 w A n c b) (ib : IsB b) (hn : n ≤ 140737488360000) :
    Calls Tryz.prog 4 #[.pointer (some ⟨P, 0, none⟩), .slice A n c] w (WPost w B P g (wrt (some l) b)) := by
  obtain ⟨i0, hi, hz0, hz1, hz2⟩ := info_parts u8_info
  have hw := wait_le r
  have hP := r.lo
  have hPl := r.lt
  have hG := Lib.hid r.g_lt
  obtain ⟨v, h1, h2, h3⟩ := r.rd
  have hl : IsB l := r.ib
  obtain ⟨A0, c0, rfl, _, _⟩ := h2.sl
  have hw : l.length < 66048 := hw
  have CON := Lib.hid (stands_any w P _ _ h1)
  have hbl := sb.len
  have R := Lib.hid (show Rdr w P 1 (.slice A0 l.length c0) from h1)
  have O := Lib.hid (show Wd.Own .u8 5 w B (.slice A0 l.length c0) l from h2)
  have HG := Lib.hid (show (Value.slice A0 l.length c0).ownBlock = g from h3)
  have S := Lib.hid sb
  have c1 := h1.at1
  simp only [lft] at c1
  have hlb := Lib.hid (hl.append ib)
  have hwB := Lib.hid hwb
  have E := Lib.hid env
  obtain ⟨xs, t, hf⟩ : ∃ xs t, frs (l ++ b) = (xs, t) := ⟨_, _, rfl⟩
  have HF := Lib.hid hf
  have hib := frs_isB hlb.out
  have hft := frs_left (l ++ b)
  rw [hf] at hib hft
  have IT := Lib.hid hib.2
  have FT := Lib.hid hft
  clear r h1 h2 h3 sb hwb env hf hib hft hl ib
  go_enter Tryz.func4, Tryz.ntmps4
  go_wp2_with fail
  refine CON.out.mono ?_
  rintro e w' ⟨rfl, rfl⟩
  simp only [sti]
  go_wp2_with (at_builtin; refine wp_bytes rfl _ _ _ rfl B Tryz.underlying27 hi hz0 hz1 hz2 rfl (v := .slice A0 l.length c0) (l := l) rfl O.out rfl S.out (by unfold maxLen; omega) (by omega) hB ?_; intro v1 w1 ho1 hb1 hg1 hat1; obtain ⟨A1, d1, hv1, _, _⟩ := ho1.sl; rw [List.length_append, hbl] at hv1; subst hv1; have hR1 := Rdr.stay R.out (S := fun k => g = some k) (Stay.grown hg1 (fun k e => HG.out.symm.trans e)) (fun e => (hG.out P e).2.2 rfl); have c2 := hR1.at1; have f2 := hR1.fz 1)
  have hlw1 := hb1.size
  have hne1 : (Value.slice A1 (l.length + n) d1).ownBlock ≠ some P := hR1.not_row ho1 (by decide)
  have R2 := hR1.set1 (.slice A1 (l.length + n) d1)
  have O2 := ho1.stay (S := fun k => k = P) (Stay.set w1 (p := ⟨P, 1, none⟩) (.slice A1 (l.length + n) d1) rfl) (fun k hk c => hne1 (by rw [hk, c]))
  have hb2 := (hwB.out.trans (hb1.mono hBb)).setCell (p := ⟨P, 1, none⟩) (show wb.heap.size ≤ P by omega) (.slice A1 (l.length + n) d1)
  have st2 := (Stay.grown (S := fun k => k = P ∨ g = some k) hg1 (fun k e => .inr (HG.out.symm.trans e))).trans (Stay.set w1 (p := ⟨P, 1, none⟩) (.slice A1 (l.length + n) d1) (.inl rfl))
  have hat2 : ∀ k, (Value.slice A1 (l.length + n) d1).ownBlock = some k → g = some k ∨ w.heap.size ≤ k := by
    intro k hk
    rcases hat1 with e | ⟨q, e, hq⟩
    · left; rw [← HG.out, ← e]; exact hk
    · right; rw [e] at hk; injection hk with hk; omega
  have hsz2 : w.heap.size ≤ (w1.setCell ⟨P, 1, none⟩ (.slice A1 (l.length + n) d1)).heap.size := by rw [set_size]; exact hlw1
  clear hR1 c2 f2 ho1 hb1 hg1 hne1 c1 hlw1
  generalize w1.setCell ⟨P, 1, none⟩ (.slice A1 (l.length + n) d1) = w2 at *
  have HR2 := Lib.hid R2
  have HO2 := Lib.hid O2
  have HB2 := Lib.hid hb2
  have HS2 := Lib.hid st2
  have HA2 := Lib.hid hat2
  clear R2 O2 hb2 st2 hat2 hat1
  go_wp2_with fail
  refine (take_any w2 P 1 _ (l ++ b) B (by omega) HR2.out HO2.out hlb.out (by rw [List.length_append]; omega) (E.out.below HB2.out)).mono ?_
  rintro e w3 ⟨vb, v3, rfl, o3, r3, u3, h3, s3⟩
  rw [HF.out] at o3 u3
  obtain ⟨A3, d3, rfl, t3, _⟩ := u3.sl
  have hb3 : Below wb.heap.size wb w3 := HB2.out.trans (s3.below (by have := HB2.out.size; omega) (fun k e => by omega))
  have st3 := HS2.out.trans (s3.mono (fun k _ e => .inl e))
  have hsz3 := s3.size
  have c3 := r3.at1
  have HO3 := Lib.hid o3
  have HR3 := Lib.hid r3
  have HU3 := Lib.hid u3
  have HT3 := Lib.hid t3
  have HB3 := Lib.hid hb3
  have HS3 := Lib.hid st3
  have H3 := Lib.hid h3
  clear o3 r3 u3 t3 hb3 st3 h3 s3
  go_wp2_with fail
  refine (broken_any _ _ _ _ _ HT3.out IT.out (E.out.below HB3.out)).mono ?_
  rintro e w4 ⟨rfl, hb4⟩
  have O4 := OL.below HO3.out hb4
  have R4 := HR3.out.below hb4
  have U4 := HU3.out.below hb4 (fun g hg => (HU3.out.lt hg).2)
  have S4 := HS3.out.trans (Stay.of_below _ hb4)
  have hg4 : (Value.slice A3 t.length d3).ownBlock = g ∨ ∀ k, (Value.slice A3 t.length d3).ownBlock = some k → w.heap.size ≤ k := by
    rcases H3.out with e | e
    · rw [e]
      cases hq : (Value.slice A1 (l.length + n) d1).ownBlock with
      | none => right; intro k hk; cases hk
      | some q =>
        rcases HA2.out q hq with h | h
        · left; exact h.symm
        · right; intro k hk; injection hk with hk; omega
    · right; intro k hk; have := e k hk; omega
  have HO4 := Lib.hid O4
  have HR4 := Lib.hid R4
  have HU4 := Lib.hid U4
  have HS4 := Lib.hid S4
  have HG4 := Lib.hid hg4
  have hsz4 := hb4.size
  have c4 := R4.at1
  have f0 := R4.fz 0
  have f1 := R4.fz 1
  have c5 := R4.at0
  clear O4 R4 U4 S4 hb4 c3 hg4
  by_cases hk : brk t = 0
  · have HW := Lib.hid (wrt_ok HF.out hk)
    rw [hk]
    go_wp2
    go_ret2
    unfold WPost
    rw [HW.out]
    exact ⟨vb, (Value.slice A3 t.length d3).ownBlock, rfl, OL.low HO4.out (by omega), ⟨hP, ⟨_, HR4.out, HU4.out, rfl⟩, fun l' hl' => by injection hl' with hl'; subst hl'; exact ⟨FT.out, hk⟩, IT.out⟩, HG4.out, HS4.out⟩
  · have HW := Lib.hid (wrt_bad HF.out hk)
    have d1 : (brk t != 0) = true := by simpa using hk
    have hk' := Lib.hid hk
    clear hk
    generalize hq : brk t = q at *
    go_wp2_with fail
    go_ret2
    unfold WPost
    rw [HW.out]
    have s1 := fun (S : Nat → Prop) (hs : S P) => (Stay.set (S := S) w4 (p := ⟨P, 0, none⟩) (.int .i64 2) hs).trans (Stay.set (w4.setCell ⟨P, 0, none⟩ (.int .i64 2)) (p := ⟨P, 1, none⟩) (.slice none 0 0) hs)
    refine ⟨vb, none, rfl, ?_, ⟨hP, ⟨_, (HR4.out.set0 2).set1 (.slice none 0 0), Wd.Own.nil, rfl⟩, wt_closed, fun x hx => by simp [lft] at hx⟩, .inr (fun k e => by cases e), HS4.out.trans (s1 _ (.inl rfl))⟩
    have q1 := OL.stay HO4.out (s1 (fun k => k = P) rfl) (fun g hg c => by have := (OL.lt HO4.out g hg).1; omega) (fun k hk _ _ c => by omega)
    exact OL.mono (OL.low q1 (by omega)) (fun k _ e => by cases e)

/-- Write, whatever the reader -/
theorem write_any (wb w : World) (B P : Nat) (s : St) (g : Option Nat) (A : Option Addr) (n c : Nat) (b : List Int) (env : Env wb) (hwb : Below wb.heap.size wb w) (hBb : wb.heap.size ≤ B) (hB : B ≤ w.heap.size) (r : RdM w B P s g) (sb : Sl .u8 w A n c b) (ib : IsB b) (hn : n ≤ 140737488360000) :
    Calls Tryz.prog 4 #[.pointer (some ⟨P, 0, none⟩), .slice A n c] w (WPost w B P g (wrt s b)) := by
  cases s with
  | none => exact write_closed w B P g _ b r
  | some l => exact write_open wb w B P g A n c l b env hwb hBb hB r sb ib hn
/-- what a change of a reader leaves below the reader -/
theorem RdM.keepW {w0 w w' : World} {B P : Nat} {s : St} {g : Option Nat} (r : RdM w B P s g) (hb : Below w0.heap.size w0 w) (hB : w0.heap.size ≤ B) (st : Stay (fun k => k = P ∨ g = some k) w w') : Below w0.heap.size w0 w' :=
  hb.trans (st.below hb.size (fun k e => by have := r.lo; rcases e with e | e; omega; have := (r.g_lt k e).1; omega))
end Fa
end Go.Proofs.YtigiiofiajhnlaaGreatDoor
