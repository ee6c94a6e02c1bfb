/-
  What the statements' reads (layer 7) computes.
-/
import Derived.Test.YtigiiofiajhnlaaDoorFj
namespace Go.Proofs.YtigiiofiajhnlaaDoor
set_option linter.unusedVariables false
set_option linter.unusedSimpArgs false
open Go.RowKit Go.Shelf
namespace Fa
open Wd We Dm Dc Dd Hm Hb He Fm

/-- what lies apart from a reader lies on through its Write -/
theorem OL.write {w w' : World} {B B' P : Nat} {s : St} {g : Option Nat} {X : Nat → Prop} {v : Value} {ls : List (List Int)} (o : OL 27 5 w B' X v ls) (r : RdM w B P s g) (hX : ∀ k, X k → k ≠ P ∧ g ≠ some k) (st : Stay (fun k => k = P ∨ g = some k) w w') : OL 27 5 w' B' X v ls := by
  obtain ⟨u, h1, h2, h3⟩ := r.rd
  obtain ⟨vs, hrow, _⟩ := id o
  refine OL.stay o st (fun k hk c => ?_) (fun k _ _ hx c => ?_)
  · rcases c with c | c
    · exact h1.not_row hrow (by decide) (by rw [hk, c])
    · exact row_ne hrow h2 (by decide) k hk (by rw [h3, c])
  · rcases c with c | c
    · exact (hX k hx).1 c
    · exact (hX k hx).2 c

theorem RdM.app2 {w w' : World} {B B' P m : Nat} {s : St} {g : Option Nat} {v : Value} {xs : List Value} (h : RdM w B P s g) (ho : w.ownsRow B' 27 1 v m xs) (hg : w.grownBy w' v.ownBlock) : RdM w' B P s g := by
  obtain ⟨u, h1, h2, h3⟩ := h.rd
  exact h.stay (S := fun k => v.ownBlock = some k) (Stay.grown hg (fun k e => e)) (h1.not_row ho (by decide)) (fun k e c => row_ne ho h2 (by decide) k c (by rw [h3, e]))
theorem row_slice {w : World} {B : Nat} {e : TypeId} {v : Value} {n : Nat} {xs : List Value} (h : w.ownsRow B e 1 v n xs) : ∃ A c, v = .slice A n c ∧ (A = none → n = 0 ∧ c = 0) ∧ ∀ ad, A = some ad → ∀ j u, xs[j]? = some u → w.cell? (ad.add j) = some u := by
  rcases id h.2 with ⟨rfl, rfl⟩ | ⟨g, cap, cur, rfl, _⟩
  · exact ⟨none, 0, rfl, fun _ => ⟨rfl, rfl⟩, fun ad e => by cases e⟩
  · exact ⟨some ⟨g, 0, none⟩, cap, rfl, (fun e => by cases e), fun ad e => by cases e; exact h.cells (g := g) rfl⟩
theorem els_cell {w : World} {B : Nat} {e : TypeId} {X : Nat → Prop} {xs : List (List Int)} {us : List Value} (hl : us.length = xs.length) (h : ∀ (i : Nat) (l : List Int), xs[i]? = some l → ∃ x, us[i]? = some x ∧ Wd.Own .u8 e w B x l ∧ ∀ q, x.ownBlock = some q → X q) : ∀ u ∈ us, u.oneCell' = true := by
  intro u hu
  obtain ⟨i, hi, rfl⟩ := List.getElem_of_mem hu
  obtain ⟨x, h1, h2, _⟩ := h i xs[i] (List.getElem?_eq_getElem (by omega))
  rw [List.getElem?_eq_getElem hi] at h1
  injection h1 with h1
  obtain ⟨A, c, e, _, _⟩ := h2.sl
  rw [h1, e]; rfl
/-- what pieces bring as numbers fits -/
theorem rds_len (s : St) (last : Int) (ps : List (List Int)) : (rds s last ps).1.length * 18 ≤ (lft s).length + ps.flatten.length := by
  induction ps generalizing s last with
  | nil => simp [rds_nil]
  | cons p ps ih =>
    rw [rds_cons]
    cases s with
    | none =>
      rw [wrt_none]
      have := ih none (if (70 : Int) ≠ 0 ∧ (70 : Int) ≠ 70 then 70 else last)
      simp at this ⊢
      omega
    | some l =>
      have hf := frs_len (l ++ p)
      by_cases hb : brk (frs (l ++ p)).2 = 0
      · rw [wrt_ok (xs := (frs (l ++ p)).1) (t := (frs (l ++ p)).2) rfl hb]
        have := ih (some (frs (l ++ p)).2) (if (0 : Int) ≠ 0 ∧ (0 : Int) ≠ 70 then 0 else last)
        simp only [lft, List.length_append, List.flatten_cons] at this hf ⊢
        omega
      · rw [wrt_bad (xs := (frs (l ++ p)).1) (t := (frs (l ++ p)).2) rfl hb]
        rw [rds_closed]
        simp only [lft, List.length_append, List.flatten_cons, List.append_nil] at hf ⊢
        omega

set_option maxRecDepth 100000 in
set_option maxHeartbeats 8000000 in
theorem reads_any (A : Option Addr) (n c : Nat) (ps : List (List Int)) (w : World) (s : LL w A n c ps) (hi : ∀ p ∈ ps, IsB p) (hf : ps.flatten.length ≤ 140737488360000) (env : Env w) :
    Calls Tryd.prog 26 #[.slice A n c] w fun e w' => ∃ v, e = .returned (.tuple #[v, .int .i64 (rds (some []) 0 ps).2.1, .int .i64 ((lft (rds (some []) 0 ps).2.2).length : Nat)]) ∧ OL 27 5 w' w.heap.size (fun _ => True) v (rds (some []) 0 ps).1 ∧ Below w.heap.size w w' := by
  obtain ⟨i0, hii, hz0, hz1, hz2⟩ := info_parts bytes_info
  have hlen := s.len
  have hmx : n ≤ 9223372036854775807 := by have := s.le; have := s.max; unfold maxLen at *; omega
  have htot := rds_len (some []) 0 ps
  have hpl : ∀ p ∈ ps, p.length ≤ 140737488360000 := fun p hp => by
    have := List.Sublist.length_le (List.sublist_flatten_of_mem hp)
    omega
  have S := Lib.hid s
  have HI := Lib.hid hi
  have HPL := Lib.hid hpl
  have E := Lib.hid env
  have HT := Lib.hid (show (rds (some []) 0 ps).1.length ≤ 7818749353340 by simp only [lft, List.length_nil] at htot; omega)
  obtain ⟨Z, hZ⟩ : ∃ Z, rds (some []) 0 ps = Z := ⟨_, rfl⟩
  have HZ := Lib.hid hZ
  rw [hZ] at HT ⊢
  clear s hi hf hpl env htot hZ
  go_enter Tryd.func26, Tryd.ntmps26
  go_wp2_with fail
  refine (new_any _).mono ?_
  rintro e w1 ⟨rfl, r1, b1⟩
  have R1 := Lib.hid r1
  have H1 := Lib.hid b1
  clear r1 b1
  obtain ⟨B, hBe⟩ : ∃ B, w.heap.size = B := ⟨_, rfl⟩
  rw [hBe] at R1 ⊢
  go_wp2
  go_loopw [6, 7, 8] (fun ov lv ix wr => ∃ (k : Nat) (st : St) (g : Option Nat) (done : List (List Int)) (last : Int), ix = .int .i64 k ∧ lv = .int .i64 last ∧ k ≤ n ∧ Hid (RdM wr B B st g) ∧ Hid (OL 27 5 wr B (fun q => q ≠ B ∧ g ≠ some q) ov done) ∧ Hid (Below w.heap.size w wr) ∧ Hid (Z = (done ++ (rds st last (ps.drop k)).1, (rds st last (ps.drop k)).2))) (fun _ _ ix _ => n - (intOf ix).toNat)
  case atStart => exact ⟨0, some [], none, [], 0, rfl, rfl, Nat.zero_le _, R1, Lib.hid (OL.nil _ _ _ _ _), H1, Lib.hid (by rw [← HZ.out]; simp)⟩
  case round =>
    obtain ⟨k, st, g, done, last, rfl, rfl, hk, hr, ho, hb, hz⟩ := hrel
    have hsB : B ≤ wr.heap.size := Nat.le_of_lt hr.out.lt
    by_cases hkn : k < n
    · have i1 : (k : Int) < (n : Int) := by omega
      obtain ⟨bb, off, X, m, cc, p, rfl, hp, hc, sx, hbb⟩ := (S.out.below hb.out).look hkn
      have hpm := List.mem_of_getElem? hp
      have hm : m ≤ 140737488360000 := by rw [← sx.len]; exact HPL.out p hpm
      have CON := Lib.hid (write_any w wr B B st g _ _ _ _ E.out hb.out (by omega) hsB hr.out sx (HI.out p hpm) hm)
      have hdr : ps.drop k = p :: ps.drop (k + 1) := by
        have hkl := (List.getElem?_eq_some_iff.1 hp).1
        rw [List.drop_eq_getElem_cons hkl]
        rw [List.getElem?_eq_getElem hkl] at hp
        injection hp with hp
        rw [hp]
      have hz2 : Z = ((done ++ (wrt st p).1) ++ (rds (wrt st p).2.2 (if (wrt st p).2.1 ≠ 0 ∧ (wrt st p).2.1 ≠ 70 then (wrt st p).2.1 else last) (ps.drop (k + 1))).1, (rds (wrt st p).2.2 (if (wrt st p).2.1 ≠ 0 ∧ (wrt st p).2.1 ≠ 70 then (wrt st p).2.1 else last) (ps.drop (k + 1))).2) := by
        rw [hz.out, hdr, rds_cons, List.append_assoc]
      have hcnt : (done ++ (wrt st p).1).length ≤ 7818749353340 := by
        have := HT.out
        rw [hz2] at this
        simp only [List.length_append] at this ⊢
        omega
      obtain ⟨xs, er, st2, hw⟩ : ∃ xs er st2, wrt st p = (xs, er, st2) := ⟨_, _, _, rfl⟩
      rw [hw] at hz2 CON
      rw [hw, List.length_append] at hcnt
      have HZ2 := Lib.hid hz2
      clear sx hp hdr hz2 hpm hw
      go_wp2_with fail
      refine CON.out.mono ?_
      rintro e w2 ⟨vb, g2, rfl, o2, r2, hg2, st'⟩
      dsimp only at o2 r2
      have hb2 := hr.out.keepW hb.out (by omega) st'
      have od := OL.write (OL.bound ho.out) hr.out (fun k h => h.1) st'
      have o2' := OL.low (OL.bound o2) hsB
      obtain ⟨vs, hrow, hel⟩ := id od
      obtain ⟨us, hrow2, hel2⟩ := id o2'
      have hsz := st'.size
      have hnew : ∀ q, g2 = some q → g = some q ∨ wr.heap.size ≤ q := fun q hq => by
        rcases hg2 with h | h
        · left; rw [← h]; exact hq
        · right; exact h q hq
      have hel' : ∀ (i : Nat) (l : List Int), done[i]? = some l → ∃ x, vs[i]? = some x ∧ Wd.Own .u8 5 w2 B x l ∧ ∀ q, x.ownBlock = some q → q ≠ B ∧ g2 ≠ some q := fun i l hil => by
        obtain ⟨x, q1, q2, q3⟩ := hel i l hil
        refine ⟨x, q1, q2, fun q hq => ?_⟩
        obtain ⟨⟨a1, a2⟩, a3, a4⟩ := q3 q hq
        refine ⟨a1, fun c => ?_⟩
        rcases hnew q c with h | h
        · exact a2 h
        · omega
      have hBlt := hr.out.lt
      have hel2' : ∀ (i : Nat) (l : List Int), xs[i]? = some l → ∃ x, us[i]? = some x ∧ Wd.Own .u8 5 w2 B x l ∧ ∀ q, x.ownBlock = some q → q ≠ B ∧ g2 ≠ some q := fun i l hil => by
        obtain ⟨vs3, hrow3, hel3⟩ := id o2
        obtain ⟨x, q1, q2, q3⟩ := hel2 i l hil
        refine ⟨x, q1, q2, fun q hq => ?_⟩
        have a := q3 q hq
        exact ⟨by have := a.2.1; omega, a.1⟩
      obtain ⟨Av, cv, rfl, hnil, hcells⟩ := row_slice hrow2
      have hul : us.length = xs.length := by have := hrow2.1; omega
      have hone := Lib.hid (els_cell hul hel2')
      have hsB2 : B ≤ w2.heap.size := by omega
      have HROW := Lib.hid hrow
      have HEL := Lib.hid hel'
      have HEL2 := Lib.hid hel2'
      have HCELLS := Lib.hid hcells
      have HNIL := Lib.hid hnil
      have R2 := Lib.hid r2
      have H2 := Lib.hid hb2
      have ic : done.length + xs.length ≤ 7818749353340 := hcnt
      have IC := Lib.hid ic
      clear o2 r2 hg2 st' od o2' hrow hel hrow2 hel2 hnew hel' hel2' hcells hnil hcnt hb2 ic hBlt
      have hcase : er = 0 ∨ er = 70 ∨ (¬ er = 0 ∧ ¬ er = 70) := by
        by_cases e0 : er = 0
        · exact .inl e0
        · by_cases e1 : er = 70
          · exact .inr (.inl e1)
          · exact .inr (.inr ⟨e0, e1⟩)
      rcases hcase with rfl | rfl | ⟨h1, h2⟩
      · have HZ3 := Lib.hid (HZ2.out.trans (by simp : _ = ((done ++ xs) ++ (rds st2 last (ps.drop (k + 1))).1, (rds st2 last (ps.drop (k + 1))).2)))
        clear HZ2
        go_wp2_with (at_builtin; refine wp_own rfl _ _ _ rfl B Tryd.underlying22 hii hz0 hz1 hz2 rfl (xs := vs) (n := done.length) rfl HROW.out (A := Av) (m := xs.length) (c := cv) (news := us) rfl hul HNIL.out HCELLS.out hone.out (by have := IC.out; unfold maxLen; omega) (by have := IC.out; omega) hsB2 ?_; intro v3 w3 o3 b3 g3 _; have O3 := Lib.hid (ol_apps (by decide) HROW.out HEL.out HEL2.out (by rw [List.length_append]; exact o3) g3); have R3 := Lib.hid (RdM.app2 R2.out HROW.out g3); have H3 := Lib.hid (H2.out.trans (b3.mono (show w.heap.size ≤ B by omega))); clear o3 b3 g3)
        go_roundw
        case rel => exact ⟨k + 1, st2, g2, done ++ xs, last, by go_num, rfl, by omega, R3, O3, H3, HZ3⟩
        case measure => simp [intOf]; omega
      · have HZ3 := Lib.hid (HZ2.out.trans (by simp : _ = ((done ++ xs) ++ (rds st2 last (ps.drop (k + 1))).1, (rds st2 last (ps.drop (k + 1))).2)))
        clear HZ2
        go_wp2_with (at_builtin; refine wp_own rfl _ _ _ rfl B Tryd.underlying22 hii hz0 hz1 hz2 rfl (xs := vs) (n := done.length) rfl HROW.out (A := Av) (m := xs.length) (c := cv) (news := us) rfl hul HNIL.out HCELLS.out hone.out (by have := IC.out; unfold maxLen; omega) (by have := IC.out; omega) hsB2 ?_; intro v3 w3 o3 b3 g3 _; have O3 := Lib.hid (ol_apps (by decide) HROW.out HEL.out HEL2.out (by rw [List.length_append]; exact o3) g3); have R3 := Lib.hid (RdM.app2 R2.out HROW.out g3); have H3 := Lib.hid (H2.out.trans (b3.mono (show w.heap.size ≤ B by omega))); clear o3 b3 g3)
        go_roundw
        case rel => exact ⟨k + 1, st2, g2, done ++ xs, last, by go_num, rfl, by omega, R3, O3, H3, HZ3⟩
        case measure => simp [intOf]; omega
      · have HZ3 := Lib.hid (HZ2.out.trans (by rw [if_pos ⟨h1, h2⟩] : _ = ((done ++ xs) ++ (rds st2 er (ps.drop (k + 1))).1, (rds st2 er (ps.drop (k + 1))).2)))
        have d1 : (er != 0) = true := by simpa using h1
        have d2 : (er != 70) = true := by simpa using h2
        clear HZ2 h1 h2
        go_wp2_with (at_builtin; refine wp_own rfl _ _ _ rfl B Tryd.underlying22 hii hz0 hz1 hz2 rfl (xs := vs) (n := done.length) rfl HROW.out (A := Av) (m := xs.length) (c := cv) (news := us) rfl hul HNIL.out HCELLS.out hone.out (by have := IC.out; unfold maxLen; omega) (by have := IC.out; omega) hsB2 ?_; intro v3 w3 o3 b3 g3 _; have O3 := Lib.hid (ol_apps (by decide) HROW.out HEL.out HEL2.out (by rw [List.length_append]; exact o3) g3); have R3 := Lib.hid (RdM.app2 R2.out HROW.out g3); have H3 := Lib.hid (H2.out.trans (b3.mono (show w.heap.size ≤ B by omega))); clear o3 b3 g3)
        go_roundw
        case rel => exact ⟨k + 1, st2, g2, done ++ xs, er, by go_num, rfl, by omega, R3, O3, H3, HZ3⟩
        case measure => simp [intOf]; omega
    · obtain rfl : k = n := by omega
      have i1 : ¬ (k : Int) < (k : Int) := by omega
      have hd : ps.drop k = [] := by rw [← hlen]; exact List.drop_length
      have hz3 := hz.out
      rw [hd, rds_nil, List.append_nil] at hz3
      have HZ3 := Lib.hid hz3
      have L := Lib.hid (left_any wr _ _ _ _ hr.out)
      clear hd hz3
      go_wp2_with fail
      refine L.out.mono ?_
      rintro e w' ⟨rfl, rfl⟩
      go_wp2
      go_ret3
      rw [HZ3.out]
      exact ⟨_, rfl, by rw [hBe]; exact OL.mono ho.out (fun _ _ => trivial), hb.out⟩
end Fa
end Go.Proofs.YtigiiofiajhnlaaDoor
