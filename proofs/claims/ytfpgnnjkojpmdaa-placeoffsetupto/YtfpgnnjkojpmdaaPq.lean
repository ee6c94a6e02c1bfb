/-
  Maps of layer 4 (the program's, the document's) whose blocks lie behind a bound; what a store to another block leaves.
-/
import Derived.Test.YtfpgnnjkojpmdaaPg
namespace Go.Proofs.Ytfpgnnjkojpmdaa
set_option linter.unusedVariables false
set_option linter.unusedSimpArgs false
open Go.RowKit Go.Shelf
namespace Pc
open Utf Wd Wr We Wi Lm Lc Uw

theorem Blk.kept {t : TypeId} {W W' : World} {M : Nat} {vs : Array Value} {row : Option Nat} (h : Blk t W M vs) (hg : W.grownBy W' row) (hne : some M ≠ row) : Blk t W' M vs := (hg.block M h.lt hne).trans h
theorem Duo.kept {t : TypeId} {W W' : World} {M : Nat} {a b : Value} {row : Option Nat} (h : Duo t W M a b) (hg : W.grownBy W' row) (hne : some M ≠ row) : Duo t W' M a b := (hg.block M h.lt hne).trans h
theorem row_kept {k : IntKind} {w w' : World} {A : Option Addr} {n : Nat} {l : List Int} {g : Nat} (h : Row k w A n l) (hg : w.grownBy w' (some g)) (hA : ∀ x, A = some x → x.block ≠ g) : Row k w' A n l := by
  refine ⟨h.1, fun hne => ?_⟩
  obtain ⟨b, off, rfl, hc⟩ := h.2 hne
  refine ⟨b, off, rfl, fun j x hx => ?_⟩
  have h1 := hc j x hx
  exact cell_grown hg h1 (fun e => by injection e with e; exact hA _ rfl e)
theorem sl_kept {k : IntKind} {w w' : World} {A : Option Addr} {n c : Nat} {l : List Int} {g : Nat} (h : Sl k w A n c l) (hg : w.grownBy w' (some g)) (hA : ∀ x, A = some x → x.block ≠ g) : Sl k w' A n c l :=
  ⟨row_kept h.row hg hA, h.le, h.max, h.nil⟩
theorem Idx.kept {w w' : World} {B P g : Nat} {L : List (Nat × Nat)} (h : Idx w B P L) (hg : w.grownBy w' (some g)) (hB : g < B) : Idx w' B P L := by
  obtain ⟨h1, v, h2, h3⟩ := h
  refine ⟨h1, v, h2.kept hg (fun e => by injection e with e; omega), World.ownsRow.kept h3 hg ?_⟩
  cases hv : v.ownBlock with
  | none => exact .inl rfl
  | some x => exact .inr (fun e => by injection e with e; have := (World.ownsRow.lt h3 x hv).1; omega)
theorem Sp.keptB {W W' : World} {B g : Nat} {v : Value} {L : List (Nat × Nat)} (h : Sp W B v L) (hg : W.grownBy W' (some g)) (hB : g < B) : Sp W' B v L := by
  refine World.ownsRow.kept h hg ?_
  cases hv : v.ownBlock with
  | none => exact .inl rfl
  | some x => exact .inr (fun e => by injection e with e; have := (World.ownsRow.lt h x hv).1; omega)
theorem Bi.keptB {W W' : World} {B X g : Nat} {vw vp : Value} {Lw Lp : List (Nat × Nat)} (h : Bi W B X vw vp Lw Lp) (hg : W.grownBy W' (some g)) (hB : g < B) : Bi W' B X vw vp Lw Lp :=
  ⟨h.two.kept hg (fun e => by injection e with e; have := h.lo; omega), Sp.keptB h.rw_ hg hB, Sp.keptB h.rp hg hB, h.ap, h.lo⟩

/-- all that a map is made of lies at B or behind it -/
structure MpF (w : World) (B M P : Nat) (A : Addr) (c : Nat) (cs : List Int) : Prop where
  mp : Mp w M P A c cs
  m : B ≤ M
  a : B ≤ A.block
  i : ∃ B', B ≤ B' ∧ Idx w B' P (lns (encs cs))
theorem MpF.ext {w w' : World} {B M P : Nat} {A : Addr} {c : Nat} {cs : List Int} (h : MpF w B M P A c cs) (hb : Below w.heap.size w w') : MpF w' B M P A c cs := by
  obtain ⟨B', h1, h2⟩ := h.i
  exact ⟨h.mp.ext hb, h.m, h.a, B', h1, h2.ext hb⟩
theorem MpF.kept {w w' : World} {B M P g : Nat} {A : Addr} {c : Nat} {cs : List Int} (h : MpF w B M P A c cs) (hg : w.grownBy w' (some g)) (hB : g < B) : Mp w' M P A c cs := by
  obtain ⟨B', h1, h2⟩ := h.i
  have hm := h.m
  have ha := h.a
  exact ⟨h.mp.duo.kept hg (fun e => by injection e with e; omega), ⟨B', Idx.kept h2 hg (by omega)⟩, sl_kept h.mp.sl hg (fun x e => by cases e; omega), h.mp.ch, h.mp.few, h.mp.spot⟩
structure RmF (w : World) (B R X : Nat) (A : Option Addr) (c : Nat) (cs : List Int) : Prop where
  rm : Rm w R X A c cs
  m : B ≤ R
  a : ∀ x, A = some x → B ≤ x.block
  i : ∃ B' vw vp, B ≤ B' ∧ Bi w B' X vw vp (whs (encs cs)) (lns (encs cs))
theorem RmF.ext {w w' : World} {B M X : Nat} {A : Option Addr} {c : Nat} {cs : List Int} (h : RmF w B M X A c cs) (hb : Below w.heap.size w w') : RmF w' B M X A c cs := by
  obtain ⟨B', vw, vp, h1, h2⟩ := h.i
  exact ⟨h.rm.ext hb, h.m, h.a, B', vw, vp, h1, h2.ext hb⟩
theorem RmF.kept {w w' : World} {B R X g : Nat} {A : Option Addr} {c : Nat} {cs : List Int} (h : RmF w B R X A c cs) (hg : w.grownBy w' (some g)) (hB : g < B) : Rm w' R X A c cs := by
  obtain ⟨B', vw, vp, h1, h2⟩ := h.i
  have hm := h.m
  exact ⟨h.rm.duo.kept hg (fun e => by injection e with e; omega), ⟨B', vw, vp, Bi.keptB h2 hg (by omega)⟩, sl_kept h.rm.sl hg (fun x e => by have := h.a x e; omega), h.rm.ch, h.rm.few⟩

set_option maxRecDepth 100000 in
set_option maxHeartbeats 1600000 in
theorem pnew_far (A : Option Addr) (n c : Nat) (cs : List Int) (w : World) (hc : Chars cs) (s : Sl .u8 w A n c (encs cs)) (hn : ((Lm.ends 0 (encs cs)).length + 1) * 16 ≤ 140737488355328) (hn2 : n ≤ 140737488355328) :
    Calls Try.prog 13 #[.slice A n c] w fun r w' => ∃ M P A' c', r = .returned (.tuple #[.pointer (some ⟨M, 0, none⟩), .int .i64 0]) ∧ MpF w' w.heap.size M P A' c' cs ∧ Below w.heap.size w w' := by
  obtain ⟨i0, hi, hz0, hz1, hz2⟩ := info_parts u8_info
  have hlen := s.len
  have S := Lib.hid s
  have K := Lib.hid (chk_encs hc)
  have HL := Lib.hid hlen
  have HC := Lib.hid hc
  clear s hlen hc
  go_enter Try.func13, Try.ntmps13
  go_wp2_with fail
  refine (new_few _ _ _ _ _ S.out (encs_byte cs) K.out hn).mono ?_
  rintro r w1 ⟨P, rfl, hI, hb1⟩
  have I1 := Lib.hid hI
  have B1 := Lib.hid hb1
  have S1 := Lib.hid ((S.out.below hb1).alloc (.cells #[] 5))
  have O1 := Lib.hid (show Wd.Own .u8 5 (w1.alloc (.cells #[] 5)) w1.heap.size (.slice (some ⟨w1.heap.size, 0, none⟩) 0 0) [] from Wd.Own.new w1 [] 5 .u8 (by simp) (Nat.le_refl _))
  clear hI hb1
  go_wp2_with (at_builtin; refine wp_app_at rfl _ _ _ rfl w1.heap.size Try.underlying22 hi hz0 hz1 hz2 rfl (v := .slice (some ⟨w1.heap.size, 0, none⟩) 0 0) (l := []) rfl O1.out rfl S1.out (by simp; omega) (by simp [maxLen]; omega) (by simp) ?_; intro v1 w2 ho hb _ hat; obtain ⟨g, c', rfl, s2⟩ := own_form ho (by rcases hat with h | h <;> rw [h] <;> simp [Value.ownBlock]))
  rw [List.nil_append] at s2
  have hgb : w1.heap.size ≤ g := (Wd.Own.lt ho rfl).1
  have hbw : Below w1.heap.size w1 w2 := ((Below.refl _ w1).alloc (Nat.le_refl _) _).trans hb
  have hba := ext_trans hbw (below_alloc w2 (.cells #[.pointer (some ⟨P, 0, none⟩), .slice (some ⟨g, 0, none⟩) (encs cs).length c'] 74))
  have R := Lib.hid (ext_trans B1.out hba)
  have hz := B1.out.size
  have hz2' := hbw.size
  have MM := Lib.hid (show MpF (w2.alloc (.cells #[.pointer (some ⟨P, 0, none⟩), .slice (some ⟨g, 0, none⟩) (encs cs).length c'] 74)) w.heap.size w2.heap.size P ⟨g, 0, none⟩ c' cs from
    ⟨⟨Duo.new _ _ _ _, ⟨_, I1.out.ext hba⟩, s2.alloc _, HC.out, by have := HL.out; omega, ⟨g, 0, rfl⟩⟩, by omega, by show w.heap.size ≤ g; omega, _, Nat.le_refl _, I1.out.ext hba⟩)
  clear ho hb hat s2 hbw hba
  go_ret2
  exact ⟨_, _, _, _, rfl, MM.out, R.out⟩
set_option maxRecDepth 100000 in
set_option maxHeartbeats 1600000 in
theorem rnew4_far (A : Option Addr) (n c : Nat) (cs : List Int) (w : World) (hc : Chars cs) (s : Sl .u8 w A n c (encs cs)) (hn : (n + 1) * 16 ≤ 140737488355328) :
    Calls Try.prog 14 #[.slice A n c] w fun r w' => ∃ R X A' c', r = .returned (.tuple #[.pointer (some ⟨R, 0, none⟩), .int .i64 0]) ∧ RmF w' w.heap.size R X A' c' cs ∧ Below w.heap.size w w' := by
  have HL := Lib.hid s.len
  have S := Lib.hid s
  have K := Lib.hid (chk_encs hc)
  have HC := Lib.hid hc
  clear s hc
  go_enter Try.func14, Try.ntmps14
  go_wp2_with fail
  refine (rnew_ok _ _ _ _ _ S.out (encs_byte cs) K.out hn).mono ?_
  rintro r w1 ⟨X, vw, vp, rfl, hI, hb1⟩
  have I1 := Lib.hid hI
  have B1 := Lib.hid hb1
  have S1 := Lib.hid (S.out.below hb1)
  clear hI hb1
  go_wp2_with fail
  refine (copy_any _ _ _ _ _ S1.out (by omega)).mono ?_
  rintro r w2 ⟨v, rfl, ho, hb⟩
  obtain ⟨A', c', rfl, s2, hAb⟩ := ho.sl
  have hba := ext_trans hb (below_alloc w2 (.cells #[.slice A' (encs cs).length c', .pointer (some ⟨X, 0, none⟩)] 79))
  have R := Lib.hid (ext_trans B1.out hba)
  have hz := B1.out.size
  have hz2 := hb.size
  have MM := Lib.hid (show RmF (w2.alloc (.cells #[.slice A' (encs cs).length c', .pointer (some ⟨X, 0, none⟩)] 79)) w.heap.size w2.heap.size X A' c' cs from
    ⟨⟨Duo.new _ _ _ _, ⟨_, _, _, I1.out.ext hba⟩, s2.alloc _, HC.out, by have := HL.out; omega⟩, by omega, fun x e => by have := hAb x e; omega, _, _, _, Nat.le_refl _, I1.out.ext hba⟩)
  clear ho hb s2 hba hAb
  go_wp2
  go_ret2
  exact ⟨_, _, _, _, rfl, MM.out, R.out⟩
end Pc
end Go.Proofs.Ytfpgnnjkojpmdaa
