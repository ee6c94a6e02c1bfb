/-
  What the library's HasPrefix, Index, Cut, Trim, IndexFunc, EqualFold of package bytes compute, in the words of lists of bytes.
-/
import Derived.Test.YtigiiofiajhnlaaGreatDoorHl
import Derived.Test.YtigiiofiajhnlaaGreatDoorHm
import Derived.Test.YtigiiofiajhnlaaGreatDoorDd
import Derived.Shelf.Strings.IndexAnyAll
namespace Go.Proofs.YtigiiofiajhnlaaGreatDoor
set_option linter.unusedVariables false
open Go.RowKit
namespace Hb
open Wd We Dm Dc Dd Hm

/-- what the calls into the library read: the longest that its search takes is some number; the tables of UTF-8 are the library's -/
structure Env (w : World) : Prop where
  ml : ∃ m, w.cell? ⟨0, 0, none⟩ = some (.int .i64 m)
  tb : Lib.Utf8Tabs 5 6 w
theorem Env.below {w w' : World} (h : Env w) (hb : Below w.heap.size w w') : Env w' :=
  ⟨by obtain ⟨m, hm⟩ := h.ml; exact ⟨m, (hb.cell (lt_of_cell hm)).trans hm⟩, Utf8Tabs_below h.tb hb⟩
theorem Env.drewN {w : World} (h : Env w) (q : Nat) : Env (w.drewN q) := ⟨h.ml, h.tb⟩

theorem bin {w : World} {A : Option Addr} {n c : Nat} {l : List Int} (s : Sl .u8 w A n c l) : Lib.BytesIn w A n l := by
  intro hn
  obtain ⟨b, off, e, hc⟩ := s.row.2 (by rintro rfl; have := s.len; simp at this; omega)
  refine ⟨b, off, e, fun i hi => ?_⟩
  have hl : i < l.length := by rw [s.len]; exact hi
  have hx : l[i]? = some l[i] := List.getElem?_eq_getElem hl
  rw [hc i _ hx]; simp [List.getD, hx]
theorem cadd {w : World} {a : Addr} {n c : Nat} {l : List Int} (s : Sl .u8 w (some a) n c l) : ∀ i, i < n → w.cell? (a.add i) = some (.int .u8 (l.getD i 0)) := by
  intro i hi
  obtain ⟨b, off, e, hc⟩ := bin s (by omega)
  injection e with e; subst e
  rw [Lib.add_plain']; exact hc i hi
theorem isB_lt {l : List Int} (h : IsB l) : ∀ x ∈ l, 0 ≤ x ∧ x < 256 := fun x hx => ⟨(h x hx).1, by have := (h x hx).2; omega⟩
theorem pre_bytes : ∀ {p l : List Int}, IsB p → IsB l → (Lib.bytesOf p).isPrefixOf (Lib.bytesOf l) = p.isPrefixOf l
  | [], l, _, _ => by simp [Lib.bytesOf]
  | a :: p, [], _, _ => by simp [Lib.bytesOf]
  | a :: p, b :: l, hp, hl => by
    have ih := pre_bytes (p := p) (l := l) (fun x hx => hp x (by simp [hx])) (fun x hx => hl x (by simp [hx]))
    show (UInt8.ofNat a.toNat == UInt8.ofNat b.toNat && (Lib.bytesOf p).isPrefixOf (Lib.bytesOf l)) = (a == b && p.isPrefixOf l)
    rw [ih]
    congr 1
    have := byte_eq (hp a (by simp)) (hl b (by simp))
    rw [Bool.eq_iff_iff, beq_iff_eq, beq_iff_eq, this]

/-- where it stands, or -1 -/
def ix (p l : List Int) : Int := match fnd p l with
  | none => -1
  | some i => (i : Int)
theorem ix_some {p l : List Int} {i : Nat} (h : fnd p l = some i) : ix p l = (i : Int) := by unfold ix; rw [h]
theorem ix_none {p l : List Int} (h : fnd p l = none) : ix p l = -1 := by unfold ix; rw [h]
theorem occ_bytes {p l : List Int} (hp : IsB p) (hl : IsB l) (j : Nat) : Lib.occAt (Lib.bytesOf l) (Lib.bytesOf p) j = p.isPrefixOf (l.drop j) := by
  unfold Lib.occAt
  rw [show (Lib.bytesOf l).drop j = Lib.bytesOf (l.drop j) by unfold Lib.bytesOf; rw [List.map_drop]]
  exact pre_bytes hp (hl.drop j)
theorem index_ix {p l : List Int} (hp : IsB p) (hl : IsB l) : Lib.index (Lib.bytesOf l) (Lib.bytesOf p) = ix p l := by
  have hlen : (Lib.bytesOf l).length = l.length := by simp [Lib.bytesOf]
  rcases Lib.index_spec (Lib.bytesOf l) (Lib.bytesOf p) with ⟨e, g⟩ | ⟨i, e, hi, ho, hn⟩
  · rw [e, ix_none]
    refine fnd_no fun j hj c => ?_
    have := g j (by rw [hlen]; exact hj)
    rw [occ_bytes hp hl, List.isPrefixOf_iff_prefix.2 c] at this; cases this
  · rw [e, ix_some (i := i)]
    refine fnd_eq (by rw [← hlen]; exact hi) (by rw [occ_bytes hp hl] at ho; exact List.isPrefixOf_iff_prefix.1 ho) (fun j hj c => ?_)
    have := hn j hj
    rw [occ_bytes hp hl, List.isPrefixOf_iff_prefix.2 c] at this; cases this

theorem hasPrefix_any (A B : Option Addr) (n c m d : Nat) (l p : List Int) (w : World) (s : Sl .u8 w A n c l) (t : Sl .u8 w B m d p) (hl : IsB l) (hp : IsB p) :
    Calls Tryz.prog 42 #[.slice A n c, .slice B m d] w fun e w' => e = .returned (.bool (p.isPrefixOf l)) ∧ w = w' := by
  refine (Any.bytes_HasPrefix_all Hl.pre_lays A B n c m d l p w s.len t.len s.le (bin s) (bin t)).mono ?_
  rintro e w' ⟨rfl, rfl⟩
  exact ⟨by unfold Lib.hasPrefix; rw [pre_bytes hp hl], rfl⟩

theorem index_any (A : Option Addr) (b : Addr) (n c m d : Nat) (l p : List Int) (w : World) (s : Sl .u8 w A n c l) (t : Sl .u8 w (some b) m d p) (hl : IsB l) (hp : IsB p) (h2 : 2 ≤ p.length) (hn : n < 4294967281) (env : Env w) :
    Calls Tryz.prog 43 #[.slice A n c, .slice (some b) m d] w fun e w' => e = .returned (.int .i64 (ix p l)) ∧ ∃ q, w' = w.drewN q := by
  have hm : m ≤ 9223372036854775807 := by have := t.max; have := t.le; unfold maxLen at *; omega
  cases A with
  | none =>
    have hc := s.nil rfl
    have hn0 : n = 0 := by have := s.le; omega
    subst hc hn0
    obtain rfl : l = [] := List.eq_nil_of_length_eq_zero s.len
    refine (Any.bytes_Index_nil Hl.idx_lays (some b) m d w hm (fun h => by have := t.len; omega)).mono ?_
    rintro e w' ⟨rfl, rfl⟩
    refine ⟨?_, 0, rfl⟩
    rw [if_neg (by have := t.len; omega), ix_none]
    refine fnd_no fun j hj c => ?_
    have := c.length_le
    simp at this; subst this; simp at h2
  | some a =>
    obtain ⟨mx, hmx⟩ := env.ml
    refine (Any.bytes_Index_at Hl.idx_lays a b n c m d l p mx w s.len t.len (isB_lt hl) (isB_lt hp) (cadd s) (cadd t) s.le hn hm hmx).mono ?_
    rintro e w' ⟨rfl, q, rfl⟩
    exact ⟨by rw [index_ix hp hl], q, rfl⟩

/-- what is left behind a place of a slice -/
theorem Sl.fromV {k : IntKind} {w : World} {A : Option Addr} {n c : Nat} {l : List Int} (s : Sl k w A n c l) (j : Nat) (hj : j ≤ n) : Sl k w (if c = j then A else A.map (fun x => x.add j)) (n - j) (c - j) (l.drop j) := by
  have hle := s.le
  have hmx := s.max
  split
  · rename_i h
    have e : l.drop j = [] := List.drop_eq_nil_of_le (by rw [s.len]; omega)
    rw [e, show n - j = 0 by omega, show c - j = 0 by omega]
    exact ⟨Row.nil, Nat.le_refl _, Nat.zero_le _, fun _ => rfl⟩
  · have r := s.row.cut j (n - j) (by omega)
    rw [List.take_of_length_le (by rw [List.length_drop, s.len]; exact Nat.le_refl _)] at r
    refine ⟨r, by omega, by omega, fun e => ?_⟩
    cases A with
    | none => have := s.nil rfl; omega
    | some a => cases e

theorem cut_any (A B : Option Addr) (n c m d : Nat) (l p : List Int) (w : World) (s : Sl .u8 w A n c l) (t : Sl .u8 w B m d p) (hl : IsB l) (hp : IsB p) (hn : n < 4294967281) (env : Env w) :
    Calls Tryz.prog 44 #[.slice A n c, .slice B m d] w fun e w' => e = .returned (Lib.cutV A n c m (ix p l)) ∧ ∃ q, w' = w.drewN q := by
  have hm : m ≤ 9223372036854775807 := by have := t.max; have := t.le; unfold maxLen at *; omega
  obtain ⟨mx, hmx⟩ := env.ml
  refine (Any.bytes_Cut_all Hl.cut_lays A B n c m d l p mx w s.len t.len (isB_lt hl) (isB_lt hp) (bin s) (bin t) s.nil s.le hn hm hmx).mono ?_
  rintro e w' ⟨rfl, q, rfl⟩
  exact ⟨by rw [index_ix hp hl], q, rfl⟩
theorem cut_yes (A B : Option Addr) (n c m d : Nat) (l p : List Int) (w : World) (s : Sl .u8 w A n c l) (t : Sl .u8 w B m d p) (hl : IsB l) (hp : IsB p) (hn : n < 4294967281) (env : Env w) {i : Nat} (h : fnd p l = some i) :
    Calls Tryz.prog 44 #[.slice A n c, .slice B m d] w fun e w' => ∃ A2, e = .returned (.tuple #[.slice A i c, .slice A2 (n - (i + m)) (c - (i + m)), .bool true]) ∧ Sl .u8 w A2 (n - (i + m)) (c - (i + m)) (l.drop (i + m)) ∧ ∃ q, w' = w.drewN q := by
  refine (cut_any A B n c m d l p w s t hl hp hn env).mono ?_
  rintro e w' ⟨rfl, q, rfl⟩
  refine ⟨_, ?_, Sl.fromV s (i + m) (by have := (fnd_some h).1; rw [s.len, t.len] at this; exact this), q, rfl⟩
  rw [ix_some h]
  unfold Lib.cutV
  rw [if_pos (by omega), Int.toNat_natCast]
  rfl
theorem cut_no (A B : Option Addr) (n c m d : Nat) (l p : List Int) (w : World) (s : Sl .u8 w A n c l) (t : Sl .u8 w B m d p) (hl : IsB l) (hp : IsB p) (hn : n < 4294967281) (env : Env w) (h : fnd p l = none) :
    Calls Tryz.prog 44 #[.slice A n c, .slice B m d] w fun e w' => e = .returned (.tuple #[.slice A n c, .slice none 0 0, .bool false]) ∧ ∃ q, w' = w.drewN q := by
  refine (cut_any A B n c m d l p w s t hl hp hn env).mono ?_
  rintro e w' ⟨rfl, q, rfl⟩
  refine ⟨?_, q, rfl⟩
  rw [ix_none h]
  unfold Lib.cutV
  rw [if_neg (by omega)]

theorem dw_congr {α : Type} {p q : α → Bool} : ∀ {l : List α}, (∀ x ∈ l, p x = q x) → l.dropWhile p = l.dropWhile q
  | [], _ => rfl
  | x :: l, h => by
    have ih := dw_congr (l := l) (fun y hy => h y (by simp [hy]))
    rw [List.dropWhile_cons, List.dropWhile_cons, h x (by simp), ih]
theorem bl_byte {x : Int} (h : 0 ≤ x ∧ x ≤ 255) : ([32, 9] : List UInt8).contains (UInt8.ofNat x.toNat) = isBl x := by
  have h1 := byte_eq h (y := 32) (by omega)
  have h2 := byte_eq h (y := 9) (by omega)
  have e1 : (UInt8.ofNat (32 : Int).toNat) = 32 := rfl
  have e2 : (UInt8.ofNat (9 : Int).toNat) = 9 := rfl
  rw [e1] at h1; rw [e2] at h2
  unfold isBl
  rw [Bool.eq_iff_iff, decide_eq_true_iff, ← h1, ← h2]
  simp
theorem dw_bytes {l : List Int} (h : IsB l) : (Lib.bytesOf l).dropWhile (([32, 9] : List UInt8).contains ·) = Lib.bytesOf (l.dropWhile isBl) := by
  unfold Lib.bytesOf
  rw [List.dropWhile_map]
  congr 1
  exact dw_congr fun x hx => bl_byte (h x hx)
theorem isB_rev {l : List Int} (h : IsB l) : IsB l.reverse := fun x hx => h x (List.mem_reverse.1 hx)
theorem isB_dw {l : List Int} {p : Int → Bool} (h : IsB l) : IsB (l.dropWhile p) := fun x hx => h x ((List.dropWhile_sublist p).subset hx)
theorem len_bytes (l : List Int) : (Lib.bytesOf l).length = l.length := by simp [Lib.bytesOf]

theorem ascii_bl : ∀ (j : Nat) (b : UInt8), (⟨#[32, 9]⟩ : ByteArray).data.toList[j]? = some b → b.toNat < 128 := fun j b h => by
  have hm : b ∈ ([32, 9] : List UInt8) := List.mem_of_getElem? h
  simp at hm
  rcases hm with rfl | rfl <;> decide

theorem trim_any (A : Option Addr) (n c : Nat) (l : List Int) (w : World) (s : Sl .u8 w A n c l) (hl : IsB l) :
    Calls Tryz.prog 60 #[.slice A n c, .string ⟨#[32, 9]⟩] w fun e w' => ∃ A' n' c', e = .returned (.slice A' n' c') ∧ Sl .u8 w A' n' c' (trm l) ∧ Below w.heap.size w w' := by
  have hle := s.le
  have hmx := s.max
  refine (Any.bytes_Trim_laid Hl.trim_lays (by kernel_rfl) A n c l ⟨#[32, 9]⟩ w s.len s.le (by unfold maxLen at hmx; omega) (bin s) (isB_lt hl) (by decide) ascii_bl).mono ?_
  rintro e w' ⟨rfl, hb⟩
  have e1 : Lib.trimRightS (Lib.bytesOf l) [32, 9] = Lib.bytesOf (l.reverse.dropWhile isBl).reverse := by
    unfold Lib.trimRightS
    have := dw_bytes (isB_rev hl)
    rw [show (Lib.bytesOf l).reverse = Lib.bytesOf l.reverse by unfold Lib.bytesOf; rw [List.map_reverse], this]
    unfold Lib.bytesOf; rw [List.map_reverse]
  have hr : IsB (l.reverse.dropWhile isBl).reverse := isB_rev (isB_dw (isB_rev hl))
  have e2 : Lib.trimS (Lib.bytesOf l) [32, 9] = Lib.bytesOf (trm l) := by
    unfold Lib.trimS; rw [e1]; exact dw_bytes hr
  show ∃ A' n' c', Ending.returned (Lib.leftV A (Lib.trimRightS (Lib.bytesOf l) [32, 9]).length c ((Lib.trimRightS (Lib.bytesOf l) [32, 9]).length - (Lib.trimS (Lib.bytesOf l) [32, 9]).length)) = _ ∧ _
  rw [e1, e2, len_bytes, len_bytes]
  have p1 : (l.reverse.dropWhile isBl).reverse <+: l := by
    have := List.reverse_prefix.2 (List.dropWhile_suffix (l := l.reverse) isBl)
    rwa [List.reverse_reverse] at this
  have p2 : trm l <:+ (l.reverse.dropWhile isBl).reverse := List.dropWhile_suffix _
  generalize (l.reverse.dropWhile isBl).reverse = r at *
  generalize trm l = t at *
  have r1 := p1.length_le
  have r2 := p2.length_le
  have er : r = l.take r.length := List.prefix_iff_eq_take.1 p1
  have et : t = r.drop (r.length - t.length) := List.suffix_iff_eq_drop.1 p2
  unfold Lib.leftV
  split
  · rename_i h
    have : t = [] := by rw [et, h, List.drop_length]
    exact ⟨_, _, _, rfl, by rw [this]; exact Sl.none_, hb⟩
  · refine ⟨_, _, _, rfl, ?_, hb⟩
    have s1 := s.cut0 r.length (by rw [← s.len]; exact r1)
    rw [← er] at s1
    have s2 := Sl.fromV s1 (r.length - t.length) (by omega)
    rwa [← et] at s2
end Hb
end Go.Proofs.YtigiiofiajhnlaaGreatDoor
