/-
  Numbers' texts as bytes: what ValueNumbers reads off them.
-/
import Derived.Test.YtlgeibaejeiemaaDoorVx
namespace Go.Proofs.YtlgeibaejeiemaaDoor
set_option linter.unusedVariables false
set_option linter.unusedSimpArgs false
open Go.RowKit
namespace Vt
open Wd We
open Dm (decs Ds)

theorem cut_one (l : List Int) (k : Nat) (hk : k = l.length + 1) : (Dm.bs (45 :: l)).extract 1 k = Dm.bs l := by
  subst hk
  apply ByteArray.ext
  rw [ByteArray.data_extract]
  unfold Dm.bs
  simp [List.extract_toArray]
  exact List.take_of_length_le (by simp)
theorem byte_at {l : List Int} {q : Nat} {x : Int} (hx : l[q]? = some x) (h0 : 0 ≤ x) (h1 : x ≤ 255) (h : q < (Dm.bs l).size) : (((Dm.bs l)[q]'h).toNat : Int) = x := by
  have hj : q < l.length := (List.getElem?_eq_some_iff.1 hx).1
  have e : (Dm.bs l)[q]'h = UInt8.ofNat x.toNat := by
    show (Dm.bs l).data[q]'_ = _
    rw [List.getElem?_eq_getElem hj] at hx
    injection hx with hx
    simp [Dm.bs, hx]
  rw [e, UInt8.toNat_ofNat']; omega
/-- the first digit is a nought only if it is the only one -/
theorem decs_first (n : Nat) : (decs n).length = 1 ∨ (decs n).head? ≠ some 48 := by
  by_cases h : n = 0
  · subst h; exact .inl (by rw [Dm.decs_one (by omega)]; rfl)
  · exact .inr (Dm.decs_head (by omega))
theorem isB_decs (n : Nat) : IsB (decs n) := (Dm.ds_decs n).isB
theorem numT_inj {a b : Int} (h : numT a = numT b) : a = b := by
  have key : ∀ {l m : List Int}, IsB l → IsB m → Dm.bs l = Dm.bs m → l = m := fun hl hm e => by
    have := Dm.bs_eq hl hm
    rw [e] at this
    simpa using this.symm
  have i45 : ∀ n, IsB (45 :: decs n) := fun n x hx => by
    rcases List.mem_cons.1 hx with rfl | hx
    · omega
    · exact isB_decs n x hx
  have hd : ∀ n, ∀ x ∈ decs n, 48 ≤ x ∧ x ≤ 57 := fun n x hx => Dm.ds_decs n x hx
  unfold numT at h
  by_cases ha : a < 0 <;> by_cases hb : b < 0
  · rw [if_pos ha, if_pos hb] at h
    have := key (i45 _) (i45 _) h
    injection this with _ h2
    have := Dm.decs_inj h2
    omega
  · rw [if_pos ha, if_neg hb] at h
    have h1 := key (i45 _) (isB_decs _) h
    have := hd b.natAbs 45 (by rw [← h1]; exact List.mem_cons_self)
    omega
  · rw [if_neg ha, if_pos hb] at h
    have h1 := key (isB_decs _) (i45 _) h
    have := hd a.natAbs 45 (by rw [h1]; exact List.mem_cons_self)
    omega
  · rw [if_neg ha, if_neg hb] at h
    have := Dm.decs_inj (key (isB_decs _) (isB_decs _) h)
    omega
theorem alk_num {a b : Int} : alk (num a) (num b) = decide (a = b) := by
  by_cases h : a = b
  · subst h; rw [alk_self]; simp
  · rw [decide_eq_false h]
    refine alk_no fun g => h (numT_inj ?_)
    unfold num at g
    injection g
theorem chk_num (x : Int) : chk (num x) = 0 := chk_ok (by unfold num; rw [may_mk]; simp) (by unfold num; rw [dep_plain]; omega)
theorem num_kind (x : Int) : num x = .mk 2 false (numT x) [] [] := rfl
theorem vl_lens {w : World} {k : Int} {b : Bool} {s : ByteArray} {A : Option Addr} {m c : Nat} {B : Option Addr} {q d : Nat} {t : Tr} (h : Vl w (.agg #[.int .i64 k, .bool b, .string s, .slice A m c, .slice B q d]) t) :
    t.list.length = m ∧ t.names.length = q ∧ m ≤ 1759218604390 ∧ q ≤ 8796093022208 := by
  obtain ⟨l, n, rfl, hl, hn, _⟩ := h.list
  have := hl.small; have := hn.small
  exact ⟨hl.len, hn.len, by omega, by omega⟩
theorem vl_kinds {w : World} {v : Value} {t : Tr} (h : Vl w v t) : ∀ x ∈ t.list, -9223372036854775808 ≤ x.kind ∧ x.kind ≤ 9223372036854775807 := by
  obtain ⟨A, m, c, B, q, d, rfl, hl, hn, hk, hs⟩ := h.open_
  intro x hx
  obtain ⟨i, hi, rfl⟩ := List.mem_iff_getElem.1 hx
  obtain ⟨g, off, t', A', m', c', B', q', d', _, ht, _, _, _, _, _, hv⟩ := hl.look (i := i) (by rw [← hl.len]; exact hi)
  rw [List.getElem?_eq_getElem hi] at ht
  injection ht with ht
  rw [ht]
  obtain ⟨_, _, _, _, _, _, _, _, _, hk', _⟩ := hv.open_
  exact hk'
/-- two new blocks, a value put in each -/
theorem newboxes {w U1 U2 : World} {R1 R2 : Nat} (h1 : w.heap.size = R1) (h2 : R1 + 1 = R2) (hU1 : w.alloc (.cells #[.int .i64 0, .bool false, .string ⟨#[]⟩, .slice none 0 0, .slice none 0 0] 25) = U1) (hU2 : U1.alloc (.cells #[.int .i64 0, .bool false, .string ⟨#[]⟩, .slice none 0 0, .slice none 0 0] 25) = U2) (a b s x y a' b' s' x' y' : Value) :
    Bx U2 R1 (.int .i64 0) (.bool false) (.string ⟨#[]⟩) (.slice none 0 0) (.slice none 0 0) ∧ Bx U2 R2 (.int .i64 0) (.bool false) (.string ⟨#[]⟩) (.slice none 0 0) (.slice none 0 0) ∧ Bx (put5 U2 R1 a b s x y) R2 (.int .i64 0) (.bool false) (.string ⟨#[]⟩) (.slice none 0 0) (.slice none 0 0) ∧
    Bx (put5 (put5 U2 R1 a b s x y) R2 a' b' s' x' y') R1 a b s x y ∧ Bx (put5 (put5 U2 R1 a b s x y) R2 a' b' s' x' y') R2 a' b' s' x' y' ∧ Below w.heap.size w (put5 (put5 U2 R1 a b s x y) R2 a' b' s' x' y') ∧ (put5 (put5 U2 R1 a b s x y) R2 a' b' s' x' y').heap.size = R2 + 1 := by
  have b1 : Below w.heap.size w U1 := by rw [← hU1]; exact below_allocV w _
  have b2 : Below U1.heap.size U1 U2 := by rw [← hU2]; exact below_allocV U1 _
  have z1 : U1.heap.size = R2 := by rw [← hU1, World.size_alloc]; omega
  have z2 : U2.heap.size = R2 + 1 := by rw [← hU2, World.size_alloc, z1]
  have x1 : Bx U1 R1 (.int .i64 0) (.bool false) (.string ⟨#[]⟩) (.slice none 0 0) (.slice none 0 0) := by rw [← hU1, ← h1]; exact heap_alloc_new w _
  have x2 : Bx U2 R2 (.int .i64 0) (.bool false) (.string ⟨#[]⟩) (.slice none 0 0) (.slice none 0 0) := by rw [← hU2, ← z1]; exact heap_alloc_new U1 _
  have x1' := x1.below b2 (by omega)
  have y1 : Bx (put5 U2 R1 a b s x y) R1 a b s x y := put5_bx x1'
  have y2 := x2.same (put5_heap (w := U2) (R := R1) (a := a) (b := b) (s := s) (x := x) (y := y) R2 (by omega))
  exact ⟨x1', x2, y2, y1.same (put5_heap R1 (by omega)), put5_bx y2, put5_below (put5_below (b1.trans (b2.mono (by omega))) (by omega)) (by omega), by rw [put5_size, put5_size, z2]⟩
end Vt
end Go.Proofs.YtlgeibaejeiemaaDoor
