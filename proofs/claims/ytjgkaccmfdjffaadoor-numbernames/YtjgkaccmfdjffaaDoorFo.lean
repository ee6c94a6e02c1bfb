/-
  Words of memory for frames: what a change leaves; slices of slices of bytes (any; the call's own); stores into bytes; append of whatever values. Nothing of the program is named here.
-/
import Derived.Test.YtjgkaccmfdjffaaDoorWz
import Derived.RangeFuncBox
import Derived.Deep.DeepAppendWide
namespace Go.Proofs.YtjgkaccmfdjffaaDoor.Wd
set_option linter.unusedVariables false
open Go.RowKit

/-- of what was there all lies as it lay, but the blocks of S -/
structure Stay (S : Nat → Prop) (w w' : World) : Prop where
  os : w'.os = w.os
  tape : w'.tape = w.tape
  output : w'.output = w.output
  size : w.heap.size ≤ w'.heap.size
  block : ∀ k, k < w.heap.size → ¬ S k → w'.heap[k]? = w.heap[k]?
section
variable {S T : Nat → Prop} {w w' w'' : World}
theorem Stay.refl (S : Nat → Prop) (w : World) : Stay S w w := ⟨rfl, rfl, rfl, Nat.le_refl _, fun _ _ _ => rfl⟩
theorem Stay.trans (h : Stay S w w') (k : Stay S w' w'') : Stay S w w'' :=
  ⟨k.os.trans h.os, k.tape.trans h.tape, k.output.trans h.output, Nat.le_trans h.size k.size, fun i hi hs => (k.block i (Nat.lt_of_lt_of_le hi h.size) hs).trans (h.block i hi hs)⟩
theorem Stay.mono (h : Stay S w w') (hs : ∀ k, k < w.heap.size → S k → T k) : Stay T w w' := ⟨h.os, h.tape, h.output, h.size, fun k hk ht => h.block k hk (fun c => ht (hs k hk c))⟩
theorem Stay.of_below (S : Nat → Prop) (h : Below w.heap.size w w') : Stay S w w' := ⟨h.os, h.tape, h.output, h.size, fun k hk _ => h.block k hk⟩
theorem Stay.of_from {B : Nat} (h : Below B w w') (hs : ∀ k, B ≤ k → S k) : Stay S w w' := ⟨h.os, h.tape, h.output, h.size, fun k hk hn => h.block k (by rcases Nat.lt_or_ge k B with g | g; exact g; exact absurd (hs k g) hn)⟩
theorem Stay.below (h : Stay S w w') {B : Nat} (hB : B ≤ w.heap.size) (hs : ∀ k, S k → B ≤ k) : Below B w w' := ⟨h.os, h.tape, h.output, h.size, fun k hk => h.block k (by omega) (fun c => by have := hs k c; omega)⟩
theorem Stay.none_ (h : Stay S w w') (hs : ∀ k, k < w.heap.size → ¬ S k) : Below w.heap.size w w' := ⟨h.os, h.tape, h.output, h.size, fun k hk => h.block k hk (hs k hk)⟩
theorem Stay.grown {row : Option Nat} (hg : w.grownBy w' row) (hs : ∀ k, row = some k → S k) : Stay S w w' := ⟨hg.os, hg.tape, hg.output, hg.size, fun k hk hn => hg.block k hk (fun e => hn (hs k e.symm))⟩
theorem Stay.set (w : World) {p : Addr} (u : Value) (hs : S p.block) : Stay S w (w.setCell p u) := ⟨rfl, rfl, rfl, by simp [World.setCell], fun k _ hn => Below.heap_setCell _ _ _ _ (fun e => hn (by rw [e]; exact hs))⟩
theorem Stay.alloc (S : Nat → Prop) (w : World) (o : Obj) : Stay S w (w.alloc o) := Stay.of_below S ((Below.refl _ _).alloc (Nat.le_refl _) o)
theorem Stay.drewN (h : Stay S w w') (m : Nat) : Stay S w (w'.drewN m) := ⟨h.os, h.tape, h.output, h.size, h.block⟩
theorem Stay.cell (h : Stay S w w') {p : Addr} (hp : p.block < w.heap.size) (hn : ¬ S p.block) : w'.cell? p = w.cell? p := World.cell?_of_block (w := w) (h.block p.block hp hn)
end

section
variable {k : IntKind} {e : TypeId} {S : Nat → Prop} {w w' : World} {A : Option Addr} {B n c : Nat} {v : Value} {l : List Int}
theorem Row.stay (h : Row k w A n l) (hb : Stay S w w') (hs : ∀ x, A = some x → ¬ S x.block) : Row k w' A n l := by
  refine ⟨h.1, fun hn => ?_⟩
  obtain ⟨b, off, rfl, hc⟩ := h.2 hn
  exact ⟨b, off, rfl, fun j x hx => (hb.cell (p := ⟨b, off + j, none⟩) (lt_of_cell (p := ⟨b, off + j, none⟩) (hc j x hx)) (hs ⟨b, off, none⟩ rfl)).trans (hc j x hx)⟩
theorem Sl.stay (h : Sl k w A n c l) (hb : Stay S w w') (hs : ∀ x, A = some x → ¬ S x.block) : Sl k w' A n c l := ⟨h.row.stay hb hs, h.le, h.max, h.nil⟩
theorem row_stay {vs : List Value} {m : Nat} (h : w.ownsRow B e 1 v m vs) (hb : Stay S w w') (hs : ∀ g, v.ownBlock = some g → ¬ S g) : w'.ownsRow B e 1 v m vs := by
  refine ⟨h.1, ?_⟩
  rcases h.2 with g | ⟨g, cap, cur, rfl, hg, hh, r⟩
  · exact .inl g
  · exact .inr ⟨g, cap, cur, rfl, hg, (hb.block g (Array.getElem?_eq_some_iff.1 hh).1 (hs g rfl)).trans hh, r⟩
theorem Own.stay (h : Own k e w B v l) (hb : Stay S w w') (hs : ∀ g, v.ownBlock = some g → ¬ S g) : Own k e w' B v l := row_stay h hb hs
/-- rows of two types are two rows -/
theorem row_ne {t : TypeId} {B' m m' : Nat} {u : Value} {vs us : List Value} (h : w.ownsRow B t 1 v m vs) (h' : w.ownsRow B' e 1 u m' us) (hne : t ≠ e) : ∀ g, v.ownBlock = some g → u.ownBlock ≠ some g := by
  intro g hg hu
  rcases h.2 with ⟨rfl, _⟩ | ⟨g1, cap, cur, rfl, _, h1, _⟩
  · simp [Value.ownBlock] at hg
  · rcases h'.2 with ⟨rfl, _⟩ | ⟨g2, cap2, cur2, rfl, _, h2, _⟩
    · simp [Value.ownBlock] at hu
    · simp [Value.ownBlock] at hg hu
      subst hg; subst hu
      rw [h1] at h2; cases h2; exact hne rfl
end

/-- a store into a block of cells -/
theorem set_cells {w : World} {g off : Nat} {cur : Array Value} {e : TypeId} {fr : Nat × Nat} (h : w.heap[g]? = some (.cells cur e fr)) (u : Value) : (w.setCell ⟨g, off, none⟩ u).heap[g]? = some (.cells (cur.setIfInBounds off u) e fr) := by
  obtain ⟨hlt, hk⟩ := Array.getElem?_eq_some_iff.1 h
  show (w.heap.modify g _)[g]? = _
  rw [Array.getElem?_eq_getElem (by rw [Array.size_modify]; exact hlt), Array.getElem_modify_self, hk]
  rfl
theorem set_size (w : World) (p : Addr) (u : Value) : (w.setCell p u).heap.size = w.heap.size := by simp [World.setCell]
/-- a byte is stored somewhere: a row of bytes is one still -/
theorem Own.put {e : TypeId} {w : World} {B : Nat} {v : Value} {l : List Int} (h : Own .u8 e w B v l) (g j : Nat) {y : Int} (hy : 0 ≤ y ∧ y ≤ 255) (hb : IsB l) : ∃ l', l'.length = l.length ∧ IsB l' ∧ Own .u8 e (w.setCell ⟨g, j, none⟩ (.int .u8 y)) B v l' := by
  by_cases hg : v.ownBlock = some g
  · rcases h.2 with ⟨rfl, _⟩ | ⟨g', cap, cur, rfl, h1, h2, h3, h4, h5, h6⟩
    · simp [Value.ownBlock] at hg
    · simp [Value.ownBlock] at hg
      subst hg
      refine ⟨l.set j y, by simp, fun x hx => ?_, ?_⟩
      · rcases List.mem_or_eq_of_mem_set hx with q | q
        · exact hb x q
        · rw [q]; exact hy
      · unfold Own
        rw [List.length_set]
        refine ⟨by simp, .inr ⟨g', cap, _, rfl, h1, set_cells h2 _, h3, h4, by simp; omega, ?_⟩⟩
        rw [Array.toList_setIfInBounds, List.map_set, ← h6, Nat.mul_one]
        rw [List.take_set]
  · exact ⟨l, rfl, hb, h.stay (S := fun k => k = g) (Stay.set w _ rfl) (fun q hq c => hg (by rw [hq, c]))⟩

/-- '.slice A n c' holds the byte slices ls -/
structure LL (w : World) (A : Option Addr) (n c : Nat) (ls : List (List Int)) : Prop where
  len : ls.length = n
  le : n ≤ c
  max : c ≤ maxLen
  nil : A = none → c = 0
  at_ : ∀ i l, ls[i]? = some l → ∃ b off X m k, A = some ⟨b, off, none⟩ ∧ w.cell? ⟨b, off + i, none⟩ = some (.slice X m k) ∧ Sl .u8 w X m k l
section
variable {w w' : World} {A : Option Addr} {n c : Nat} {ls : List (List Int)}
theorem LL.below (h : LL w A n c ls) (hb : Below w.heap.size w w') : LL w' A n c ls :=
  ⟨h.len, h.le, h.max, h.nil, fun i l hi => by
    obtain ⟨b, off, X, m, k, h1, h2, h3⟩ := h.at_ i l hi
    exact ⟨b, off, X, m, k, h1, (hb.cell (p := ⟨b, off + i, none⟩) (lt_of_cell (p := ⟨b, off + i, none⟩) h2)).trans h2, h3.below hb⟩⟩
theorem LL.drewN (h : LL w A n c ls) (q : Nat) : LL (w.drewN q) A n c ls := h.below (below_drewN (Below.refl _ _) q)
theorem LL.nil_ : LL w none 0 0 [] := ⟨rfl, Nat.le_refl _, Nat.zero_le _, fun _ => rfl, fun i l h => by simp at h⟩
theorem LL.look (h : LL w A n c ls) {i : Nat} (hi : i < n) : ∃ b off X m k l, A = some ⟨b, off, none⟩ ∧ ls[i]? = some l ∧ w.cell? ⟨b, off + i, none⟩ = some (.slice X m k) ∧ Sl .u8 w X m k l ∧ b < w.heap.size := by
  have hl : i < ls.length := by rw [h.len]; exact hi
  have hx : ls[i]? = some ls[i] := List.getElem?_eq_getElem hl
  obtain ⟨b, off, X, m, k, h1, h2, h3⟩ := h.at_ i _ hx
  exact ⟨b, off, X, m, k, _, h1, hx, h2, h3, lt_of_cell (p := ⟨b, off + i, none⟩) h2⟩
end

/-- the call's own slice of the call's own byte slices; of their blocks X holds -/
def OL (t e : TypeId) (w : World) (B : Nat) (X : Nat → Prop) (v : Value) (ls : List (List Int)) : Prop :=
  ∃ vs : List Value, w.ownsRow B t 1 v ls.length vs ∧ ∀ (i : Nat) (l : List Int), ls[i]? = some l → ∃ x, vs[i]? = some x ∧ Own .u8 e w B x l ∧ ∀ g, x.ownBlock = some g → X g
section
variable {t e : TypeId} {S X Y : Nat → Prop} {w w' : World} {B : Nat} {v : Value} {ls : List (List Int)}
theorem OL.nil (t e : TypeId) (w : World) (B : Nat) (X : Nat → Prop) : OL t e w B X (.slice none 0 0) [] := ⟨[], World.ownsRow_nil _ _ _ _, fun i l h => by simp at h⟩
theorem OL.mono (h : OL t e w B X v ls) (hx : ∀ k, X k → Y k) : OL t e w B Y v ls := by
  obtain ⟨vs, h1, h2⟩ := h
  exact ⟨vs, h1, fun i l hi => by obtain ⟨x, h3, h4, h5⟩ := h2 i l hi; exact ⟨x, h3, h4, fun g hg => hx g (h5 g hg)⟩⟩
theorem OL.low (h : OL t e w B X v ls) {B' : Nat} (hB : B' ≤ B) : OL t e w B' X v ls := by
  have lo : ∀ {t : TypeId} {v : Value} {n : Nat} {xs : List Value}, w.ownsRow B t 1 v n xs → w.ownsRow B' t 1 v n xs := fun {t v n xs} hr => by
    refine ⟨hr.1, ?_⟩
    rcases hr.2 with g | ⟨g, cap, cur, h1, h2, h3⟩
    · exact .inl g
    · exact .inr ⟨g, cap, cur, h1, Nat.le_trans hB h2, h3⟩
  obtain ⟨vs, h1, h2⟩ := h
  exact ⟨vs, lo h1, fun i l hi => by obtain ⟨x, h3, h4, h5⟩ := h2 i l hi; exact ⟨x, h3, lo h4, h5⟩⟩
theorem OL.lt (h : OL t e w B X v ls) : ∀ g, v.ownBlock = some g → B ≤ g ∧ g < w.heap.size := fun g hg => by
  obtain ⟨vs, h1, _⟩ := h
  exact World.ownsRow.lt h1 g hg
/-- that all blocks of elements lie in the heap -/
theorem OL.bound (h : OL t e w B X v ls) : OL t e w B (fun k => X k ∧ B ≤ k ∧ k < w.heap.size) v ls := by
  obtain ⟨vs, h1, h2⟩ := h
  exact ⟨vs, h1, fun i l hi => by obtain ⟨x, h3, h4, h5⟩ := h2 i l hi; exact ⟨x, h3, h4, fun g hg => ⟨h5 g hg, h4.lt hg⟩⟩⟩
theorem OL.stay (h : OL t e w B X v ls) (hb : Stay S w w') (hs : ∀ g, v.ownBlock = some g → ¬ S g) (hx : ∀ k, B ≤ k → k < w.heap.size → X k → ¬ S k) : OL t e w' B X v ls := by
  obtain ⟨vs, h1, h2⟩ := h
  refine ⟨vs, row_stay h1 hb hs, fun i l hi => ?_⟩
  obtain ⟨x, h3, h4, h5⟩ := h2 i l hi
  exact ⟨x, h3, h4.stay hb (fun g hg => hx g (h4.lt hg).1 (h4.lt hg).2 (h5 g hg)), h5⟩
theorem OL.below (h : OL t e w B X v ls) (hb : Below w.heap.size w w') : OL t e w' B X v ls := h.stay (Stay.of_below (fun _ => False) hb) (fun _ _ c => c) (fun _ _ _ _ c => c)
theorem OL.kept (h : OL t e w B X v ls) {row : Option Nat} (hg : w.grownBy w' row) (hs : ∀ g, v.ownBlock = some g → row ≠ some g) (hx : ∀ k, B ≤ k → k < w.heap.size → X k → row ≠ some k) : OL t e w' B X v ls :=
  h.stay (S := fun k => row = some k) (Stay.grown hg (fun k e => e)) hs hx
/-- read as any slice of slices -/
theorem OL.ll (h : OL t e w B X v ls) : ∃ A c, v = .slice A ls.length c ∧ LL w A ls.length c ls ∧ ∀ x, A = some x → v.ownBlock = some x.block := by
  obtain ⟨vs, h1, h2⟩ := h
  rcases h1.2 with ⟨rfl, h0⟩ | ⟨g, cap, cur, rfl, hg, hh, hn, hm, hs, ht⟩
  · obtain rfl : ls = [] := List.eq_nil_of_length_eq_zero h0
    exact ⟨none, 0, rfl, LL.nil_, fun x hx => by cases hx⟩
  · refine ⟨_, cap, rfl, ⟨rfl, hn, hm, (fun e => by cases e), fun i l hi => ?_⟩, fun x hx => by injection hx with hx; subst hx; rfl⟩
    obtain ⟨x, h3, h4, _⟩ := h2 i l hi
    obtain ⟨Y, k, rfl, h5, _⟩ := h4.sl
    refine ⟨g, 0, Y, _, k, rfl, ?_, h5⟩
    rw [Nat.zero_add, cell_of_row _ _ _ _ _ _ hh]
    rw [← ht, List.getElem?_take] at h3
    split at h3
    · simpa using h3
    · cases h3
/-- the elements, one of them -/
theorem OL.look (h : OL t e w B X v ls) {i : Nat} (hi : i < ls.length) : ∃ g c x l, v = .slice (some ⟨g, 0, none⟩) ls.length c ∧ B ≤ g ∧ g < w.heap.size ∧ ls[i]? = some l ∧ w.cell? ⟨g, i, none⟩ = some x ∧ Own .u8 e w B x l ∧ ∀ q, x.ownBlock = some q → X q := by
  obtain ⟨vs, h1, h2⟩ := h
  have hx : ls[i]? = some ls[i] := List.getElem?_eq_getElem hi
  obtain ⟨x, h3, h4, h5⟩ := h2 i _ hx
  rcases h1.2 with ⟨rfl, h0⟩ | ⟨g, cap, cur, rfl, hg, hh, hn, hm, hs, ht⟩
  · omega
  · refine ⟨g, cap, x, _, rfl, hg, (Array.getElem?_eq_some_iff.1 hh).1, hx, ?_, h4, h5⟩
    rw [cell_of_row _ _ _ _ _ _ hh]
    rw [← ht, List.getElem?_take] at h3
    split at h3
    · simpa using h3
    · cases h3
/-- a byte is stored into some block that is not the slice's row -/
theorem OL.put (h : OL t e w B X v ls) (g j : Nat) {y : Int} (hy : 0 ≤ y ∧ y ≤ 255) (hg : v.ownBlock ≠ some g) (hb : ∀ l ∈ ls, IsB l) : ∃ ls', ls'.map List.length = ls.map List.length ∧ (∀ l ∈ ls', IsB l) ∧ OL t e (w.setCell ⟨g, j, none⟩ (.int .u8 y)) B X v ls' := by
  obtain ⟨vs, h1, h2⟩ := h
  have hex : ∀ i : Nat, ∃ l', (∀ l, ls[i]? = some l → l'.length = l.length ∧ IsB l' ∧ ∃ x, vs[i]? = some x ∧ Own .u8 e (w.setCell ⟨g, j, none⟩ (.int .u8 y)) B x l' ∧ ∀ q, x.ownBlock = some q → X q) := fun i => by
    cases hi : ls[i]? with
    | none => exact ⟨[], fun l hl => by cases hl⟩
    | some l =>
      obtain ⟨x, h3, h4, h5⟩ := h2 i l hi
      obtain ⟨l', q1, q2, q3⟩ := h4.put g j hy (hb l (List.mem_of_getElem? hi))
      exact ⟨l', fun l2 hl => by injection hl with hl; subst hl; exact ⟨q1, q2, x, h3, q3, h5⟩⟩
  have hf := fun i => (hex i).choose_spec
  generalize hF : (fun i => (hex i).choose) = F at hf
  have hf' : ∀ i l, ls[i]? = some l → (F i).length = l.length ∧ IsB (F i) ∧ ∃ x, vs[i]? = some x ∧ Own .u8 e (w.setCell ⟨g, j, none⟩ (.int .u8 y)) B x (F i) ∧ ∀ q, x.ownBlock = some q → X q := by
    intro i l hl; rw [← hF]; exact (hex i).choose_spec l hl
  have hlen : ((List.range ls.length).map F).length = ls.length := by simp
  refine ⟨(List.range ls.length).map F, ?_, fun l hl => ?_, vs, ?_, fun i l hi => ?_⟩
  · apply List.ext_getElem?
    intro i
    by_cases hi : i < ls.length
    · have := hf' i ls[i] (List.getElem?_eq_getElem hi)
      simp [hi, this.1]
    · simp [Nat.le_of_not_lt hi]
  · obtain ⟨i, hi, rfl⟩ := List.mem_map.1 hl
    rw [List.mem_range] at hi
    exact (hf' i ls[i] (List.getElem?_eq_getElem hi)).2.1
  · rw [hlen]
    exact row_stay h1 (S := fun k => k = g) (Stay.set w _ rfl) (fun q hq c => hg (by rw [hq, c]))
  · have hi2 : i < ls.length := by
      rcases Nat.lt_or_ge i ls.length with q | q
      · exact q
      · rw [List.getElem?_eq_none (by rw [hlen]; exact q)] at hi; cases hi
    have := hf' i ls[i] (List.getElem?_eq_getElem hi2)
    simp [hi2] at hi
    subst hi
    exact this.2.2
end

/-- append(v, x...): where the row of the answer lies -/
theorem run_own_at {P : Program} (w : World) (base : Nat) (t ty e : TypeId) (i : TypeInfo) (z : Value) (bytes : Nat) (ht : P.underlying t = some (.slice e)) (hi : P.info? e = some i) (hz : i.zero = some z)
    (hsize : i.size = 1) (hby : i.bytes = bytes) (hzs : z.cells.size = 1)
    (v : Value) (n : Nat) (xs : List Value) (hown : w.ownsRow base e 1 v n xs)
    (a : Addr) (m c : Nat) (news : List Value) (hl : news.length = m) (hnews : ∀ j u, news[j]? = some u → w.cell? (a.add j) = some u) (h1 : ∀ u ∈ news, u.oneCell' = true)
    (h63 : n + m ≤ maxLen) (hbytes : ((n + m) + (n + m) / 4 + 192) * bytes ≤ 281474976710656) (hbase : base ≤ w.heap.size) :
    ∃ v' w', (Builtin.append_ #[t, t] ty #[v, .slice (some a) m c]).run P w = .ok v' w' ∧ w'.ownsRow base e 1 v' (n + m) (xs ++ news) ∧ w.grownBy w' v.ownBlock ∧
      (v'.ownBlock = v.ownBlock ∨ ∃ g, v'.ownBlock = some g ∧ w.heap.size ≤ g) := by
  have hl1 : news.length = m * 1 := by omega
  obtain ⟨v', w', hr, h2, h3, _⟩ := run_append_own_wide (P := P) w base t ty e i z 1 bytes ht hi hz hsize hby hzs (by omega) v n xs hown a m c news hl1 hnews h1 h63 hbytes hbase
  refine ⟨v', w', hr, h2, h3, ?_⟩
  have hsmall : n + m ≤ 9223372036854775807 := by simp only [maxLen] at h63; omega
  rcases hown.2 with ⟨rfl, rfl⟩ | ⟨g, cap, cur, rfl, hbg, hg, hnc, hcm, hcs, htake⟩
  · obtain rfl : xs = [] := List.eq_nil_of_length_eq_zero (by simpa using hown.1)
    obtain ⟨v2, w2, hr2, h4, _, _⟩ := run_append_own_wide (P := P) w w.heap.size t ty e i z 1 bytes ht hi hz hsize hby hzs (by omega) _ 0 [] (World.ownsRow_nil w w.heap.size e 1) a m c news hl1 hnews h1 h63 hbytes (Nat.le_refl _)
    rw [hr] at hr2
    injection hr2 with e1 e2
    subst e1; subst e2
    cases ho : v'.ownBlock with
    | none => exact .inl rfl
    | some g => exact .inr ⟨g, rfl, (World.ownsRow.lt h4 g ho).1⟩
  · by_cases hroom : n + m ≤ cap
    · have hr2 := run_append_room (P := P) w t ty e i ht hi g n cap cur hg a m c news (by rw [hsize]; exact hl1) hnews h1 hroom (by rw [hsize]; omega)
      rw [hr] at hr2
      injection hr2 with e1 e2
      subst e1
      exact .inl rfl
    · have holds : ∀ j u, xs[j]? = some u → w.cell? ((⟨g, 0, none⟩ : Addr).add j) = some u := hown.cells (g := g) rfl
      have hr2 := run_append_grow (P := P) w t ty e i z ht hi hz ⟨g, 0, none⟩ n cap xs (by rw [hsize]; exact hown.1) holds a m c news (by rw [hsize]; exact hl1) hnews (by omega) (by omega) (by rw [hby]; exact growslice_fits_wide (by omega) hbytes)
      rw [hr] at hr2
      injection hr2 with e1 e2
      subst e1
      exact .inr ⟨_, rfl, Nat.le_refl _⟩
/-- the same as a law for the walk; x whatever slice, nil or not -/
theorem wp_own {P : Program} {w : World} {ops : Array Oper} {rest : List Oper} {o : Oper} {a : Act} {Q : Exit → Act → World → Prop} (hgd : o.guard = none) (s x : Operand) (t : TypeId)
    (ho : o.op = .call { callee := .builtin .append, args := #[s, x], argTypes := #[t, t] })
    (B : Nat) {e : TypeId} {i : TypeInfo} {z : Value} {wide : Nat} (ht : P.underlying t = some (.slice e)) (hi : P.info? e = some i) (hz : i.zero = some z) (hs1 : i.size = 1) (hby : i.bytes = wide) (hzc : z.cells.size = 1)
    {v : Value} {n : Nat} {xs : List Value} (hs : a.eval s = v) (hown : w.ownsRow B e 1 v n xs) {A : Option Addr} {m c : Nat} {news : List Value} (hx : a.eval x = .slice A m c) (hn : news.length = m) (hnil : A = none → m = 0 ∧ c = 0)
    (hc : ∀ ad, A = some ad → ∀ j u, news[j]? = some u → w.cell? (ad.add j) = some u) (h1c : ∀ u ∈ news, u.oneCell' = true)
    (hmax : n + m ≤ maxLen) (hlen : ((n + m) + (n + m) / 4 + 192) * wide ≤ 281474976710656) (hB : B ≤ w.heap.size)
    (h : ∀ v' w', w'.ownsRow B e 1 v' (n + m) (xs ++ news) → Below B w w' → w.grownBy w' v.ownBlock → (v'.ownBlock = v.ownBlock ∨ ∃ g, v'.ownBlock = some g ∧ w.heap.size ≤ g) → wpList P ops Q rest (a.put o.dst v') w') : wpList P ops Q (o :: rest) a w := by
  rcases A with _ | ad
  · obtain ⟨rfl, rfl⟩ := hnil rfl
    obtain rfl : news = [] := List.eq_nil_of_length_eq_zero hn
    refine wpList_append_own_none hgd s x t ho B e i 1 ht hi v n xs hs hown hx (h v w ?_ (Below.refl _ _) ⟨rfl, rfl, rfl, Nat.le_refl _, fun _ _ _ => rfl⟩ (.inl rfl))
    simpa using hown
  · refine wpList_plain hgd fun K hK => ?_
    obtain ⟨v', w', hr, h2, h3, h5⟩ := run_own_at (P := P) w B t o.type e i z wide ht hi hz hs1 hby hzc v n xs hown ad m c news hn (hc ad rfl) h1c hmax hlen hB
    unfold Oper.wp execOp
    simp only [ho, resolve, invoke, builtin, Sem.run_bind, Sem.run_pure, Result.andThen_ok, List.map_toArray, List.map_cons, List.map_nil, hs, hx, hr]
    exact hK _ _ (h v' w' h2 ((Below.refl _ _).grown h3 hB (fun g hg' => (World.ownsRow.lt hown g hg').1)) h3 h5)
/-- of bytes -/
theorem wp_bytes {P : Program} {w : World} {ops : Array Oper} {rest : List Oper} {o : Oper} {a : Act} {Q : Exit → Act → World → Prop} (hgd : o.guard = none) (s x : Operand) (t : TypeId)
    (ho : o.op = .call { callee := .builtin .append, args := #[s, x], argTypes := #[t, t] })
    (B : Nat) {e : TypeId} {i : TypeInfo} {z : Value} {wide : Nat} (ht : P.underlying t = some (.slice e)) (hi : P.info? e = some i) (hz : i.zero = some z) (hs1 : i.size = 1) (hby : i.bytes = wide) (hzc : z.cells.size = 1)
    {k : IntKind} {v : Value} {l : List Int} (hs : a.eval s = v) (hown : Own k e w B v l) {A : Option Addr} {m c : Nat} {r : List Int} (hx : a.eval x = .slice A m c) (hr : Sl k w A m c r)
    (hmax : l.length + m ≤ maxLen) (hlen : ((l.length + m) + (l.length + m) / 4 + 192) * wide ≤ 281474976710656) (hB : B ≤ w.heap.size)
    (h : ∀ v' w', Own k e w' B v' (l ++ r) → Below B w w' → w.grownBy w' v.ownBlock → (v'.ownBlock = v.ownBlock ∨ ∃ g, v'.ownBlock = some g ∧ w.heap.size ≤ g) → wpList P ops Q rest (a.put o.dst v') w') : wpList P ops Q (o :: rest) a w := by
  have hl : r.length = m := hr.row.1
  refine wp_own hgd s x t ho B ht hi hz hs1 hby hzc hs hown hx (news := r.map (Value.int k)) (by simp [hl]) ?_ ?_ (ints_oneCell k r) hmax hlen hB ?_
  · rintro rfl
    have := hr.nil rfl
    have := hr.le
    omega
  · rintro ad rfl
    exact hr.cells
  · intro v' w' h1 h2 h3 h4
    refine h v' w' ?_ h2 h3 h4
    unfold Own
    rw [List.length_append, List.map_append, hl]
    exact h1
end Go.Proofs.YtjgkaccmfdjffaaDoor.Wd
