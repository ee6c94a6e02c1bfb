/-
  What New (package lines) does; an index in memory.
-/
import Derived.Test.YtfpgnnjkojpmdaaLi
import Derived.Test.YtfpgnnjkojpmdaaWg
import Derived.Test.YtfpgnnjkojpmdaaWc
import Derived.Maps.AppendAt
namespace Go.Proofs.Ytfpgnnjkojpmdaa
set_option linter.unusedVariables false
set_option linter.unusedSimpArgs false
open Go.RowKit Go.Shelf
namespace Lc
open Utf Wd Wr We Wi Lm
attribute [local go_sem] Oper.semAt_some

/-- spans, as cells -/
def flat (L : List (Nat × Nat)) : List Value := L.flatMap fun x => [.int .i64 (x.1 : Int), .int .i64 (x.2 : Int)]
theorem flat_snoc (L : List (Nat × Nat)) (x : Nat × Nat) : flat (L ++ [x]) = flat L ++ [.int .i64 (x.1 : Int), .int .i64 (x.2 : Int)] := by simp [flat]
theorem flat_length (L : List (Nat × Nat)) : (flat L).length = L.length * 2 := by
  induction L with
  | nil => rfl
  | cons x L ih => show (_ :: _ :: flat L).length = _; simp only [List.length_cons, ih]; omega
theorem flat_at (L : List (Nat × Nat)) : ∀ {j : Nat} {x : Nat × Nat}, L[j]? = some x → (flat L)[j * 2]? = some (.int .i64 (x.1 : Int)) ∧ (flat L)[j * 2 + 1]? = some (.int .i64 (x.2 : Int)) := by
  induction L with
  | nil => intro j x h; simp at h
  | cons y L ih =>
    intro j x h
    cases j with
    | zero => simp at h; subst h; exact ⟨rfl, rfl⟩
    | succ j =>
      have := ih (j := j) (x := x) (by simpa using h)
      rw [Nat.succ_mul]
      exact this

/-- the block P, from B on, is an index: the lines L, in a block of its own from B on -/
def Idx (w : World) (B P : Nat) (L : List (Nat × Nat)) : Prop := B ≤ P ∧ ∃ v, Boxed w P 83 v ∧ w.ownsRow B 44 2 v L.length (flat L)

theorem check_in (N : Nat) (A : Option Addr) (n cp : Nat) (l : List Int) (w : World) (s : Sl .u8 w A n cp l) (hb : IsB l) {i m : Nat} {e : Int} (h : chk l = (i, m, e)) :
    CallsIn Fence.wide N Try.prog 50 #[.slice A n cp] w fun r w' => r = .returned (.tuple #[.int .i64 i, .int .i64 e]) ∧ w = w' := callsIn_wide.2 (check_at A n cp l w s hb h)

theorem span_info : (Try.prog.info? 44).map (fun i => (i.zero, i.size, i.bytes)) = some (some (.agg #[.int .i64 0, .int .i64 0]), 2, 16) := by kernel_rfl

theorem cell_two_new (W : World) (u v : Value) (t : TypeId) : ∀ (j : Nat) (x : Value), [u, v][j]? = some x → (W.alloc (.cells #[u, v] t)).cell? ((⟨W.heap.size, 0, none⟩ : Addr).add j) = some x := by
  intro j x hx
  have hb : (W.alloc (.cells #[u, v] t)).heap[W.heap.size]? = some (.cells #[u, v] t) := heap_alloc_new W _
  rcases j with _ | _ | j
  · simp at hx; subst hx; simp only [Addr.add]; simp only [World.cell?, if_true, hb]; rfl
  · simp at hx; subst hx; rw [show ((⟨W.heap.size, 0, none⟩ : Addr).add (0 + 1)) = ⟨W.heap.size, 1, none⟩ from rfl]; simp only [World.cell?, hb]; rfl
  · simp at hx
/-- a struct of two, in a block of its own -/
def Pair (W : World) (B : Nat) (t : TypeId) (x : Nat × Nat) : Prop := W.heap[B]? = some (.cells #[.int .i64 (x.1 : Int), .int .i64 (x.2 : Int)] t (0, 0))
theorem Pair.lt {W : World} {B : Nat} {t : TypeId} {x : Nat × Nat} (h : Pair W B t x) : B < W.heap.size := (Array.getElem?_eq_some_iff.1 h).1
theorem Pair.kept {W W' : World} {row : Option Nat} {B : Nat} {t : TypeId} {x : Nat × Nat} (h : Pair W B t x) (hg : W.grownBy W' row) (hne : some B ≠ row) : Pair W' B t x := (hg.block B h.lt hne).trans h
theorem Pair.alloc {W : World} {B : Nat} {t : TypeId} {x : Nat × Nat} (h : Pair W B t x) (o : Obj) : Pair (W.alloc o) B t x := h.kept (World.grownBy_alloc W o none) (by simp)
theorem Pair.new (W : World) (t : TypeId) (x : Nat × Nat) : Pair (W.alloc (.cells #[.int .i64 (x.1 : Int), .int .i64 (x.2 : Int)] t)) W.heap.size t x := World.alloc_heap_new W _
theorem Pair.at0 {W : World} {B : Nat} {t : TypeId} {x : Nat × Nat} (h : Pair W B t x) : W.cell? ⟨B, 0, none⟩ = some (.int .i64 (x.1 : Int)) := by simp [World.cell?, show W.heap[B]? = _ from h]
theorem Pair.at1 {W : World} {B : Nat} {t : TypeId} {x : Nat × Nat} (h : Pair W B t x) : W.cell? ⟨B, 1, none⟩ = some (.int .i64 (x.2 : Int)) := by simp [World.cell?, show W.heap[B]? = _ from h]
theorem Pair.other {W : World} {B B' : Nat} {t : TypeId} {x : Nat × Nat} (h : Pair W B t x) (hne : B ≠ B') (u : Value) : Pair (W.setCell ⟨B', 0, none⟩ u) B t x := h.kept (grownBy_setCell' W B' u) (fun e => hne (by cases e; rfl))
theorem sl_lt {k : IntKind} {w : World} {A : Option Addr} {n c : Nat} {l : List Int} (h : Sl k w A n c l) : l ≠ [] → ∀ x, A = some x → x.block < w.heap.size := by
  intro hn x hx
  obtain ⟨b, off, e, hc⟩ := h.row.2 hn
  rw [hx] at e; cases e
  have h0 : l[0]? = some (l[0]'(List.length_pos_iff.2 hn)) := List.getElem?_eq_getElem _
  exact lt_of_cell (p := ⟨b, off + 0, none⟩) (hc 0 _ h0)

/-- the blocks of New: the index; where it lies; where the line begins; the bytes -/
def Start (w : World) (A : Option Addr) (n c : Nat) (W : World) : Prop :=
  Boxed W w.heap.size 83 (.slice none 0 0) ∧ Boxed W (w.heap.size + 1) 51 (.pointer (some ⟨w.heap.size, 0, none⟩)) ∧ Boxed W (w.heap.size + 1 + 1) 3 (.int .i64 0) ∧ Boxed W (w.heap.size + 1 + 1 + 1) 22 (.slice A n c) ∧ Below w.heap.size w W
theorem start_new (w : World) (A : Option Addr) (n c : Nat) : Start w A n c ((((w.alloc (.cells #[.slice none 0 0] 83)).alloc (.cells #[.pointer (some ⟨w.heap.size, 0, none⟩)] 51)).alloc (.cells #[.int .i64 0] 3)).alloc (.cells #[.slice A n c] 22)) := by
  refine ⟨(((Boxed.new w _ _).alloc _).alloc _).alloc _, ?_, ?_, ?_, ?_⟩
  · have := Boxed.new (w.alloc (.cells #[.slice none 0 0] 83)) 51 (.pointer (some ⟨w.heap.size, 0, none⟩))
    rw [World.size_alloc] at this
    exact (this.alloc _).alloc _
  · have := Boxed.new ((w.alloc (.cells #[.slice none 0 0] 83)).alloc (.cells #[.pointer (some ⟨w.heap.size, 0, none⟩)] 51)) 3 (.int .i64 0)
    rw [World.size_alloc, World.size_alloc] at this
    exact this.alloc _
  · have := Boxed.new (((w.alloc (.cells #[.slice none 0 0] 83)).alloc (.cells #[.pointer (some ⟨w.heap.size, 0, none⟩)] 51)).alloc (.cells #[.int .i64 0] 3)) 22 (.slice A n c)
    rw [World.size_alloc, World.size_alloc, World.size_alloc] at this
    exact this
  · exact ((((Below.refl _ w).alloc (Nat.le_refl _) _).alloc (by simp) _).alloc (by simp; omega) _).alloc (by simp; omega) _
/-- between two rounds, pre having come -/
def Inv (w : World) (A : Option Addr) (n c : Nat) (pre : List (Nat × Nat)) (W : World) : Prop :=
  (∃ v, Boxed W w.heap.size 83 v ∧ W.ownsRow w.heap.size 44 2 v pre.length (flat (heads 0 pre)) ∧ True) ∧ Boxed W (w.heap.size + 1) 51 (.pointer (some ⟨w.heap.size, 0, none⟩)) ∧ Boxed W (w.heap.size + 1 + 1) 3 (.int .i64 (lastTo 0 pre : Nat)) ∧ Boxed W (w.heap.size + 1 + 1 + 1) 22 (.slice A n c) ∧ Below w.heap.size w W
theorem inv_own (w : World) (A : Option Addr) (n c : Nat) {B : Nat} (hB : w.heap.size ≤ B) : OwnFrom B (fun pre W => Inv w A n c pre W) := by
  refine OwnFrom.and (Own.from (holdsRow_own _ _ _ _ _ (fun pre : List (Nat × Nat) => pre.length) (fun pre => flat (heads 0 pre)) (fun _ _ => True)) _) ?_
  refine OwnFrom.and (Own.from (boxed_own _ _ _) _) ?_
  refine OwnFrom.and (Own.from (boxed_own _ _ (fun pre : List (Nat × Nat) => Value.int .i64 (lastTo 0 pre : Nat))) _) ?_
  exact OwnFrom.and (Own.from (boxed_own _ _ _) _) (ownFrom_below (Nat.le_refl _) hB)
theorem inv_start {w : World} {A : Option Addr} {n c : Nat} {W : World} (h : Start w A n c W) : Inv w A n c [] W :=
  ⟨⟨_, h.1, World.ownsRow_nil _ _ _ _, trivial⟩, h.2.1, h.2.2.1, h.2.2.2.1, h.2.2.2.2⟩

theorem cell_alloc_l {W : World} {a : Addr} {v : Value} (o : Obj) (h : W.cell? a = some v) : (W.alloc o).cell? a = some v := (World.cell?_alloc_lt W o a (lt_of_cell h)).trans h
/-- what the loads of the statement that appends read -/
def HeldS (s Bx : Nat) (v : Value) (fr e : Nat) (w' : World) : Prop := w'.cell? ⟨s + 1, 0, none⟩ = some (.pointer (some ⟨s, 0, none⟩)) ∧ w'.cell? ⟨s, 0, none⟩ = some v ∧ w'.cell? ⟨s + 1 + 1, 0, none⟩ = some (.int .i64 (fr : Nat)) ∧ w'.cell? ⟨Bx, 0, none⟩ = some (.int .i64 (e : Nat))
theorem HeldS.alloc {s Bx : Nat} {v : Value} {fr e : Nat} {w : World} (h : HeldS s Bx v fr e w) (o : Obj) : HeldS s Bx v fr e (w.alloc o) :=
  ⟨cell_alloc_l _ h.1, cell_alloc_l _ h.2.1, cell_alloc_l _ h.2.2.1, cell_alloc_l _ h.2.2.2⟩
theorem cell_grown {w w' : World} {row : Option Nat} (hg : w.grownBy w' row) {p : Addr} {v : Value} (h : w.cell? p = some v) (hne : some p.block ≠ row) : w'.cell? p = some v := by
  have hlt := lt_of_cell h
  rw [← h]
  simp only [World.cell?, hg.block p.block hlt hne]
theorem own_of_box {W : World} {B : Nat} {t : TypeId} {u v : Value} (h : Boxed W B t u) (k : Boxed W B t v) : u = v := by
  have h1 : W.heap[B]? = _ := h
  rw [show W.heap[B]? = _ from k] at h1
  cases h1; rfl
theorem not_new {W : World} {base : Nat} {e : TypeId} {size : Nat} {v : Value} {n : Nat} {xs : List Value} (h : W.ownsRow base e size v n xs) : v.ownBlock ≠ some W.heap.size := by
  intro e
  have := (World.ownsRow.lt h _ e).2
  omega
theorem row_drew {W : World} {base : Nat} {e : TypeId} {size : Nat} {v : Value} {n : Nat} {xs : List Value} (h : W.ownsRow base e size v n xs) : W.drew.ownsRow base e size v n xs := h

def HeldT (s : Nat) (v : Value) (fr : Nat) (w' : World) : Prop := w'.cell? ⟨s + 1, 0, none⟩ = some (.pointer (some ⟨s, 0, none⟩)) ∧ w'.cell? ⟨s, 0, none⟩ = some v ∧ w'.cell? ⟨s + 1 + 1, 0, none⟩ = some (.int .i64 (fr : Nat))
theorem HeldT.alloc {s : Nat} {v : Value} {fr : Nat} {w : World} (h : HeldT s v fr w) (o : Obj) : HeldT s v fr (w.alloc o) :=
  ⟨cell_alloc_l _ h.1, cell_alloc_l _ h.2.1, cell_alloc_l _ h.2.2⟩

set_option maxRecDepth 100000 in
set_option maxHeartbeats 2000000 in
theorem new_bad (A : Option Addr) (n c : Nat) (b : List Int) (w : World) (s : Sl .u8 w A n c b) (hb : IsB b) {i m : Nat} {e : Int} (h : chk b = (i, m, e)) (he : e ≠ 0) :
    Calls Try.prog 28 #[.slice A n c] w fun r w' => r = .returned (.tuple #[.pointer none, .int .i64 e]) ∧ w = w' := by
  have S := Lib.hid s
  have H := Lib.hid h
  clear s h
  have d : (e != 0) = true := by simpa using he
  clear he
  refine (callsIn_wide (n := 5)).1 (callsIn_of_wp_marks Try.func28 rfl trivial ?_ rfl)
  simp only [Try.ntmps28, List.size_toArray, List.length_cons, List.length_nil, Nat.reduceAdd, Nat.reduceSub, Array.replicate_succ, Array.replicate_zero, List.push_toArray, List.append_toArray, List.nil_append, List.cons_append]
  gi_wp2_with fail
  refine ⟨trivial, ?_⟩
  refine (check_in _ _ _ _ _ _ S.out hb H.out).mono ?_
  rintro r w' ⟨rfl, rfl⟩
  gi_wp2_with fail
  exact ⟨_, results_tmp2 rfl _ _ _, rfl, rfl⟩

set_option maxRecDepth 100000 in
set_option maxHeartbeats 2000000 in
theorem new_few (A : Option Addr) (n c : Nat) (b : List Int) (w : World) (s : Sl .u8 w A n c b) (hb : IsB b) {i m : Nat} (h : chk b = (i, m, 0)) (hn : ((ends 0 b).length + 1) * 16 ≤ 140737488355328) :
    Calls Try.prog 28 #[.slice A n c] w fun r w' => ∃ P, r = .returned (.tuple #[.pointer (some ⟨P, 0, none⟩), .int .i64 0]) ∧ Idx w' w.heap.size P (lns b) ∧ Below w.heap.size w w' := by
  obtain ⟨i0, hi, hz0, hz1, hz2⟩ := info_parts span_info
  have S := Lib.hid s
  have H := Lib.hid h
  clear s h
  refine (callsIn_wide (n := 5)).1 (callsIn_of_wp_marks Try.func28 rfl trivial ?_ rfl)
  simp only [Try.ntmps28, List.size_toArray, List.length_cons, List.length_nil, Nat.reduceAdd, Nat.reduceSub, Array.replicate_succ, Array.replicate_zero, List.push_toArray, List.append_toArray, List.nil_append, List.cons_append]
  gi_wp2_with fail
  refine ⟨trivial, ?_⟩
  refine (check_in _ _ _ _ _ _ S.out hb H.out).mono ?_
  rintro r w' ⟨rfl, rfl⟩
  gi_wp2_with fail
  refine ⟨trivial, ?_⟩
  refine (ends_in _ _ _ _ _).mono ?_
  rintro r w' ⟨rfl, rfl⟩
  gi_wp2_with fail
  obtain ⟨W0, hW0⟩ : ∃ W0, ((((w.alloc (.cells #[.slice none 0 0] 83)).alloc (.cells #[.pointer (some ⟨w.heap.size, 0, none⟩)] 51)).alloc (.cells #[.int .i64 0] 3)).alloc (.cells #[.slice A n c] 22)) = W0 := ⟨_, rfl⟩
  rw [hW0]
  have hst : Start w A n c W0 := by rw [← hW0]; exact start_new w A n c
  have hsz : W0.heap.size = w.heap.size + 1 + 1 + 1 + 1 := by rw [← hW0]; simp
  clear hW0
  have hne : b ≠ [] → ∀ x, A = some x → x.block < w.heap.size := sl_lt S.out
  have HST := Lib.hid hst
  have HNE := Lib.hid hne
  clear hst hne
  refine wpIn_rangeFunc_ownH rfl (by decide) (gf := 66) (lb := #[.pointer (some ⟨w.heap.size + 1 + 1 + 1, 0, none⟩)]) rfl trivial (enters_of Try.func66 (by kernel_rfl) rfl)
    (ends_stops 4 (by decide) (w.heap.size + 1 + 1 + 1) w.heap.size A n c b W0 (by omega) (by omega) HST.out.2.2.2.1.cell HNE.out (S.out.below HST.out.2.2.2.2))
    kep_t (kep_b (by omega) (by omega)) (Below.refl _ _) (fun _ => rfl)
    (fun pre W => Inv w A n c pre W) (fun _ _ _ => False) (inv_own w A n c (by omega)) (fun _ _ _ _ _ hs _ _ => hs) (inv_start HST.out)
    (fun x a' W => ∃ Bx u, w.heap.size + 1 + 1 + 1 < Bx ∧ Pair W Bx 44 x ∧ Boxed W w.heap.size 83 u ∧ u.ownBlock ≠ some Bx ∧ a' = { tmps := #[.slice A n c, undef, .pointer none, .int .i64 0, .int .i64 i, .int .i64 0, .pointer (some ⟨w.heap.size + 1, 0, none⟩), .pointer (some ⟨w.heap.size + 1 + 1, 0, none⟩), .pointer (some ⟨Bx, 0, none⟩), .tuple #[.int .i64 i, .int .i64 0], .slice A n c, .tuple #[.int .i64 i, .int .i64 0], .int .i64 i, .int .i64 0, .int .i64 0, .bool false, undef, .agg #[.slice none 0 0], .pointer (some ⟨w.heap.size, 0, none⟩), .slice A n c, .func (.func 66) #[] #[.pointer (some ⟨w.heap.size + 1 + 1 + 1, 0, none⟩)], sp x, undef, undef, undef, undef, undef, undef, undef, undef, undef, undef, undef, undef, undef, undef, undef, undef, undef, undef, undef, undef, undef, undef, undef, undef, undef, undef, undef, undef, undef], defers := [] }) ?hAx ?assign ?body ?done ?stop
  case hAx =>
    rintro x a' _ X Y row ⟨Bx, u, h1, h2, h4, h5, h3⟩ hg hrow
    exact ⟨Bx, u, h1, h2.kept hg (fun e => by obtain ⟨_, o, ho, hc⟩ := hrow Bx e.symm; rw [show X.heap[Bx]? = _ from h2] at ho; cases ho; cases hc), h4.kept hg (fun e => by obtain ⟨_, o, ho, hc⟩ := hrow _ e.symm; rw [show X.heap[w.heap.size]? = _ from h4] at ho; cases ho; cases hc), h5, h3⟩
  case assign =>
    rintro l pre x W K hi hK
    simp only [sp] at hK ⊢
    gi_wp2_with fail
    have hi' : Inv w A n c pre (W.alloc (.cells #[.int .i64 (x.1 : Int), .int .i64 (x.2 : Int)] 44)) := (inv_own w A n c (Nat.le_refl _)).alloc _ hi
    exact hK _ _ ((KeepsOthers.alloc _ _).from _) ⟨(Below.refl _ W).alloc hi.2.2.2.2.size _, (show _ = _ from hi'.2.2.2.1).trans (show _ = _ from hi.2.2.2.1).symm⟩ hi' ⟨W.heap.size, hi.1.choose, hi.2.2.2.1.lt, Pair.new W _ x, hi.1.choose_spec.1.alloc _, not_new hi.1.choose_spec.2.1, rfl⟩
  case body =>
    rintro l pre x a' W hl ⟨r, hr⟩ ⟨⟨v, hv, hrow, _⟩, hX, hF, hN, hB⟩ ⟨Bx, u, hBx, hpx, hu, hub, rfl⟩ hlt
    obtain rfl := own_of_box hv hu
    have HU := Lib.hid hub
    clear hu hub
    have hv' := Lib.hid hv
    have hX' := Lib.hid hX
    have hF' := Lib.hid hF
    have hN' := Lib.hid hN
    have hB' := Lib.hid hB
    have hp' := Lib.hid hpx
    have hR' := Lib.hid hrow
    have cv := hv.cell
    have cX := hX.cell
    have cF := hF.cell
    have c0 := hpx.at0
    have c1 := hpx.at1
    have hsz' := hB.size
    have hle := ends_le b 0
    have hln := S.out.len
    clear hv hX hF hN hB hpx hrow hr
    generalize hfr : lastTo 0 pre = fr at cF
    have HFR := Lib.hid hfr
    clear hfr
    simp only [sp]
    gi_wp2_with fail
    refine region_round (HeldS w.heap.size Bx v fr x.1) [0, 1, 2, 3, 4, 5, 6, 7, 8] (by kernel_rfl) (by kernel_rfl) ?hno ?_
    case hno => rintro ⟨_, _, h⟩; exact h
    have hS : HeldS w.heap.size Bx v fr x.1 W.drew := ⟨cX, cv, cF, c0⟩
    refine any_takeD 0 22 (.pointer (some ⟨w.heap.size, 0, none⟩)) rfl rfl (by kernel_rfl) (by kernel_rfl) (by kernel_rfl) (by kernel_rfl) (fun _ _ _ h => h) (by rfl) ?_ hS ?_
    · rintro w' ⟨q1, q2, q3, q4⟩; go_simp
    simp only [Act.put, List.setIfInBounds_toArray, List.set_cons_zero, List.set_cons_succ]
    refine any_takeD 1 23 (.pointer (some ⟨w.heap.size, 0, none⟩)) rfl rfl (by kernel_rfl) (by kernel_rfl) (by kernel_rfl) (by kernel_rfl) (fun _ _ _ h => h) (by rfl) ?_ hS ?_
    · rintro w' ⟨q1, q2, q3, q4⟩; go_simp
    simp only [Act.put, List.setIfInBounds_toArray, List.set_cons_zero, List.set_cons_succ]
    refine any_takeD 2 24 (.pointer (some ⟨w.heap.size, 0, none⟩)) rfl rfl (by kernel_rfl) (by kernel_rfl) (by kernel_rfl) (by kernel_rfl) (fun _ _ _ h => h) (by rfl) ?_ hS ?_
    · rintro w' ⟨q1, q2, q3, q4⟩; go_simp
    simp only [Act.put, List.setIfInBounds_toArray, List.set_cons_zero, List.set_cons_succ]
    refine any_takeD 3 25 (.pointer (some ⟨w.heap.size, 0, none⟩)) rfl rfl (by kernel_rfl) (by kernel_rfl) (by kernel_rfl) (by kernel_rfl) (fun _ _ _ h => h) (by rfl) ?_ hS ?_
    · rintro w' ⟨q1, q2, q3, q4⟩; go_simp
    simp only [Act.put, List.setIfInBounds_toArray, List.set_cons_zero, List.set_cons_succ]
    refine any_takeD 4 26 (v) rfl rfl (by kernel_rfl) (by kernel_rfl) (by kernel_rfl) (by kernel_rfl) (fun _ _ _ h => h) (by rfl) ?_ hS ?_
    · rintro w' ⟨q1, q2, q3, q4⟩; go_simp
    simp only [Act.put, List.setIfInBounds_toArray, List.set_cons_zero, List.set_cons_succ]
    refine any_takeD 5 27 (.int .i64 (fr : Nat)) rfl rfl (by kernel_rfl) (by kernel_rfl) (by kernel_rfl) (by kernel_rfl) (fun _ _ _ h => h) (by rfl) ?_ hS ?_
    · rintro w' ⟨q1, q2, q3, q4⟩; go_simp
    simp only [Act.put, List.setIfInBounds_toArray, List.set_cons_zero, List.set_cons_succ]
    refine any_takeD 6 28 (.pointer (some ⟨Bx, 0, none⟩)) rfl rfl (by kernel_rfl) (by kernel_rfl) (by kernel_rfl) (by kernel_rfl) (fun _ _ _ h => h) (by rfl) ?_ hS ?_
    · rintro w' ⟨q1, q2, q3, q4⟩; go_simp
    simp only [Act.put, List.setIfInBounds_toArray, List.set_cons_zero, List.set_cons_succ]
    refine any_takeD 7 29 (.int .i64 (x.1 : Int)) rfl rfl (by kernel_rfl) (by kernel_rfl) (by kernel_rfl) (by kernel_rfl) (fun _ _ _ h => h) (by rfl) ?_ hS ?_
    · rintro w' ⟨q1, q2, q3, q4⟩; go_simp
    simp only [Act.put, List.setIfInBounds_toArray, List.set_cons_zero, List.set_cons_succ]
    refine any_takeD 8 30 (.agg #[.int .i64 (fr : Nat), .int .i64 (x.1 : Int)]) rfl rfl (by kernel_rfl) (by kernel_rfl) (by kernel_rfl) (by kernel_rfl) (fun _ _ _ h => h) (by rfl) ?_ hS ?_
    · rintro w' ⟨q1, q2, q3, q4⟩; go_simp
    simp only [Act.put, List.setIfInBounds_toArray, List.set_cons_zero, List.set_cons_succ]
    refine any_runD 9 31 (.slice (some ⟨W.heap.size, 0, none⟩) 1 1) (W.drew.alloc (.cells #[.int .i64 (fr : Nat), .int .i64 (x.1 : Int)] 44)) (by kernel_rfl) rfl rfl (by rfl) ?_ (.inr ?_) ?_
    · go_simp
    · exact hS.alloc _
    simp only [Act.put, List.setIfInBounds_toArray, List.set_cons_zero, List.set_cons_succ]
    refine any_appD 10 32 (by kernel_rfl) rfl rfl (by rfl) (.tmp 26) (.tmp 31) 81 rfl w.heap.size 44 i0 _ 2 16 Try.underlying81 hi hz0 hz1 hz2 rfl (by decide) v pre.length (flat (heads 0 pre)) rfl ((row_drew hR'.out).alloc _) ⟨W.heap.size, 0, none⟩ 1 1 [.int .i64 (fr : Nat), .int .i64 (x.1 : Int)] rfl rfl (cell_two_new W.drew _ _ _) (by simp [Value.oneCell']) (by unfold maxLen; omega) (by omega) (by show _ ≤ (W.drew.alloc _).heap.size; rw [World.size_alloc]; show _ ≤ W.heap.size + 1; omega) ?_
    intro v' w1 hown' hgrow
    obtain ⟨g', cap', rfl⟩ := ownsRow_succ hown'
    have hvD : Boxed W.drew w.heap.size 83 v := hv'.out
    obtain ⟨k1, k2, k3, k4, k5⟩ := hvD.appended (by decide) (row_drew hR'.out) (show w.heap.size ≤ W.drew.heap.size from hsz') (Nat.le_refl _) hown' hgrow
    have X1 : Boxed w1 (w.heap.size + 1) 51 (.pointer (some ⟨w.heap.size, 0, none⟩)) := ((show Boxed W.drew _ _ _ from hX'.out).alloc _).kept hgrow (hX'.out.not_row (by decide) hR'.out)
    have F1 : Boxed w1 (w.heap.size + 1 + 1) 3 (.int .i64 (fr : Nat)) := ((show Boxed W.drew _ _ _ from HFR.out ▸ hF'.out).alloc _).kept hgrow (hF'.out.not_row (by decide) hR'.out)
    have N1 : Boxed w1 (w.heap.size + 1 + 1 + 1) 22 (.slice A n c) := ((show Boxed W.drew _ _ _ from hN'.out).alloc _).kept hgrow (hN'.out.not_row (by decide) hR'.out)
    have P1 : Pair w1 Bx 44 x := ((show Pair W.drew _ _ _ from hp'.out).alloc _).kept hgrow (fun e => HU.out e.symm)
    refine ⟨.inr ⟨X1.cell, k1.cell, F1.cell, P1.at0⟩, ?_⟩
    have fz := k1.frozen
    have cl := k1.cell
    simp only [Act.put, List.setIfInBounds_toArray, List.set_cons_zero, List.set_cons_succ]
    refine any_runD 11 33 (.pointer (some ⟨w.heap.size, 0, none⟩)) w1 (by kernel_rfl) rfl rfl (by rfl) ?_ (.inl (late_of (by kernel_rfl))) ?_
    · go_simp
    simp only [Act.put, List.setIfInBounds_toArray, List.set_cons_zero, List.set_cons_succ]
    refine any_runD 12 34 (.pointer (some ⟨w.heap.size, 0, none⟩)) w1 (by kernel_rfl) rfl rfl (by rfl) ?_ (.inl (late_of (by kernel_rfl))) ?_
    · go_simp
    simp only [Act.put, List.setIfInBounds_toArray, List.set_cons_zero, List.set_cons_succ]
    refine any_run0 13 (w1.setCell ⟨w.heap.size, 0, none⟩ (.slice (some ⟨g', 0, none⟩) (pre.length + 1) cap')) (by kernel_rfl) rfl rfl (by rfl) ?_ (.inl (late_of (by kernel_rfl))) ?_
    · go_simp
    refine any_done (by kernel_rfl) ?_ _
    have X2 := X1.other (show w.heap.size + 1 ≠ w.heap.size by omega) (.slice (some ⟨g', 0, none⟩) (pre.length + 1) cap')
    have F2 := F1.other (show w.heap.size + 1 + 1 ≠ w.heap.size by omega) (.slice (some ⟨g', 0, none⟩) (pre.length + 1) cap')
    have N2 := N1.other (show w.heap.size + 1 + 1 + 1 ≠ w.heap.size by omega) (.slice (some ⟨g', 0, none⟩) (pre.length + 1) cap')
    have P2 := P1.other (show Bx ≠ w.heap.size by omega) (.slice (some ⟨g', 0, none⟩) (pre.length + 1) cap')
    clear fz cl cX cv cF c0 c1 hS X1 F1 N1 P1 hvD
    generalize w1.setCell ⟨w.heap.size, 0, none⟩ (.slice (some ⟨g', 0, none⟩) (pre.length + 1) cap') = w2 at *
    have fz := F2.frozen
    have cl := F2.cell
    have c1 := P2.at1
    have HX := Lib.hid X2
    have HF := Lib.hid F2
    have HN := Lib.hid N2
    have H2 := Lib.hid k2
    have H3 := Lib.hid k3
    have H4 := Lib.hid k4
    have H5 := Lib.hid k5
    clear X2 F2 N2 P2 k2 k3 k4 k5 k1
    gi_wp2_with fail
    have F3 := HF.out.set (.int .i64 (x.2 : Int))
    refine ⟨(((KeepsOthers.drew W).trans H4.out).trans (KeepsOthers.setCell _ _ _)).from _, ⟨((below_drewN (Below.refl _ W) 1).trans H5.out).setCell (p := ⟨w.heap.size + 1 + 1, 0, none⟩) (show w.heap.size ≤ w.heap.size + 1 + 1 by omega) _, ?_⟩, ⟨_, H2.out.other (by omega) _, ?_, trivial⟩, HX.out.other (by omega) _, ?_, HN.out.other (by omega) _, hB'.out.trans (((below_drewN (Below.refl _ W) 1).trans H5.out).setCell (p := ⟨w.heap.size + 1 + 1, 0, none⟩) (show w.heap.size ≤ w.heap.size + 1 + 1 by omega) _)⟩
    · exact (show _ = _ from HN.out.other (show w.heap.size + 1 + 1 + 1 ≠ w.heap.size + 1 + 1 by omega) (.int .i64 (x.2 : Int))).trans (show _ = _ from hN'.out).symm
    · have := H3.out.kept (grownBy_setCell' w2 (w.heap.size + 1 + 1) (.int .i64 (x.2 : Int))) (.inr (HF.out.not_row (by decide) H3.out).symm)
      rw [heads_snoc, flat_snoc, HFR.out, List.length_append]
      exact this
    · rw [lastTo_snoc]; exact F3
  case done =>
    rintro D ys W hD rfl ⟨⟨v, hv, hrow, _⟩, hX, hF, hN, hB⟩ hK
    have hv' := Lib.hid hv
    have hX' := Lib.hid hX
    have hF' := Lib.hid hF
    have hB' := Lib.hid hB
    have hR' := Lib.hid hrow
    have hK' := Lib.hid hK
    have cv := hv.cell
    have cX := hX.cell
    have cF := hF.cell
    have hsz' := hB.size
    have hle := ends_le b 0
    have hln := S.out.len
    clear hv hX hF hN hB hrow hK
    generalize hfr : lastTo 0 (ends 0 b) = fr at cF
    have HFR := Lib.hid hfr
    clear hfr
    gi_wp2_with fail
    refine wpIn_wide.2 ?_
    refine region_calm (HeldT w.heap.size v fr) [0, 1, 2, 3, 4, 5, 6, 7, 8] (by kernel_rfl) ?_
    have hS : HeldT w.heap.size v fr W.drew := ⟨cX, cv, cF⟩
    refine any_takeD 0 37 (.pointer (some ⟨w.heap.size, 0, none⟩)) rfl rfl (by kernel_rfl) (by kernel_rfl) (by kernel_rfl) (by kernel_rfl) (fun _ _ _ h => h) (by rfl) ?_ hS ?_
    · rintro w' ⟨q1, q2, q3⟩; go_simp
    simp only [Act.put, List.setIfInBounds_toArray, List.set_cons_zero, List.set_cons_succ]
    refine any_takeD 1 38 (.pointer (some ⟨w.heap.size, 0, none⟩)) rfl rfl (by kernel_rfl) (by kernel_rfl) (by kernel_rfl) (by kernel_rfl) (fun _ _ _ h => h) (by rfl) ?_ hS ?_
    · rintro w' ⟨q1, q2, q3⟩; go_simp
    simp only [Act.put, List.setIfInBounds_toArray, List.set_cons_zero, List.set_cons_succ]
    refine any_takeD 2 39 (.pointer (some ⟨w.heap.size, 0, none⟩)) rfl rfl (by kernel_rfl) (by kernel_rfl) (by kernel_rfl) (by kernel_rfl) (fun _ _ _ h => h) (by rfl) ?_ hS ?_
    · rintro w' ⟨q1, q2, q3⟩; go_simp
    simp only [Act.put, List.setIfInBounds_toArray, List.set_cons_zero, List.set_cons_succ]
    refine any_takeD 3 40 (.pointer (some ⟨w.heap.size, 0, none⟩)) rfl rfl (by kernel_rfl) (by kernel_rfl) (by kernel_rfl) (by kernel_rfl) (fun _ _ _ h => h) (by rfl) ?_ hS ?_
    · rintro w' ⟨q1, q2, q3⟩; go_simp
    simp only [Act.put, List.setIfInBounds_toArray, List.set_cons_zero, List.set_cons_succ]
    refine any_takeD 4 41 (v) rfl rfl (by kernel_rfl) (by kernel_rfl) (by kernel_rfl) (by kernel_rfl) (fun _ _ _ h => h) (by rfl) ?_ hS ?_
    · rintro w' ⟨q1, q2, q3⟩; go_simp
    simp only [Act.put, List.setIfInBounds_toArray, List.set_cons_zero, List.set_cons_succ]
    refine any_takeD 5 42 (.int .i64 (fr : Nat)) rfl rfl (by kernel_rfl) (by kernel_rfl) (by kernel_rfl) (by kernel_rfl) (fun _ _ _ h => h) (by rfl) ?_ hS ?_
    · rintro w' ⟨q1, q2, q3⟩; go_simp
    simp only [Act.put, List.setIfInBounds_toArray, List.set_cons_zero, List.set_cons_succ]
    refine any_takeD 6 43 (.slice A n c) rfl rfl (by kernel_rfl) (by kernel_rfl) (by kernel_rfl) (by kernel_rfl) (fun _ _ _ h => h) (by rfl) ?_ hS ?_
    · rintro w' ⟨q1, q2, q3⟩; go_simp
    simp only [Act.put, List.setIfInBounds_toArray, List.set_cons_zero, List.set_cons_succ]
    refine any_takeD 7 44 (.int .i64 (n : Nat)) rfl rfl (by kernel_rfl) (by kernel_rfl) (by kernel_rfl) (by kernel_rfl) (fun _ _ _ h => h) (by rfl) ?_ hS ?_
    · rintro w' ⟨q1, q2, q3⟩; go_simp
    simp only [Act.put, List.setIfInBounds_toArray, List.set_cons_zero, List.set_cons_succ]
    refine any_takeD 8 45 (.agg #[.int .i64 (fr : Nat), .int .i64 (n : Nat)]) rfl rfl (by kernel_rfl) (by kernel_rfl) (by kernel_rfl) (by kernel_rfl) (fun _ _ _ h => h) (by rfl) ?_ hS ?_
    · rintro w' ⟨q1, q2, q3⟩; go_simp
    simp only [Act.put, List.setIfInBounds_toArray, List.set_cons_zero, List.set_cons_succ]
    refine any_runD 9 46 (.slice (some ⟨W.heap.size, 0, none⟩) 1 1) (W.drew.alloc (.cells #[.int .i64 (fr : Nat), .int .i64 (n : Nat)] 44)) (by kernel_rfl) rfl rfl (by rfl) ?_ (.inr ?_) ?_
    · go_simp
    · exact hS.alloc _
    simp only [Act.put, List.setIfInBounds_toArray, List.set_cons_zero, List.set_cons_succ]
    refine any_appD 10 47 (by kernel_rfl) rfl rfl (by rfl) (.tmp 41) (.tmp 46) 81 rfl w.heap.size 44 i0 _ 2 16 Try.underlying81 hi hz0 hz1 hz2 rfl (by decide) v (ends 0 b).length (flat (heads 0 (ends 0 b))) rfl ((row_drew hR'.out).alloc _) ⟨W.heap.size, 0, none⟩ 1 1 [.int .i64 (fr : Nat), .int .i64 (n : Nat)] rfl rfl (cell_two_new W.drew _ _ _) (by simp [Value.oneCell']) (by unfold maxLen; omega) (by omega) (by show _ ≤ (W.drew.alloc _).heap.size; rw [World.size_alloc]; show _ ≤ W.heap.size + 1; omega) ?_
    intro v' w1 hown' hgrow
    obtain ⟨g', cap', rfl⟩ := ownsRow_succ hown'
    have hvD : Boxed W.drew w.heap.size 83 v := hv'.out
    obtain ⟨k1, k2, k3, k4, k5⟩ := hvD.appended (by decide) (row_drew hR'.out) (show w.heap.size ≤ W.drew.heap.size from hsz') (Nat.le_refl _) hown' hgrow
    have X1 : Boxed w1 (w.heap.size + 1) 51 (.pointer (some ⟨w.heap.size, 0, none⟩)) := ((show Boxed W.drew _ _ _ from hX'.out).alloc _).kept hgrow (hX'.out.not_row (by decide) hR'.out)
    have F1 : Boxed w1 (w.heap.size + 1 + 1) 3 (.int .i64 (fr : Nat)) := ((show Boxed W.drew _ _ _ from HFR.out ▸ hF'.out).alloc _).kept hgrow (hF'.out.not_row (by decide) hR'.out)
    refine ⟨.inr ⟨X1.cell, k1.cell, F1.cell⟩, ?_⟩
    have fz := k1.frozen
    have cl := k1.cell
    simp only [Act.put, List.setIfInBounds_toArray, List.set_cons_zero, List.set_cons_succ]
    refine any_runD 11 48 (.pointer (some ⟨w.heap.size, 0, none⟩)) w1 (by kernel_rfl) rfl rfl (by rfl) ?_ (.inl (late_of (by kernel_rfl))) ?_
    · go_simp
    simp only [Act.put, List.setIfInBounds_toArray, List.set_cons_zero, List.set_cons_succ]
    refine any_runD 12 49 (.pointer (some ⟨w.heap.size, 0, none⟩)) w1 (by kernel_rfl) rfl rfl (by rfl) ?_ (.inl (late_of (by kernel_rfl))) ?_
    · go_simp
    simp only [Act.put, List.setIfInBounds_toArray, List.set_cons_zero, List.set_cons_succ]
    refine any_run0 13 (w1.setCell ⟨w.heap.size, 0, none⟩ (.slice (some ⟨g', 0, none⟩) ((ends 0 b).length + 1) cap')) (by kernel_rfl) rfl rfl (by rfl) ?_ (.inl (late_of (by kernel_rfl))) ?_
    · go_simp
    refine any_done (by kernel_rfl) (calm_normal ?_) _
    have X2 := (X1.other (show w.heap.size + 1 ≠ w.heap.size by omega) (.slice (some ⟨g', 0, none⟩) ((ends 0 b).length + 1) cap')).cell
    clear fz cl cX cv cF hS X1 F1 hvD k1
    generalize w1.setCell ⟨w.heap.size, 0, none⟩ (.slice (some ⟨g', 0, none⟩) ((ends 0 b).length + 1) cap') = w2 at *
    have H2 := Lib.hid k2
    have H3 := Lib.hid k3
    have H4 := Lib.hid k4
    have H5 := Lib.hid k5
    clear k2 k3 k4 k5
    gi_wp2_with fail
    have hK2 := ((KeepsOthers.drew W).trans H4.out).same D _ hK'.out rfl
    refine ⟨by simp, .inl ⟨_, _, rfl, run_takeDeferred hK2, ?_⟩⟩
    refine ⟨_, results_tmp2 rfl _ _ _, w.heap.size, rfl, ⟨Nat.le_refl _, _, H2.out.kept (grownBy_putObj' w2 D (.deferred none)) (fun e => by cases e; omega), ?_⟩, (hB'.out.trans ((below_drewN (Below.refl _ W) 1).trans H5.out)).trans (belowK_b (w := w) (Nat.le_refl _) w2 D _ _ (by omega) hK2 rfl rfl)⟩
    have := ownsRow_putObj H3.out (.deferred none) hK2 rfl
    unfold lns plains
    rw [flat_snoc, HFR.out, hln, List.length_append, heads_length]
    exact this
  case stop =>
    rintro D c pre W _ _ h _
    exact h.elim
theorem new_ok (A : Option Addr) (n c : Nat) (b : List Int) (w : World) (s : Sl .u8 w A n c b) (hb : IsB b) {i m : Nat} (h : chk b = (i, m, 0)) (hn : (n + 1) * 16 ≤ 140737488355328) :
    Calls Try.prog 28 #[.slice A n c] w fun r w' => ∃ P, r = .returned (.tuple #[.pointer (some ⟨P, 0, none⟩), .int .i64 0]) ∧ Idx w' w.heap.size P (lns b) ∧ Below w.heap.size w w' :=
  new_few A n c b w s hb h (by have := ends_le b 0; have := s.len; omega)
end Lc
end Go.Proofs.Ytfpgnnjkojpmdaa
