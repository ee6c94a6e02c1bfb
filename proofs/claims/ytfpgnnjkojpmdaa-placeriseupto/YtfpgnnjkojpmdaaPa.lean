/-
  A map of package place in memory; what none, unitsAhead, New (package place) do.
-/
import Derived.Test.YtfpgnnjkojpmdaaPm
import Derived.Test.YtfpgnnjkojpmdaaLs
import Derived.Test.YtfpgnnjkojpmdaaUw
import Derived.Test.YtfpgnnjkojpmdaaUs
import Derived.Test.YtfpgnnjkojpmdaaRd
import Derived.Test.YtfpgnnjkojpmdaaWp
namespace Go.Proofs.Ytfpgnnjkojpmdaa
set_option linter.unusedVariables false
set_option linter.unusedSimpArgs false
open Go.RowKit Go.Shelf
namespace Pc
open Utf Wd Wr We Wi Lm Lc Uw

/-- the block M holds two values -/
def Duo (t : TypeId) (W : World) (M : Nat) (a b : Value) : Prop := W.heap[M]? = some (.cells #[a, b] t (0, 0))
section
variable {t : TypeId} {W W' : World} {M : Nat} {a b : Value}
theorem Duo.lt (h : Duo t W M a b) : M < W.heap.size := (Array.getElem?_eq_some_iff.1 h).1
theorem Duo.at0 (h : Duo t W M a b) : W.cell? ⟨M, 0, none⟩ = some a := by simp [World.cell?, show W.heap[M]? = _ from h]
theorem Duo.at1 (h : Duo t W M a b) : W.cell? ⟨M, 1, none⟩ = some b := by simp [World.cell?, show W.heap[M]? = _ from h]
theorem Duo.fz (h : Duo t W M a b) (i : Nat) : W.frozen? ⟨M, i, none⟩ = false := by simp [World.frozen?, show W.heap[M]? = _ from h]
theorem Duo.below (h : Duo t W M a b) {n : Nat} (hb : Below n W W') (hM : M < n) : Duo t W' M a b := (hb.block M hM).trans h
theorem Duo.ext (h : Duo t W M a b) (hb : Below W.heap.size W W') : Duo t W' M a b := h.below hb h.lt
theorem Duo.new (W : World) (t : TypeId) (a b : Value) : Duo t (W.alloc (.cells #[a, b] t)) W.heap.size a b := World.alloc_heap_new W _
end

/-- M is a map of the text that the characters cs are: its lines, a copy of its bytes -/
structure Mp (w : World) (M : Nat) (P : Nat) (A : Addr) (c : Nat) (cs : List Int) : Prop where
  duo : Duo 74 w M (.pointer (some ⟨P, 0, none⟩)) (.slice (some A) (encs cs).length c)
  idx : ∃ B, Idx w B P (lns (encs cs))
  sl : Sl .u8 w (some A) (encs cs).length c (encs cs)
  ch : Chars cs
  few : (encs cs).length ≤ 140737488355328
  spot : ∃ b off, A = ⟨b, off, none⟩
theorem Mp.ext {w w' : World} {M P : Nat} {A : Addr} {c : Nat} {cs : List Int} (h : Mp w M P A c cs) (hb : Below w.heap.size w w') : Mp w' M P A c cs :=
  ⟨h.duo.ext hb, ⟨_, h.idx.choose_spec.ext hb⟩, h.sl.below hb, h.ch, h.few, h.spot⟩
theorem Mp.ok {w : World} {M P : Nat} {A : Addr} {c : Nat} {cs : List Int} (h : Mp w M P A c cs) : Ok (lns (encs cs)) (encs cs).length := ok_lns _ (by have := h.few; omega)

theorem slice_not_nil (a : Addr) (n c : Nat) (w : World) : (binOp .eql 22 (.slice (some a) n c) (.slice none 0 0)).run Try.prog w = .ok (.bool false) w := by
  have hm : Op.maxDepth = (Op.maxDepth - 1) + 1 := by decide
  simp only [binOp, Op.equal]
  rw [hm]
  simp [Op.equalIn, run_underlying Try.underlying22, Sem.run_bind, Sem.run_pure, Result.andThen]
theorem slice_nil (w : World) : (binOp .eql 22 (.slice none 0 0) (.slice none 0 0)).run Try.prog w = .ok (.bool true) w := by
  have hm : Op.maxDepth = (Op.maxDepth - 1) + 1 := by decide
  simp only [binOp, Op.equal]
  rw [hm]
  simp [Op.equalIn, run_underlying Try.underlying22, Sem.run_bind, Sem.run_pure, Result.andThen]
set_option maxRecDepth 100000 in
set_option maxHeartbeats 800000 in
theorem none_at (M P : Nat) (A : Addr) (n c : Nat) (w : World) (h0 : w.cell? ⟨M, 0, none⟩ = some (.pointer (some ⟨P, 0, none⟩))) (h1 : w.cell? ⟨M, 1, none⟩ = some (.slice (some A) n c)) :
    Calls Try.prog 41 #[.pointer (some ⟨M, 0, none⟩)] w fun e w' => e = .returned (.bool false) ∧ w = w' := by
  go_enter Try.func41, Try.ntmps41
  go_wp2
  rw [slice_not_nil]
  go_wp2
  go_ret
  exact ⟨rfl, rfl⟩
set_option maxRecDepth 100000 in
set_option maxHeartbeats 800000 in
theorem none_nil (w : World) :
    Calls Try.prog 41 #[.pointer none] w fun e w' => e = .returned (.bool true) ∧ w = w' := by
  go_enter Try.func41, Try.ntmps41
  go_wp2
  go_ret
  exact ⟨rfl, rfl⟩
set_option maxRecDepth 100000 in
set_option maxHeartbeats 800000 in
theorem none_zero (M : Nat) (w : World) (h1 : w.cell? ⟨M, 1, none⟩ = some (.slice none 0 0)) :
    Calls Try.prog 41 #[.pointer (some ⟨M, 0, none⟩)] w fun e w' => e = .returned (.bool true) ∧ w = w' := by
  go_enter Try.func41, Try.ntmps41
  go_wp2
  rw [slice_nil]
  go_wp2
  go_ret
  exact ⟨rfl, rfl⟩
theorem none_ok (M P : Nat) (A : Addr) (c : Nat) (cs : List Int) (w : World) (h : Mp w M P A c cs) :
    Calls Try.prog 41 #[.pointer (some ⟨M, 0, none⟩)] w fun e w' => e = .returned (.bool false) ∧ w = w' :=
  none_at M P A _ c w h.duo.at0 h.duo.at1

set_option maxHeartbeats 800000 in
theorem ahead_ok (A : Addr) (n c : Nat) (mid : List Int) (k : Nat) (w : World) (hc : Chars mid) (s : Sl .u8 w (some A) n c ((encs mid).take k)) :
    Calls Try.prog 46 #[.slice (some A) n c] w fun e w' => e = .returned (.tuple #[.int .i64 (uns (fit mid k)).length, .int .i64 0]) ∧ w = w' := by
  obtain ⟨e, he⟩ := chk_take hc k
  have hmax : n ≤ 9223372036854775807 := by have := s.max; have := s.le; unfold maxLen at *; omega
  have hle := s.le
  have hlen := s.len
  have hb : IsB ((encs mid).take k) := fun x hx => encs_byte mid x (List.mem_of_mem_take hx)
  obtain ⟨post, h1, h2, _⟩ := fit_cut mid k
  have hfl : (encs (fit mid k)).length ≤ n := by
    rw [← hlen, List.length_take]
    have : (encs mid).length = (encs (fit mid k)).length + (encs post).length := by rw [← List.length_append, ← encs_append, ← h1]
    omega
  have s2 : Sl .u8 w (some A) (encs (fit mid k)).length c (encs (fit mid k)) := by
    have := s.cut0 (encs (fit mid k)).length hfl
    rw [List.take_take, Nat.min_eq_left h2, take_encs] at this
    exact this
  have HF := Lib.hid (fit_chars hc k)
  have S := Lib.hid s
  have S2 := Lib.hid s2
  have K := Lib.hid he
  have HB := Lib.hid hb
  clear s s2 he hb hc h1 h2 hlen
  generalize hz : (encs (fit mid k)).length = z at *
  have HZ := Lib.hid hz
  clear hz
  have i1 : (z : Int) ≤ (n : Int) := by omega
  have i2 : (z : Int) ≤ (c : Int) := by omega
  go_enter Try.func46, Try.ntmps46
  go_wp2_with fail
  refine (check_at _ _ _ _ _ S.out HB.out K.out).mono ?_
  rintro r w' ⟨rfl, rfl⟩
  go_wp2_with fail
  refine (of_txt _ _ _ _ _ HF.out S2.out).mono ?_
  rintro r w' ⟨rfl, rfl⟩
  go_wp2
  go_ret2
  exact ⟨rfl, rfl⟩
end Pc
end Go.Proofs.Ytfpgnnjkojpmdaa
