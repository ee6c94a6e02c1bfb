/-
  What New (package place) does.
-/
import Derived.Test.YtfpgnnjkojpmdaaPa
import Derived.Test.YtfpgnnjkojpmdaaPn
import Derived.Test.YtfpgnnjkojpmdaaWz
namespace Go.Proofs.Ytfpgnnjkojpmdaa
set_option linter.unusedVariables false
set_option linter.unusedSimpArgs false
open Go.RowKit Go.Shelf
namespace Pc
open Utf Wd Wr We Wi Lm Lc Uw

theorem own_form {k : IntKind} {e : TypeId} {w : World} {B : Nat} {v : Value} {l : List Int} (h : Wd.Own k e w B v l) (hv : v.ownBlock ≠ none) : ∃ g c, v = .slice (some ⟨g, 0, none⟩) l.length c ∧ Sl k w (some ⟨g, 0, none⟩) l.length c l := by
  obtain ⟨A, c, e1, s, _⟩ := h.sl
  rcases h.2 with ⟨rfl, _⟩ | ⟨g, cap, cur, rfl, _⟩
  · exact absurd rfl hv
  · injection e1 with h1 h2 h3
    subst h1 h3
    exact ⟨g, cap, rfl, s⟩

theorem sl_cutM {k : IntKind} {w : World} {A : Option Addr} {n c : Nat} {l : List Int} (h : Sl k w A n c l) (i m : Nat) (hm : i + m ≤ n) : Sl k w (A.map (fun x => x.add i)) m (c - i) ((l.drop i).take m) :=
  ⟨h.row.cut i m hm, by have := h.le; omega, by have := h.max; omega, fun e => by cases A with | none => have := h.nil rfl; omega | some a => cases e⟩
theorem sl_cutE {k : IntKind} {w : World} {A : Option Addr} {n c : Nat} {l : List Int} (h : Sl k w A n c l) (i m : Nat) (hm : i + m ≤ n) (hc : c = i) : Sl k w A m 0 ((l.drop i).take m) := by
  have hle := h.le
  obtain rfl : m = 0 := by omega
  rw [List.take_zero]
  exact ⟨Row.nil, Nat.le_refl _, by unfold maxLen; omega, fun _ => rfl⟩
set_option maxHeartbeats 800000 in
theorem pnew_bad (A : Option Addr) (n c : Nat) (b : List Int) (w : World) (s : Sl .u8 w A n c b) (hb : IsB b) {i m : Nat} {e : Int} (h : chk b = (i, m, e)) (he : e ≠ 0) :
    Calls Try.prog 13 #[.slice A n c] w fun r w' => r = .returned (.tuple #[.pointer none, .int .i64 e]) ∧ w = w' := by
  have S := Lib.hid s
  have K := Lib.hid h
  have d : (e != 0) = true := by simpa using he
  clear s h
  go_enter Try.func13, Try.ntmps13
  go_wp2_with fail
  refine (new_bad _ _ _ _ _ S.out hb K.out he).mono ?_
  rintro r w' ⟨rfl, rfl⟩
  go_wp2
  go_ret2
  exact ⟨rfl, rfl⟩

set_option maxRecDepth 100000 in
set_option maxHeartbeats 1600000 in
theorem pnew_ok (A : Option Addr) (n c : Nat) (cs : List Int) (w : World) (hc : Chars cs) (s : Sl .u8 w A n c (encs cs)) (hn : ((Lm.ends 0 (encs cs)).length + 1) * 16 ≤ 140737488355328) (hn2 : n ≤ 140737488355328) :
    Calls Try.prog 13 #[.slice A n c] w fun r w' => ∃ M P A' c', r = .returned (.tuple #[.pointer (some ⟨M, 0, none⟩), .int .i64 0]) ∧ Mp w' M P A' c' cs ∧ Below w.heap.size w w' := by
  obtain ⟨i0, hi, hz0, hz1, hz2⟩ := info_parts u8_info
  have hlen := s.len
  have S := Lib.hid s
  have K := Lib.hid (chk_encs hc)
  have HL := Lib.hid hlen
  have HC := Lib.hid hc
  clear s hlen hc
  go_enter Try.func13, Try.ntmps13
  go_wp2_with fail
  refine (new_few _ _ _ _ _ S.out (encs_byte cs) K.out hn).mono ?_
  rintro r w1 ⟨P, rfl, hI, hb1⟩
  have I1 := Lib.hid hI
  have B1 := Lib.hid hb1
  have S1 := Lib.hid ((S.out.below hb1).alloc (.cells #[] 5))
  have O1 := Lib.hid (show Wd.Own .u8 5 (w1.alloc (.cells #[] 5)) w1.heap.size (.slice (some ⟨w1.heap.size, 0, none⟩) 0 0) [] from Wd.Own.new w1 [] 5 .u8 (by simp) (Nat.le_refl _))
  clear hI hb1
  go_wp2_with (at_builtin; refine wp_app_at rfl _ _ _ rfl w1.heap.size Try.underlying22 hi hz0 hz1 hz2 rfl (v := .slice (some ⟨w1.heap.size, 0, none⟩) 0 0) (l := []) rfl O1.out rfl S1.out (by simp; omega) (by simp [maxLen]; omega) (by simp) ?_; intro v1 w2 ho hb _ hat; obtain ⟨g, c', rfl, s2⟩ := own_form ho (by rcases hat with h | h <;> rw [h] <;> simp [Value.ownBlock]))
  rw [List.nil_append] at s2
  have hbw : Below w1.heap.size w1 w2 := ((Below.refl _ w1).alloc (Nat.le_refl _) _).trans hb
  have hba := ext_trans hbw (below_alloc w2 (.cells #[.pointer (some ⟨P, 0, none⟩), .slice (some ⟨g, 0, none⟩) (encs cs).length c'] 74))
  have R := Lib.hid (ext_trans B1.out hba)
  have MM := Lib.hid (show Mp (w2.alloc (.cells #[.pointer (some ⟨P, 0, none⟩), .slice (some ⟨g, 0, none⟩) (encs cs).length c'] 74)) w2.heap.size P ⟨g, 0, none⟩ c' cs from
    ⟨Duo.new _ _ _ _, ⟨_, I1.out.ext hba⟩, s2.alloc _, HC.out, by have := HL.out; omega, ⟨g, 0, rfl⟩⟩)
  clear ho hb hat s2 hbw hba
  go_ret2
  exact ⟨_, _, _, _, rfl, MM.out, R.out⟩
end Pc
end Go.Proofs.Ytfpgnnjkojpmdaa
