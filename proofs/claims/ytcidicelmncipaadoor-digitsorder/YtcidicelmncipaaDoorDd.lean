/-
  What the statements' helpers of layer 5 compute: parses, fails, awake.
-/
import Derived.Test.YtcidicelmncipaaDoorDc
import Derived.Lib.ConvBytes
import Derived.Lib.SlBytesConst
namespace Go.Proofs.YtcidicelmncipaaDoor
set_option linter.unusedVariables false
open Go.RowKit
namespace Dd
open Wd We Dm Da Db It Dc

theorem below_alloc (w : World) (o : Obj) : Below w.heap.size w (w.alloc o) := (Below.refl _ _).alloc (Nat.le_refl _) o
theorem ext_trans {a b c : World} (h : Below a.heap.size a b) (k : Below b.heap.size b c) : Below a.heap.size a c := h.trans (k.mono h.size)

theorem Sl.mark (w : World) (l : List Int) (t : TypeId) (fr : Nat × Nat) (h : l.length ≤ maxLen) : Sl .u8 (w.alloc (.cells (l.map (Value.int .u8)).toArray t fr)) (some ⟨w.heap.size, 0, none⟩) l.length l.length l := by
  refine ⟨⟨rfl, fun _ => ⟨_, 0, rfl, fun j x hx => ?_⟩⟩, Nat.le_refl _, h, fun e => by cases e⟩
  rw [cell_of_row _ _ _ _ _ fr (show (w.alloc (.cells (l.map (Value.int .u8)).toArray t fr)).heap[w.heap.size]? = some (.cells (l.map (Value.int .u8)).toArray t fr) by show (w.heap.push _)[w.heap.size]? = _; simp)]
  simp [hx]
theorem isB_all {l : List Int} (h : l.all (fun x => decide (0 ≤ x ∧ x ≤ 255)) = true) : IsB l := fun x hx => of_decide_eq_true (List.all_eq_true.1 h x hx)

/-- []byte(s) -/
theorem conv_back (w : World) {s : ByteArray} {l : List Int} (hs : s = bs l) (hb : IsB l) (hl : l.length ≤ maxLen) : ∃ c w',
    (convert 9 22 (.string s)).run Tryd.prog w = .ok (.slice (some ⟨w.heap.size, 0, none⟩) l.length c) w' ∧ Sl .u8 w' (some ⟨w.heap.size, 0, none⟩) l.length c l ∧ Below w.heap.size w w' := by
  subst hs
  refine ⟨grownCap w l.length 0 5, _, ?_, ⟨⟨rfl, fun _ => ⟨_, 0, rfl, fun j x hx => ?_⟩⟩, ?_, ?_, fun e => by cases e⟩, Lib.bytesWorld_below w 5 (bs l)⟩
  · rw [Lib.run_convert_string_bytes w 9 22 5 (bs l) Tryd.underlying9 Tryd.underlying22 Tryd.underlying5, bs_size]
  · have hj := lt_of_some hx
    rw [Nat.zero_add, Lib.bytesWorld_cell w _ _ j (by rw [bs_size]; exact hj)]
    congr 2
    have : (bs l).data.toList = l.map fun n => UInt8.ofNat n.toNat := by simp [bs]
    rw [this, List.getD, List.getElem?_map, hx]
    exact byte_back (hb.at_ hx)
  · exact grownCap_ge w _ 0 _
  · exact grownCap_le_maxLen w _ 0 _ hl

set_option maxHeartbeats 800000 in
theorem parses_yes (s : ByteArray) (l : List Int) (hs : s = bs l) (hb : IsB l) (hl : l.length ≤ 1000) (m v : Int) (hm : m ≤ 9223372036854775807) (h : ps l m = (v, 0)) (w : World) :
    Calls Tryd.prog 21 #[.string s, .int .i64 m, .int .i64 v] w fun e w' => e = .returned (.bool true) ∧ Below w.heap.size w w' := by
  subst hs
  obtain ⟨c, w1, kc, t, hbl⟩ := conv_back w rfl hb (by unfold maxLen; omega)
  have T := Lib.hid t
  have H := Lib.hid h
  have HB := Lib.hid hbl
  have q1 : (v == v) = true := by simp
  clear t h hbl
  go_enter Tryd.func21, Tryd.ntmps21
  go_wp2_with fail
  refine (parse_any _ _ _ _ _ _ T.out hb hm).mono ?_
  rintro e w' ⟨rfl, rfl⟩
  rw [H.out]
  go_wp2; go_ret; exact ⟨rfl, HB.out⟩

set_option maxHeartbeats 800000 in
theorem fails_yes (s : ByteArray) (l : List Int) (hs : s = bs l) (hb : IsB l) (hl : l.length ≤ 1000) (m v : Int) (hm : m ≤ 9223372036854775807) (h : ps l m = (0, v)) (w : World) :
    Calls Tryd.prog 22 #[.string s, .int .i64 m, .int .i64 v] w fun e w' => e = .returned (.bool true) ∧ Below w.heap.size w w' := by
  subst hs
  obtain ⟨c, w1, kc, t, hbl⟩ := conv_back w rfl hb (by unfold maxLen; omega)
  have T := Lib.hid t
  have H := Lib.hid h
  have HB := Lib.hid hbl
  have q1 : (v == v) = true := by simp
  clear t h hbl
  go_enter Tryd.func22, Tryd.ntmps22
  go_wp2_with fail
  refine (parse_any _ _ _ _ _ _ T.out hb hm).mono ?_
  rintro e w' ⟨rfl, rfl⟩
  rw [H.out]
  go_wp2; go_ret; exact ⟨rfl, HB.out⟩

theorem decs907 : decs 907 = [57, 48, 55] := by
  rw [decs_more (by omega), decs_more (by omega), decs_one (by omega)]; rfl
theorem decs0 : decs 0 = [48] := by rw [decs_one (by omega)]; rfl

set_option maxRecDepth 10000 in
set_option maxHeartbeats 1600000 in
theorem awake_true (w : World) (t : Tab w) :
    Calls Tryd.prog 15 #[] w fun e w' => e = .returned (.bool true) ∧ Below w.heap.size w w' := by
  have T0 := Lib.hid t
  clear t
  go_enter Tryd.func15, Tryd.ntmps15
  go_wp2_with fail
  refine (text_ok 0 (by omega) _ T0.out).mono ?_
  rintro e w1 ⟨rfl, hb1⟩
  rw [decs0, show bs [48] = ⟨#[48]⟩ from rfl]
  have T1 := Lib.hid (T0.out.below hb1)
  go_wp2_with fail
  refine (text_ok 907 (by omega) _ T1.out).mono ?_
  rintro e w2 ⟨rfl, hb2⟩
  rw [decs907, show bs [57, 48, 55] = ⟨#[57, 48, 55]⟩ from rfl]
  go_wp2_with fail
  refine (text_neg (-1) (by omega) _).mono ?_
  rintro e w' ⟨rfl, rfl⟩
  rw [show bs [] = ⟨#[]⟩ from rfl]
  have kc := fun (w : World) (C : Array Value) (n c : Nat) => Lib.run_convert_bytes_const (P := Tryd.prog) w 22 5 C n c Tryd.underlying22 Tryd.underlying5
  go_wp2_with fail
  refine (run_any _ _ _ _ _ _ (Sl.mark w2 [97, 98, 49, 50, 48, 99] 5 (6, 7) (by decide)) (isB_all (by decide))).mono ?_
  rintro e w3 ⟨rfl, h3⟩
  rw [show ((rnAt [97, 98, 49, 50, 48, 99] 2 : Nat) : Int) = 3 by decide]
  have hb3 : Below w2.heap.size w2 w3 := by rw [← h3]; exact below_alloc _ _
  clear h3
  go_wp2_with fail
  refine (run_any _ _ _ _ _ _ (Sl.mark w3 [97, 98] 5 (2, 3) (by decide)) (isB_all (by decide))).mono ?_
  rintro e w4 ⟨rfl, h4⟩
  rw [show ((rnAt [97, 98] 0 : Nat) : Int) = 0 by decide]
  have hb4 : Below w3.heap.size w3 w4 := by rw [← h4]; exact below_alloc _ _
  clear h4
  go_wp2_with fail
  refine (run_any _ _ _ _ _ _ (Sl.mark w4 [49, 50] 5 (2, 3) (by decide)) (isB_all (by decide))).mono ?_
  rintro e w5 ⟨rfl, h5⟩
  rw [show ((rnAt [49, 50] 2 : Nat) : Int) = 0 by decide]
  have hb5 : Below w4.heap.size w4 w5 := by rw [← h5]; exact below_alloc _ _
  clear h5
  go_wp2_with fail
  refine (parses_yes _ [49, 50, 48] rfl (isB_all (by decide)) (by decide) _ _ (by decide) (by decide) _).mono ?_
  rintro e w6 ⟨rfl, hb6⟩
  go_wp2_with fail
  refine (parses_yes _ [48, 49, 50, 48] rfl (isB_all (by decide)) (by decide) _ _ (by decide) (by decide) _).mono ?_
  rintro e w7 ⟨rfl, hb7⟩
  go_wp2_with fail
  refine (fails_yes _ [49, 50, 48] rfl (isB_all (by decide)) (by decide) _ _ (by decide) (by decide) _).mono ?_
  rintro e w8 ⟨rfl, hb8⟩
  go_wp2_with fail
  refine (fails_yes _ [] rfl (isB_all (by decide)) (by decide) _ _ (by decide) (by decide) _).mono ?_
  rintro e w9 ⟨rfl, hb9⟩
  go_wp2_with fail
  refine (fails_yes _ [49, 32] rfl (isB_all (by decide)) (by decide) _ _ (by decide) (by decide) _).mono ?_
  rintro e w10 ⟨rfl, hb10⟩
  go_wp2_with fail
  refine (fails_yes _ [45, 49] rfl (isB_all (by decide)) (by decide) _ _ (by decide) (by decide) _).mono ?_
  rintro e w11 ⟨rfl, hb11⟩
  go_wp2
  go_ret
  exact ⟨rfl, ext_trans hb1 (ext_trans hb2 (ext_trans hb3 (ext_trans hb4 (ext_trans hb5 (ext_trans hb6 (ext_trans hb7 (ext_trans hb8 (ext_trans hb9 (ext_trans hb10 hb11)))))))))⟩
end Dd
end Go.Proofs.YtcidicelmncipaaDoor
