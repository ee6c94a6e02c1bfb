/-
  The walk of DigitsNames.
-/
import Derived.Test.YtcidicelmncipaaDoorKDRuns
import Derived.Test.YtcidicelmncipaaDoorKDParses
import Derived.Test.YtcidicelmncipaaDoorKDTexts
import Derived.Deep.RegionWith
namespace Go.Proofs.YtcidicelmncipaaDoor
set_option linter.unusedVariables false
open Go.RowKit Go.ChangeShapes Go.WideShapes
open Wd We Dm Da Db It Dc Dd

/-- a string's bytes -/
def lof (s : ByteArray) : List Int := s.data.toList.map fun b => (b.toNat : Int)
theorem lof_byte (s : ByteArray) : IsB (lof s) := fun x hx => by
  obtain ⟨b, _, rfl⟩ := List.mem_map.1 hx
  have := b.toNat_lt
  omega
theorem bs_lof (s : ByteArray) : s = bs (lof s) := by
  have : (lof s).map (fun n => UInt8.ofNat n.toNat) = s.data.toList := by
    unfold lof
    rw [List.map_map]
    conv => rhs; rw [← List.map_id s.data.toList]
    refine List.map_congr_left fun b _ => ?_
    simp
  unfold bs
  rw [this]
theorem lof_length (s : ByteArray) : (lof s).length = s.size := by unfold lof; rw [List.length_map, Array.length_toList]; rfl
theorem sl_bytes (w : World) (s : ByteArray) (h : s.size ≤ 1000) : Sl .u8 (Lib.bytesWorld w 5 s) (some ⟨w.heap.size, 0, none⟩) s.size (grownCap w s.size 0 5) (lof s) := by
  refine ⟨⟨lof_length s, fun _ => ⟨_, 0, rfl, fun j x hx => ?_⟩⟩, ?_, ?_, fun e => by cases e⟩
  · have hj := lt_of_some hx
    rw [lof_length] at hj
    rw [Nat.zero_add, Lib.bytesWorld_cell w _ _ j hj]
    congr 2
    unfold lof at hx
    rw [List.getElem?_map] at hx
    obtain ⟨b, hb, rfl⟩ := Option.map_eq_some_iff.1 hx
    rw [List.getD, hb]
    rfl
  · exact grownCap_ge w _ 0 _
  · exact grownCap_le_maxLen w _ 0 _ (by unfold maxLen; omega)
theorem below_drew {B : Nat} {a w : World} (h : Below B a w) : Below B a w.drew := ⟨h.os, h.tape, h.output, h.size, h.block⟩
theorem below_bytes {B : Nat} {a w : World} (h : Below B a w) (hB : B ≤ a.heap.size) (s : ByteArray) : Below B a (Lib.bytesWorld w 5 s) :=
  h.trans ((Lib.bytesWorld_below w 5 s).mono (Nat.le_trans hB h.size))

def isS : Value → Bool | .string s => decide (s.size ≤ 1000) | _ => false
def isI : Value → Bool | .int .i64 m => decide (-9223372036854775808 ≤ m ∧ m ≤ 9223372036854775807) | _ => false
/-- a table of short strings in block L; one of ints in block M -/
def TbS (L n : Nat) (w : World) : Prop := ∀ i < n, ∃ s, w.cell? ⟨L, i, none⟩ = some (.string s) ∧ s.size ≤ 1000
def TbI (M n : Nat) (w : World) : Prop := ∀ k < n, ∃ m, w.cell? ⟨M, k, none⟩ = some (.int .i64 m) ∧ -9223372036854775808 ≤ m ∧ m ≤ 9223372036854775807
theorem TbS.below {L n : Nat} {w w' : World} (h : TbS L n w) (hb : Below w.heap.size w w') : TbS L n w' := fun i hi => by
  obtain ⟨s, hc, hs⟩ := h i hi
  exact ⟨s, (hb.cell (lt_of_cell hc)).trans hc, hs⟩
theorem TbI.below {L n : Nat} {w w' : World} (h : TbI L n w) (hb : Below w.heap.size w w') : TbI L n w' := fun i hi => by
  obtain ⟨s, hc, hs⟩ := h i hi
  exact ⟨s, (hb.cell (lt_of_cell hc)).trans hc, hs⟩
theorem tbS_new (w : World) (C : Array Value) (t : TypeId) {n : Nat} (h : C.all isS = true) (hn : C.size = n) : TbS w.heap.size n (w.alloc (.cells C t)) := fun i hi => by
  subst hn
  rw [cell_of_row _ _ _ _ _ _ (heap_alloc_new w _), Array.getElem?_eq_getElem hi]
  have := Array.all_eq_true.1 h i hi
  cases hv : C[i] with
  | string s => rw [hv] at this; exact ⟨s, rfl, of_decide_eq_true this⟩
  | _ => rw [hv] at this; cases this
theorem tbI_new (w : World) (C : Array Value) (t : TypeId) {n : Nat} (h : C.all isI = true) (hn : C.size = n) : TbI w.heap.size n (w.alloc (.cells C t)) := fun i hi => by
  subst hn
  rw [cell_of_row _ _ _ _ _ _ (heap_alloc_new w _), Array.getElem?_eq_getElem hi]
  have := Array.all_eq_true.1 h i hi
  revert this
  generalize C[i] = v
  intro this
  unfold isI at this
  split at this
  · exact ⟨_, rfl, of_decide_eq_true this⟩
  · cases this

theorem tbI_at (w : World) (C : Array Value) (t : TypeId) {n B : Nat} (hB : w.heap.size = B) (h : C.all isI = true) (hn : C.size = n) : TbI B n (w.alloc (.cells C t)) := by
  subst hB; exact tbI_new w C t h hn
theorem i64_wf {x : Int} (h : -9223372036854775808 ≤ x ∧ x ≤ 9223372036854775807) : (Lit.int .i64 x).wf = true := by
  simpa [Lit.wf, IntKind.min, IntKind.max, IntKind.signed, IntKind.bits] using h

set_option maxRecDepth 100000 in
set_option maxHeartbeats 3200000 in
theorem walk_DigitsNames  (w : World) (tab : It.Tab w) :
    Calls Tryd.prog 10 #[] w fun e w' => e = .returned (.bool true) ∧ Below w.heap.size w w' := by
  have T := Lib.hid tab
  clear tab
  go_enter Tryd.func10, Tryd.ntmps10
  go_wp2
  go_loopw [4] (fun ix wr => ∃ i : Nat, i ≤ 16 ∧ ix = .int .i64 i ∧ TbS w.heap.size 16 wr ∧ TbI (w.heap.size + 1) 6 wr ∧ Below w.heap.size w wr) (fun ix _ => 16 - (intOf ix).toNat)
  case atStart =>
    refine ⟨0, by omega, rfl, (tbS_new w _ _ ?h1 ?h3).below (below_alloc _ _), tbI_at _ _ _ (by simp) ?h2 ?h4, ((Below.refl _ _).alloc (Nat.le_refl _) _).alloc (by simp) _⟩
    case h1 => decide +kernel
    case h2 => decide +kernel
    case h3 => rfl
    case h4 => rfl
  case round =>
    obtain ⟨i, hi, rfl, hS, hI, hb⟩ := hrel
    by_cases hi16 : i < 16
    · have i1 : (i : Int) < 16 := by omega
      have HS := Lib.hid hS
      have HI := Lib.hid hI
      have HB := Lib.hid hb
      clear hS hI hb
      go_wp2
      go_loopw [5] (fun kx W => ∃ k : Nat, k ≤ 6 ∧ kx = .int .i64 k ∧ TbS w.heap.size 16 W ∧ TbI (w.heap.size + 1) 6 W ∧ Below w.heap.size w W) (fun kx _ => 6 - (intOf kx).toNat)
      case atStart => exact ⟨0, by omega, rfl, HS.out, HI.out, HB.out⟩
      case round =>
        obtain ⟨k, hk, rfl, hS, hI, hb⟩ := hrel
        have HS2 := Lib.hid hS
        have HI2 := Lib.hid hI
        have HB2 := Lib.hid hb
        clear hS hI hb
        by_cases hk6 : k < 6
        · have i2 : (k : Int) < 6 := by omega
          obtain ⟨s, hcs, hss⟩ := HS2.out i hi16
          obtain ⟨m, hcm, hm0, hm1⟩ := HI2.out k hk6
          have hl1 := lt_of_cell hcs
          have hl2 := lt_of_cell hcm
          have kc : ∀ w' : World, (convert 9 22 (.string s)).run Tryd.prog w' = .ok (.slice (some ⟨w'.heap.size, 0, none⟩) s.size (grownCap w' s.size 0 5)) (Lib.bytesWorld w' 5 s) := fun w' =>
            Lib.run_convert_string_bytes w' 9 22 5 s Tryd.underlying9 Tryd.underlying22 Tryd.underlying5
          have hwk : IntKind.i64.wrap ((k : Int) - 1) = (k : Int) - 1 := by rw [IntKind.wrap_i64]; omega
          have TW := Lib.hid (T.out.below HB2.out)
          have HSS := Lib.hid (show ∀ w', Below wr.heap.size wr w' → (w'.cell? ⟨w.heap.size, i, none⟩ = some (.string s) ∧ w'.cell? ⟨w.heap.size + 1, k, none⟩ = some (.int .i64 m) ∧ Below wr.heap.size wr w') from fun w' hb => ⟨(hb.cell (p := ⟨w.heap.size, i, none⟩) hl1).trans hcs, (hb.cell (p := ⟨w.heap.size + 1, k, none⟩) hl2).trans hcm, hb⟩)
          have HW1 := Lib.hid (below_bytes (below_drew (Below.refl wr.heap.size wr)) (Nat.le_refl _) s)
          go_wp2_with fail
          have hcm2 : (Lib.bytesWorld wr.drew 5 s).cell? ⟨w.heap.size + 1, k, none⟩ = some (.int .i64 m) := (HSS.out _ HW1.out).2.1
          go_region_with (first
            | (go_at_call 4; refine (core_DigitsParses _ _ _ (lof s) _ (Lib.bytesWorld wr.drew 5 s) (sl_bytes wr.drew s hss) (lof_byte s) (by omega) hm1 (TW.out.below HW1.out)).mono ?_; rintro e w8 ⟨rfl, hb8⟩; have hb9 : Below wr.heap.size wr w8 := Below.trans HW1.out (hb8.mono HW1.out.size); have hcs8 := (HSS.out _ hb9).1; clear hb8)
            | (go_at_call 3; refine (core_DigitsRuns _ _ _ (lof s) _ (Lib.bytesWorld w8 5 s) (sl_bytes w8 s hss) (lof_byte s) (by omega) (by omega) (TW.out.below (below_bytes hb9 (Nat.le_refl _) s))).mono ?_; rintro e w10 ⟨rfl, hb10⟩; have hb11 : Below wr.heap.size wr w10 := Below.trans (below_bytes hb9 (Nat.le_refl _) s) (hb10.mono (below_bytes hb9 (Nat.le_refl _) s).size); clear hb10))
          all_goals
            go_wp2
            go_roundw
            case rel => exact ⟨k + 1, by omega, by go_num, HS2.out.below hb11, HI2.out.below hb11, ext_trans HB2.out hb11⟩
            case measure => simp [intOf]; omega
        · have i2 : ¬ (k : Int) < 6 := by omega
          go_wp2
          go_roundw
          case rel => exact ⟨i + 1, by omega, by go_num, HS2.out, HI2.out, HB2.out⟩
          case measure => simp [intOf]; omega
    · have i1 : ¬ (i : Int) < 16 := by omega
      have HB := Lib.hid hb
      clear hS hI hb
      go_wp2
      go_loopw [7] (fun kx W => ∃ k : Nat, k ≤ 8 ∧ kx = .int .i64 k ∧ TbI wr.heap.size 8 W ∧ Below w.heap.size w W) (fun kx _ => 8 - (intOf kx).toNat)
      case atStart =>
        refine ⟨0, by omega, rfl, tbI_at wr _ _ rfl ?h5 ?h6, HB.out.alloc HB.out.size _⟩
        case h5 => decide +kernel
        case h6 => rfl
      case round =>
        obtain ⟨k, hk, rfl, hI, hb⟩ := hrel
        have HI2 := Lib.hid hI
        have HB2 := Lib.hid hb
        clear hI hb
        by_cases hk8 : k < 8
        · have i2 : (k : Int) < 8 := by omega
          obtain ⟨m, hcm, hm0, hm1⟩ := HI2.out k hk8
          have hl2 := lt_of_cell hcm
          go_wp2_with fail
          refine (walk_DigitsTexts m _ (i64_wf ⟨hm0, hm1⟩) (T.out.below HB2.out)).mono ?_
          rintro e w5 ⟨rfl, hb5⟩
          go_wp2
          go_roundw
          case rel => exact ⟨k + 1, by omega, by go_num, HI2.out.below hb5, ext_trans HB2.out hb5⟩
          case measure => simp [intOf]; omega
        · have i2 : ¬ (k : Int) < 8 := by omega
          go_wp2_with fail
          refine (awake_true _ (T.out.below HB2.out)).mono ?_
          rintro e w5 ⟨rfl, hb5⟩
          go_wp2_with fail
          refine (core_DigitsRuns none 0 0 [] 0 _ Sl.none_ (isB_all (by decide)) (by omega) (by omega) ((T.out.below HB2.out).below hb5)).mono ?_
          rintro e w6 ⟨rfl, hb6⟩
          go_wp2
          go_ret
          exact ⟨rfl, ext_trans HB2.out (ext_trans hb5 hb6)⟩
end Go.Proofs.YtcidicelmncipaaDoor
