/-
  Bytes of the call's own: one byte read, changed. What the document's Bodies and Left of layer 7 compute.
-/
import Derived.Test.YtigiiofiajhnlaaGreatDoorFy
import Derived.Test.YtigiiofiajhnlaaGreatDoorFk
namespace Go.Proofs.YtigiiofiajhnlaaGreatDoor
set_option linter.unusedVariables false
set_option linter.unusedSimpArgs false
open Go.RowKit Go.Shelf
namespace Wd
theorem Own.byte {e : TypeId} {w : World} {B n c : Nat} {A : Option Addr} {l : List Int} (h : Own .u8 e w B (.slice A n c) l) {j : Nat} (hj : j < l.length) : ∃ g, A = some ⟨g, 0, none⟩ ∧ B ≤ g ∧ w.frozen? ⟨g, j, none⟩ = false ∧ w.cell? ⟨g, j, none⟩ = some (.int .u8 l[j]) := by
  rcases h.2 with ⟨hn, h0⟩ | ⟨g, cap, cur, hv, hg, hh, hn, hm, hs, ht⟩
  · omega
  · injection hv with hv1 hv2 hv3
    refine ⟨g, hv1, hg, by simp [World.frozen?, hh], ?_⟩
    rw [cell_of_row _ _ _ _ _ _ hh]
    have hx : (l.map (Value.int .u8))[j]? = some (.int .u8 l[j]) := by simp [hj]
    rw [← ht, List.getElem?_take] at hx
    split at hx
    · simpa using hx
    · cases hx
/-- a byte xor 90 is one -/
theorem xor_byte {x : Int} (h : 0 ≤ x ∧ x ≤ 255) : 0 ≤ bits .xor .u8 x 90 ∧ bits .xor .u8 x 90 ≤ 255 := by
  have d : ∀ n : Fin 256, 0 ≤ bits .xor .u8 (n.val : Int) 90 ∧ bits .xor .u8 (n.val : Int) 90 ≤ 255 := by decide +kernel
  obtain ⟨n, rfl⟩ : ∃ n : Nat, x = n := ⟨x.toNat, by omega⟩
  exact d ⟨n, by omega⟩
end Wd
namespace Fa
open Wd We Dm Dc Dd Hm Hb He Hf Hh Hi Fm

theorem er_ne (l : List Int) : er l ≠ 0 := by
  unfold er
  by_cases h : brk l = 0
  · rw [if_pos h]; decide
  · rw [if_neg h]; exact h

set_option maxRecDepth 100000 in
set_option maxHeartbeats 4000000 in
theorem bodies_any (A : Option Addr) (n c : Nat) (l : List Int) (w : World) (s : Sl .u8 w A n c l) (hl : IsB l) (hn : n ≤ 140737488500000) :
    Calls Tryz.prog 23 #[.slice A n c] w fun e w' => ∃ v u, e = .returned (.tuple #[v, u, .int .i64 (er (frs l).2)]) ∧ OL 27 5 w' w.heap.size (fun k => u.ownBlock ≠ some k) v (frs l).1 ∧ Wd.Own .u8 5 w' w.heap.size u (frs l).2 ∧ Below w.heap.size w w' := by
  obtain ⟨i0, hii, hz0, hz1, hz2⟩ := info_parts bytes_info
  have S := Lib.hid s
  have HL := Lib.hid hl
  clear s hl
  go_enter Tryz.func23, Tryz.ntmps23
  go_wp2
  go_loopw [0, 5] (fun p ov wr => ∃ (A' : Option Addr) (m c' : Nat) (t : List Int) (done : List (List Int)), p = .slice A' m c' ∧ Hid (Sl .u8 w A' m c' t) ∧ Hid (IsB t) ∧ m + done.length * 18 ≤ n ∧ Hid (OL 27 5 wr w.heap.size (fun _ => True) ov done) ∧ Hid (Below w.heap.size w wr) ∧ Hid (frs l = (done ++ (frs t).1, (frs t).2))) (fun p _ _ => slen p)
  case atStart => exact ⟨A, n, c, l, [], rfl, S, HL, by simp, Lib.hid (OL.nil _ _ _ _ _), Lib.hid (Below.refl _ _), Lib.hid rfl⟩
  case round =>
    obtain ⟨A', m, c', t, done, rfl, hs, ht, hm, ho, hb, hf⟩ := hrel
    have hsz := hb.out.size
    have sw := hs.out.below hb.out
    have hlen := sw.len
    have hle := sw.le
    cases hq : cutF t with
    | none =>
      have CON := Lib.hid (rfirst_no _ _ _ _ _ sw ht.out hq)
      have HF := Lib.hid (hf.out.trans (by rw [frs_none hq, List.append_nil] : _ = (done, t)))
      have SW := Lib.hid sw
      have d : (er t != 0) = true := by have := er_ne t; simpa using this
      obtain ⟨E, hE⟩ : ∃ E, er t = E := ⟨_, rfl⟩
      have HE := Lib.hid hE
      rw [hE] at d CON
      clear sw hq hE hlen hle
      go_wp2_with fail
      refine CON.out.mono ?_
      rintro e w2 ⟨rfl, hb2⟩
      have C2 := Lib.hid (copy_wide _ _ _ _ w2 (SW.out.below hb2) (by omega))
      have OB := Lib.hid (OL.below (OL.bound ho.out) hb2)
      have HB2 := Lib.hid (hb.out.trans (hb2.mono hsz))
      have hsz2 := hb2.size
      clear hb2
      go_wp2_with fail
      refine C2.out.mono ?_
      rintro e w3 ⟨u, rfl, o3, b3⟩
      have O3 := Lib.hid (OL.mono (OL.below OB.out b3) (fun k (h : _ ∧ _ ∧ _) => (fun c => by have := (o3.lt c).1; omega : u.ownBlock ≠ some k)))
      have U3 := Lib.hid (o3.mono (show w.heap.size ≤ w2.heap.size by omega))
      have HB3 := Lib.hid (HB2.out.trans (b3.mono (show w.heap.size ≤ w2.heap.size by omega)))
      clear o3 b3
      go_wp2
      go_ret3
      rw [HF.out]
      exact ⟨_, u, by rw [HE.out]; rfl, O3.out, U3.out, HB3.out⟩
    | some p =>
      obtain ⟨b, r⟩ := p
      have CON := Lib.hid (rfirst_yes _ _ _ _ _ sw ht.out hq)
      have HF := Lib.hid (hf.out.trans (by rw [frs_some hq, List.append_assoc]; rfl : _ = ((done ++ [b]) ++ (frs r).1, (frs r).2)))
      have hmax : c' ≤ 9223372036854775807 := by have := sw.max; unfold maxLen at *; omega
      clear sw hq
      go_wp2_with fail
      refine CON.out.mono ?_
      rintro e w2 ⟨x, k, rfl, o2, hr, hk1, hk2, hb2⟩
      have SR := Lib.hid (Hb.Sl.fromV hs.out k hk2)
      rw [← hr] at SR
      have IR := Lib.hid (show IsB r by rw [hr]; exact ht.out.drop _)
      obtain ⟨vs, hrow, hel⟩ := OL.below ho.out hb2
      obtain ⟨X, cx, rfl, sx, _⟩ := o2.sl
      have HROW := Lib.hid hrow
      have HEL := Lib.hid hel
      have O2 := Lib.hid (o2.mono hsz)
      have HB2 := Lib.hid (hb.out.trans (hb2.mono hsz))
      have hsz2 := HB2.out.size
      clear hrow hel o2 hb2 hr sx
      have HM := Lib.hid hm
      have i1 : (k : Int) ≤ (m : Int) := by omega
      have i0' : (0 : Int) ≤ (k : Int) := by omega
      have hlm : (done ++ [b]).length = done.length + 1 := by simp
      have HLM := Lib.hid hlm
      clear hlm
      by_cases q1 : c' = k
      · obtain rfl : m = k := by omega
        subst q1
        go_wp2_with (at_builtin; refine wp_own rfl _ _ _ rfl w.heap.size Tryz.underlying23 hii hz0 hz1 hz2 rfl (xs := vs) (n := done.length) rfl (HROW.out.alloc (.cells #[.slice X b.length cx] 27)) (A := some ⟨w2.heap.size, 0, none⟩) (m := 1) (c := 1) (news := [.slice X b.length cx]) rfl rfl (fun e => by cases e) (fun ad e => by cases e; exact cell_one_new w2 _ _) (by simp [Value.oneCell']) (by have := HM.out; unfold maxLen; omega) (by have := HM.out; omega) (by simp; omega) ?_; intro v4 w4 o4 b4 g4 _; have O4 := Lib.hid (ol_apps (X := fun _ => True) (by decide) (HROW.out.alloc (.cells #[.slice X b.length cx] 27)) (fun i l hi => by obtain ⟨y, y1, y2, y3⟩ := HEL.out i l hi; exact ⟨y, y1, Wd.Own.below y2 (Dd.below_alloc w2 (.cells #[.slice X b.length cx] 27)) (fun g hg => (y2.lt hg).2), y3⟩) (one_at (Wd.Own.below O2.out (Dd.below_alloc w2 (.cells #[.slice X b.length cx] 27)) (fun g hg => (O2.out.lt hg).2)) (fun _ _ => trivial)) (by rw [List.length_append]; exact o4) g4); have H4 := Lib.hid (HB2.out.trans (((Below.refl w.heap.size w2).alloc (by omega) (.cells #[.slice X b.length cx] 27)).trans b4)); clear o4 b4 g4)
        go_roundw
        case rel => exact ⟨A', 0, 0, r, done ++ [b], by simp, Lib.hid (Sl.as SR.out (by simp) (by omega) (by omega) rfl), IR, by have := HLM.out; omega, O4, H4, HF⟩
        case measure => simp [slen]; omega
      · have q2 : ¬ (c' : Int) = (k : Int) := by omega
        go_wp2_with (at_builtin; refine wp_own rfl _ _ _ rfl w.heap.size Tryz.underlying23 hii hz0 hz1 hz2 rfl (xs := vs) (n := done.length) rfl (HROW.out.alloc (.cells #[.slice X b.length cx] 27)) (A := some ⟨w2.heap.size, 0, none⟩) (m := 1) (c := 1) (news := [.slice X b.length cx]) rfl rfl (fun e => by cases e) (fun ad e => by cases e; exact cell_one_new w2 _ _) (by simp [Value.oneCell']) (by have := HM.out; unfold maxLen; omega) (by have := HM.out; omega) (by simp; omega) ?_; intro v4 w4 o4 b4 g4 _; have O4 := Lib.hid (ol_apps (X := fun _ => True) (by decide) (HROW.out.alloc (.cells #[.slice X b.length cx] 27)) (fun i l hi => by obtain ⟨y, y1, y2, y3⟩ := HEL.out i l hi; exact ⟨y, y1, Wd.Own.below y2 (Dd.below_alloc w2 (.cells #[.slice X b.length cx] 27)) (fun g hg => (y2.lt hg).2), y3⟩) (one_at (Wd.Own.below O2.out (Dd.below_alloc w2 (.cells #[.slice X b.length cx] 27)) (fun g hg => (O2.out.lt hg).2)) (fun _ _ => trivial)) (by rw [List.length_append]; exact o4) g4); have H4 := Lib.hid (HB2.out.trans (((Below.refl w.heap.size w2).alloc (by omega) (.cells #[.slice X b.length cx] 27)).trans b4)); clear o4 b4 g4)
        go_roundw
        case rel => exact ⟨A'.map (fun x => x.add k), m - k, c' - k, r, done ++ [b], by simp, Lib.hid (Sl.as SR.out (if_neg q1) rfl rfl rfl), IR, by have := HLM.out; omega, O4, H4, HF⟩
        case measure => simp [slen]; omega
end Fa
end Go.Proofs.YtigiiofiajhnlaaGreatDoor
