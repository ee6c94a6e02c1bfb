/-
  What package head's tell, lengthOf, sizeOf, Parse compute.
-/
import Derived.Test.YtigiiofiajhnlaaGreatDoorHc
import Derived.Lib.SlBytesConst
namespace Go.Proofs.YtigiiofiajhnlaaGreatDoor
set_option linter.unusedVariables false
open Go.RowKit
namespace Hd
open Wd We Dm Da Dc Dd Hm Hb Hc

theorem fin_other {nm v : List Int} {told : Int} (h : ¬ nm.map low = cl) : fin nm v told = (told, 0) := by unfold fin; rw [if_neg h]
theorem fin_four {nm v : List Int} {told n : Int} (h : nm.map low = cl) (hp : ps (trm v) 65536 = (n, 4)) : fin nm v told = (0, 60) := by
  unfold fin; rw [if_pos h, hp]; simp
theorem fin_five {nm v : List Int} {told n : Int} (h : nm.map low = cl) (hp : ps (trm v) 65536 = (n, 5)) : fin nm v told = (0, 5) := by
  unfold fin; rw [if_pos h, hp]; simp
theorem fin_same {nm v : List Int} {told n : Int} (h : nm.map low = cl) (hp : ps (trm v) 65536 = (n, 0)) (ht : told = -1 ∨ told = n) : fin nm v told = (n, 0) := by
  unfold fin; rw [if_pos h, hp]
  rw [if_neg (by simp), if_neg]
  rintro (c | ⟨c1, c2⟩)
  · exact c rfl
  · rcases ht with g | g
    · exact c1 g
    · exact c2 g
theorem fin_unlike {nm v : List Int} {told n : Int} (h : nm.map low = cl) (hp : ps (trm v) 65536 = (n, 0)) (h1 : ¬ told = -1) (h2 : ¬ told = n) : fin nm v told = (0, 60) := by
  unfold fin; rw [if_pos h, hp]
  rw [if_neg (by simp), if_pos (.inr ⟨h1, h2⟩)]
theorem tel_none {x : List Int} {told : Int} (h : fnd [58] x = none) : tel x told = (0, 60) := by unfold tel; rw [h]
theorem tel_some {x : List Int} {told : Int} {j : Nat} (h : fnd [58] x = some j) : tel x told = if x.take j = [] ∨ (x.take j).all inN = false ∨ (x.drop (j + 1)).all inV = false then (0, 60) else fin (x.take j) (x.drop (j + 1)) told := by unfold tel; rw [h]

/-- Content-Length -/
def CL : List Int := [67, 111, 110, 116, 101, 110, 116, 45, 76, 101, 110, 103, 116, 104]
theorem CL_low : CL.map low = cl := by decide
theorem CL_asc : Asc CL := by
  intro x hx
  have : CL.all (fun x => decide (0 ≤ x ∧ x < 128)) = true := by decide
  exact of_decide_eq_true (List.all_eq_true.1 this x hx)
theorem asc_name {l : List Int} (h : l.all inN = true) : Asc l := fun x hx => by
  have := List.all_eq_true.1 h x hx
  unfold inN at this
  have := of_decide_eq_true this
  omega
theorem pair2 {a b : Int} {p : Int × Int} (h : p = (a, b)) : Ending.returned (.tuple #[.int .i64 a, .int .i64 b]) = .returned (.tuple #[.int .i64 p.1, .int .i64 p.2]) := by rw [h]

set_option maxRecDepth 100000 in
set_option maxHeartbeats 3200000 in
theorem tell_any (A : Option Addr) (n c : Nat) (l : List Int) (told : Int) (w : World) (s : Sl .u8 w A n c l) (hl : IsB l) (hn : n ≤ 512) (ht : told = -1 ∨ 0 ≤ told ∧ told ≤ 65536) (env : Env w) :
    Calls Tryz.prog 45 #[.slice A n c, .int .i64 told] w fun e w' => e = .returned (.tuple #[.int .i64 (tel l told).1, .int .i64 (tel l told).2]) ∧ Below w.heap.size w w' := by
  have hlen := s.len
  have S := Lib.hid s
  have HL := Lib.hid hl
  have HN := Lib.hid hlen
  have HE := Lib.hid env
  clear s hl hlen env
  have kc := fun (w : World) (C : Array Value) (n c : Nat) => Lib.run_convert_bytes_const (P := Tryz.prog) w 27 5 C n c Tryz.underlying27 Tryz.underlying5
  have s1 := S.out.alloc (.cells #[.int .u8 58] 5 (1, 2))
  have t1 : Sl .u8 (w.alloc (.cells #[.int .u8 58] 5 (1, 2))) (some ⟨w.heap.size, 0, none⟩) 1 1 [58] := Sl.mark w [58] 5 (1, 2) (by decide)
  have e1 := HE.out.below (below_alloc w (.cells #[.int .u8 58] 5 (1, 2)))
  have hb1 := below_alloc w (.cells #[.int .u8 58] 5 (1, 2))
  cases hf : fnd [58] l with
  | none =>
    have HT := Lib.hid (tel_none (told := told) hf)
    have CON := Lib.hid (cut_no _ _ _ _ _ _ _ _ _ s1 t1 HL.out (isB_all (by decide)) (by omega) e1 hf)
    clear s1 t1 e1 hf
    go_enter Tryz.func45, Tryz.ntmps45
    go_wp2_with fail
    refine CON.out.mono ?_
    rintro e w' ⟨rfl, q, rfl⟩
    go_wp2
    go_ret2
    exact ⟨pair2 HT.out, Wd.below_drewN hb1 q⟩
  | some j =>
    have HT := Lib.hid (tel_some (told := told) hf)
    have hj : j + 1 ≤ n := by rw [← HN.out]; exact (fnd_some hf).1
    have CON := Lib.hid (cut_yes _ _ _ _ _ _ _ _ _ s1 t1 HL.out (isB_all (by decide)) (by omega) e1 hf)
    have sn := s1.cut0 j (by omega)
    clear t1 hf s1
    go_enter Tryz.func45, Tryz.ntmps45
    go_wp2_with fail
    refine CON.out.mono ?_
    rintro e w' ⟨A2, rfl, sv, q, rfl⟩
    have SN := Lib.hid (sn.drewN q)
    have SV := Lib.hid (sv.drewN q)
    have E2 := Lib.hid (e1.drewN q)
    have HB2 := Lib.hid (Wd.below_drewN hb1 q)
    have HLN := Lib.hid (HL.out.take j)
    have HLV := Lib.hid (HL.out.drop (j + 1))
    clear sn sv e1 hb1 CON
    generalize (w.alloc (.cells #[.int .u8 58] 5 (1, 2))).drewN q = w2 at *
    generalize hnm : l.take j = nm at *
    generalize hvv : l.drop (j + 1) = v at *
    generalize hn2 : n - (j + 1) = n2 at *
    generalize hc2 : c - (j + 1) = c2 at *
    clear hnm hvv hc2
    go_wp2_with fail
    refine (isName_any _ _ _ _ _ SN.out HLN.out E2.out).mono ?_
    rintro e w3 ⟨rfl, hb3⟩
    by_cases hnm1 : nm = [] ∨ nm.all inN = false
    · have hbad : (decide (nm ≠ []) && nm.all inN) = false := by
        rcases hnm1 with g | g
        · rw [g]; rfl
        · rw [g, Bool.and_false]
      rw [hbad]
      have HT2 : tel l told = (0, 60) := by
        rw [HT.out, if_pos]
        rcases hnm1 with g | g
        · exact .inl g
        · exact .inr (.inl g)
      have HT2 := Lib.hid HT2
      clear hnm1 hbad
      go_wp2
      go_ret2
      exact ⟨pair2 HT2.out, ext_trans HB2.out hb3⟩
    · rw [not_or] at hnm1
      have hall : nm.all inN = true := by
        cases e : nm.all inN with
        | true => rfl
        | false => exact absurd e hnm1.2
      have hgood : (decide (nm ≠ []) && nm.all inN) = true := by rw [hall, decide_eq_true hnm1.1]; rfl
      rw [hgood]
      have HNE := Lib.hid hnm1.1
      have HALL := Lib.hid hall
      have SV3 := Lib.hid (SV.out.below hb3)
      have SN3 := Lib.hid (SN.out.below hb3)
      have E3 := Lib.hid (E2.out.below hb3)
      have HB3 := Lib.hid (ext_trans HB2.out hb3)
      clear hnm1 hall hgood hb3
      go_wp2_with fail
      refine (isValue_any _ _ _ _ _ SV3.out HLV.out E3.out).mono ?_
      rintro e w4 ⟨rfl, hb4⟩
      cases hval : v.all inV with
      | false =>
        have HT2 : tel l told = (0, 60) := by rw [HT.out, if_pos (.inr (.inr hval))]
        have HT2 := Lib.hid HT2
        go_wp2
        go_ret2
        exact ⟨pair2 HT2.out, ext_trans HB3.out hb4⟩
      | true =>
        have HT2 : tel l told = fin nm v told := by
          rw [HT.out, if_neg]
          rintro (c | c | c)
          · exact HNE.out c
          · rw [HALL.out] at c; cases c
          · rw [hval] at c; cases c
        have HT2 := Lib.hid HT2
        have SV4 := Lib.hid (SV3.out.below hb4)
        have SN4 := Lib.hid (SN3.out.below hb4)
        have HB4 := Lib.hid (ext_trans HB3.out hb4)
        clear hval hb4
        have s5 := SN4.out.alloc (.cells #[.int .u8 67, .int .u8 111, .int .u8 110, .int .u8 116, .int .u8 101, .int .u8 110, .int .u8 116, .int .u8 45, .int .u8 76, .int .u8 101, .int .u8 110, .int .u8 103, .int .u8 116, .int .u8 104] 5 (14, 15))
        have t5 : Sl .u8 (w4.alloc (.cells #[.int .u8 67, .int .u8 111, .int .u8 110, .int .u8 116, .int .u8 101, .int .u8 110, .int .u8 116, .int .u8 45, .int .u8 76, .int .u8 101, .int .u8 110, .int .u8 103, .int .u8 116, .int .u8 104] 5 (14, 15))) (some ⟨w4.heap.size, 0, none⟩) 14 14 CL := Sl.mark w4 CL 5 (14, 15) (by decide)
        have S5 := Lib.hid s5
        have T5 := Lib.hid t5
        clear s5 t5
        go_wp2_with fail
        refine (fold_any _ _ _ _ _ _ _ _ _ S5.out T5.out (asc_name HALL.out) CL_asc).mono ?_
        rintro e w5 ⟨rfl, hw5⟩
        rw [CL_low]
        have hb5 : Below w4.heap.size w4 w5 := by rw [← hw5]; exact below_alloc _ _
        clear hw5
        by_cases hcl : nm.map low = cl
        · rw [decide_eq_true hcl]
          have HCL := Lib.hid hcl
          have SV5 := Lib.hid (SV4.out.below hb5)
          have HB5 := Lib.hid (ext_trans HB4.out hb5)
          clear hcl hb5
          go_wp2_with fail
          refine (trim_any _ _ _ _ _ SV5.out HLV.out).mono ?_
          rintro e w6 ⟨A6, n6, c6, rfl, s6, hb6⟩
          have S6 := Lib.hid (s6.below hb6)
          have HB6 := Lib.hid (ext_trans HB5.out hb6)
          have hr := ps_range (trm v)
          have hisb : IsB (trm v) := fun x hx => by
            have := (List.dropWhile_sublist isBl).subset hx
            have := (List.dropWhile_sublist isBl).subset (List.mem_reverse.1 this)
            exact HLV.out x (List.mem_reverse.1 this)
          have HISB := Lib.hid hisb
          clear s6 hb6 hisb
          go_wp2_with fail
          refine (parse_any _ _ _ _ _ _ S6.out HISB.out (by omega)).mono ?_
          rintro e w' ⟨rfl, rfl⟩
          obtain ⟨x, er, hp⟩ : ∃ x er, ps (trm v) 65536 = (x, er) := ⟨_, _, rfl⟩
          rw [hp] at hr ⊢
          have HP := Lib.hid hp
          obtain ⟨hr1, hr2, hr3⟩ := hr
          have hr1 : er = 0 ∨ er = 4 ∨ er = 5 := hr1
          have hr2 : 0 ≤ x := hr2
          have hr3 : x ≤ 65536 := hr3
          clear hp
          rcases hr1 with rfl | rfl | rfl
          · by_cases h1 : told = -1
            · have HT3 := Lib.hid (HT2.out.trans (fin_same HCL.out HP.out (.inl h1)))
              subst h1
              go_wp2
              go_ret2
              exact ⟨pair2 HT3.out, HB6.out⟩
            · have d1 : (told != -1) = true := by simpa using h1
              by_cases h2 : told = x
              · have HT3 := Lib.hid (HT2.out.trans (fin_same HCL.out HP.out (.inr h2)))
                have d2 : (told != x) = false := by simpa using h2
                clear h1 h2
                go_wp2
                go_ret2
                exact ⟨pair2 HT3.out, HB6.out⟩
              · have HT3 := Lib.hid (HT2.out.trans (fin_unlike HCL.out HP.out h1 h2))
                have d2 : (told != x) = true := by simpa using h2
                clear h1 h2
                go_wp2
                go_ret2
                exact ⟨pair2 HT3.out, HB6.out⟩
          · have HT3 := Lib.hid (HT2.out.trans (fin_four HCL.out HP.out))
            go_wp2
            go_ret2
            exact ⟨pair2 HT3.out, HB6.out⟩
          · have HT3 := Lib.hid (HT2.out.trans (fin_five HCL.out HP.out))
            go_wp2
            go_ret2
            exact ⟨pair2 HT3.out, HB6.out⟩
        · rw [decide_eq_false hcl]
          have HT3 := Lib.hid (HT2.out.trans (fin_other hcl))
          clear hcl
          go_wp2
          go_ret2
          exact ⟨pair2 HT3.out, ext_trans HB4.out hb5⟩
end Hd
end Go.Proofs.YtigiiofiajhnlaaGreatDoor
