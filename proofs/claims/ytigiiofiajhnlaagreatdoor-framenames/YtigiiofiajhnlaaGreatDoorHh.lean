/-
  What the document's Line of layer 6 computes.
-/
import Derived.Test.YtigiiofiajhnlaaGreatDoorHf
namespace Go.Proofs.YtigiiofiajhnlaaGreatDoor
set_option linter.unusedVariables false
open Go.RowKit
namespace Hh
open Wd We Dm Da Db Dc Dd Hm Hb Hc Hd He Hg Hf

theorem lead (q : Int → Bool) : ∀ l : List Int, ∃ k, k ≤ l.length ∧ (∀ a ∈ l.take k, q a = true) ∧ ∀ a, l[k]? = some a → q a = false
  | [] => ⟨0, Nat.le_refl _, fun a ha => by simp at ha, fun a ha => by simp at ha⟩
  | x :: l => by
    cases e : q x with
    | false => exact ⟨0, Nat.zero_le _, fun a ha => by simp at ha, fun a ha => by simp at ha; subst ha; exact e⟩
    | true =>
      obtain ⟨k, h1, h2, h3⟩ := lead q l
      refine ⟨k + 1, by simpa using h1, fun a ha => ?_, fun a ha => h3 a (by simpa using ha)⟩
      rw [List.take_succ_cons] at ha
      rcases List.mem_cons.1 ha with g | g
      · rw [g]; exact e
      · exact h2 a g
theorem lead_at {q : Int → Bool} {l : List Int} {k j : Nat} {x : Int} (h : ∀ a ∈ l.take k, q a = true) (hj : j < k) (hx : l[j]? = some x) : q x = true :=
  h x (List.mem_of_getElem? (i := j) (by rw [List.getElem?_take, if_pos hj]; exact hx))
theorem all_next {q : Int → Bool} {l : List Int} {k : Nat} {x : Int} (h : ∀ a ∈ l.take k, q a = true) (hx : l[k]? = some x) (hq : q x = true) : ∀ a ∈ l.take (k + 1), q a = true := fun a ha => by
  rw [List.take_add_one, hx] at ha
  rcases List.mem_append.1 ha with g | g
  · exact h a g
  · simp at g; rw [g]; exact hq
theorem cut_last {l : List Int} {n : Nat} {x : Int} (hn : l.length = n) (hx : l[n - 1]? = some x) (h0 : 0 < n) : l = l.take (n - 1) ++ [x] := by
  have e := List.take_add_one (l := l) (i := n - 1)
  rw [hx, show n - 1 + 1 = n by omega, List.take_of_length_le (by omega)] at e
  exact e
theorem last_at {l : List Int} {n : Nat} {x : Int} (hn : l.length = n) (hx : l[n - 1]? = some x) : ∀ y, l.getLast? = some y → y = x := fun y hy => by
  rw [List.getLast?_eq_getElem?, hn, hx] at hy; injection hy with hy; exact hy.symm

set_option maxRecDepth 100000 in
set_option maxHeartbeats 3200000 in
theorem line_any (A : Option Addr) (n c : Nat) (l : List Int) (w : World) (s : Sl .u8 w A n c l) (hb : IsB l) (hn : n ≤ 512) :
    Calls Tryz.prog 49 #[.slice A n c] w fun e w' => Below w.heap.size w w' ∧ ((e = .returned (.tuple #[.string ⟨#[]⟩, .slice none 0 0, .bool false]) ∧ ∀ told, tel l told = (0, 60)) ∨
      ∃ nm v A2 c2, e = .returned (.tuple #[.string (bs (nm.map Hm.low)), .slice A2 (trm v).length c2, .bool true]) ∧ IsB nm ∧ Sl .u8 w' A2 (trm v).length c2 (trm v) ∧ IsB v ∧ ∀ told, tel l told = fin nm v told) := by
  have hlen := s.len
  have hle := s.le
  obtain ⟨k0, hk0, hl1, hl2⟩ := lead inN l
  rw [hlen] at hk0
  have S := Lib.hid s
  have HL := Lib.hid hlen
  have HB := Lib.hid hb
  have HL1 := Lib.hid hl1
  have HL2 := Lib.hid hl2
  clear s hlen hb hl1 hl2
  go_enter Tryz.func49, Tryz.ntmps49
  go_wp2
  go_loop [5] (fun ix => ∃ k : Nat, k ≤ k0 ∧ ix = .int .i64 k) (fun ix => k0 - (intOf ix).toNat)
  case atStart => exact ⟨0, Nat.zero_le _, rfl⟩
  case round =>
    obtain ⟨k, hk, rfl⟩ := hrel
    by_cases hkk : k < k0
    · have i1 : (k : Int) < (n : Int) := by omega
      obtain ⟨b1, o1, x, rfl, hx, hcx, _⟩ := S.out.row.look (j := k) (by omega)
      have HX := Lib.hid (lead_at HL1.out hkk hx)
      have hxb := HB.out.at_ hx
      clear hx
      go_wp2_with fail
      refine (inName_any _ _ hxb).mono ?_
      rintro e w' ⟨rfl, rfl⟩
      rw [HX.out]
      go_wp2
      go_round
      case rel => exact ⟨k + 1, by omega, by go_num⟩
      case measure => simp [intOf]; omega
    · obtain rfl : k0 = k := by omega
      clear hk hkk
      generalize k0 = k at *
      by_cases hkn : k < n
      · have i1 : (k : Int) < (n : Int) := by omega
        have i1' : ¬ (n : Int) ≤ (k : Int) := by omega
        obtain ⟨b1, o1, x, rfl, hx, hcx, _⟩ := S.out.row.look (j := k) (by omega)
        have HX := Lib.hid (HL2.out x hx)
        have hxb := HB.out.at_ hx
        by_cases h0 : k = 0
        · have HR := Lib.hid (fun told => tel_bad told HL1.out (by rw [HL.out]; omega) HL2.out (.inl h0))
          have d0 : ((k : Int) == 0) = true := by simp; omega
          clear hx h0
          go_wp2_with fail
          refine (inName_any _ _ hxb).mono ?_
          rintro e w' ⟨rfl, rfl⟩
          rw [HX.out]
          go_wp2
          go_ret3
          exact ⟨Below.refl _ _, .inl ⟨rfl, HR.out⟩⟩
        · have d0 : ((k : Int) == 0) = false := by simp; omega
          by_cases h58 : x = 58
          · subst h58
            have HTG := Lib.hid (fun told => tel_good told HL1.out (by omega) hx)
            obtain ⟨K1, hK1⟩ : ∃ K1, K1 = k + 1 := ⟨_, rfl⟩
            have HK : (k : Int) + 1 = (K1 : Int) := by omega
            have hKn : K1 ≤ n := by omega
            have hKn' : (K1 : Int) ≤ (n : Int) := by omega
            have tv := S.out.cutS K1 (n - K1) (by omega)
            rw [List.take_of_length_le (by rw [List.length_drop, HL.out]; exact Nat.le_refl _)] at tv
            have TV := Lib.hid tv
            rw [← hK1] at HTG
            have HBV := Lib.hid (HB.out.drop K1)
            have hN : n - K1 ≤ 512 := by omega
            clear hx h0 hK1 tv
            by_cases hcK : c = K1
            · have hn0 : n = K1 := by omega
              have hv0 : l.drop K1 = [] := List.drop_eq_nil_of_le (by rw [HL.out]; omega)
              have HG := Lib.hid (show ∀ told, tel l told = fin (l.take k) [] told from fun told => by rw [HTG.out told, hv0, if_neg (by simp)])
              have HBV0 := Lib.hid (show IsB [] from fun x hx => by simp at hx)
              have TM : Sl .u8 w (some ⟨b1, o1, none⟩) 0 0 [] := ⟨Row.nil, Nat.le_refl _, Nat.zero_le _, fun e => by cases e⟩
              have TM := Lib.hid TM
              clear HTG TV hv0 hN
              subst hn0
              subst hcK
              go_wp2_with fail
              refine (inName_any _ _ hxb).mono ?_
              rintro e w' ⟨rfl, rfl⟩
              rw [HX.out]
              go_wp2
              go_loop [7] (fun ix => ix = .int .i64 0) (fun _ => 0)
              case atStart => rfl
              case round =>
                obtain rfl := hrel
                go_wp2
                go_loop [6] (fun sv => sv = .slice (some ⟨b1, o1, none⟩) 0 0) (fun _ => 0)
                case atStart => rfl
                case round =>
                  obtain rfl := hrel
                  go_wp2
                  go_loop [6] (fun sv => sv = .slice (some ⟨b1, o1, none⟩) 0 0) (fun _ => 0)
                  case atStart => rfl
                  case round =>
                    obtain rfl := hrel
                    go_wp2_with fail
                    refine (low_any _ _ _ _ _ (S.out.cut0 k (by omega)) (HB.out.take k) (by omega)).mono ?_
                    rintro e w1 ⟨rfl, hb1⟩
                    have T1 := Lib.hid (TM.out.below hb1)
                    have HB1 := Lib.hid hb1
                    clear hb1
                    go_wp2_with fail
                    refine (copy_any _ _ _ _ _ T1.out (by omega)).mono ?_
                    rintro e w2 ⟨v2, rfl, o2, hb2⟩
                    obtain ⟨A3, c3, rfl, t3, -⟩ := o2.sl
                    have T3 := Lib.hid t3
                    clear o2 t3
                    go_wp2
                    go_ret3
                    refine ⟨ext_trans HB1.out hb2, .inr ⟨l.take k, [], A3, c3, ?_, HB.out.take k, ?_, HBV0.out, HG.out⟩⟩
                    · rw [List.map_take]; try rfl
                    · exact T3.out
            · go_wp2_with fail
              refine (inName_any _ _ hxb).mono ?_
              rintro e w' ⟨rfl, rfl⟩
              rw [HX.out]
              go_wp2
              generalize l.drop K1 = v at *
              generalize n - K1 = N at *
              generalize c - K1 = C at *
              generalize o1 + K1 = O at *
              go_loop [7] (fun ix => ∃ i : Nat, i ≤ N ∧ ix = .int .i64 i ∧ ∀ a ∈ v.take i, inV a = true) (fun ix => N - (intOf ix).toNat)
              case atStart => exact ⟨0, Nat.zero_le _, rfl, fun a ha => by simp at ha⟩
              case round =>
                obtain ⟨i, hi, rfl, hall⟩ := hrel
                have HALL := Lib.hid hall
                clear hall
                by_cases hiN : i < N
                · have i2 : (i : Int) < (N : Int) := by omega
                  obtain ⟨b2, o2, y, hA, hy, hcy, _⟩ := TV.out.row.look (j := i) (by omega)
                  injection hA with hA; injection hA with hA1 hA2; subst hA1; subst hA2
                  have HY := Lib.hid hy
                  clear hy
                  by_cases h9 : y = 9
                  · have d9 : (y != 9) = false := by simpa using h9
                    have HN2 := Lib.hid (all_next HALL.out HY.out (by unfold inV; exact decide_eq_true (.inl h9)))
                    clear h9
                    go_wp2
                    go_round
                    case rel => exact ⟨i + 1, by omega, by go_num, HN2.out⟩
                    case measure => simp [intOf]; omega
                  · have d9 : (y != 9) = true := by simpa using h9
                    by_cases h32 : y < 32
                    · have HR : inV y = false := by unfold inV; exact decide_eq_false (by omega)
                      have HR2 := Lib.hid (show (v.all inV) = false from List.all_eq_false.2 ⟨y, List.mem_of_getElem? HY.out, by rw [HR]; simp⟩)
                      clear h9 HR
                      go_wp2
                      go_ret3
                      exact ⟨Below.refl _ _, .inl ⟨rfl, fun told => by rw [HTG.out told, if_pos HR2.out]⟩⟩
                    · by_cases h126 : 126 < y
                      · have HR : inV y = false := by unfold inV; exact decide_eq_false (by omega)
                        have HR2 := Lib.hid (show (v.all inV) = false from List.all_eq_false.2 ⟨y, List.mem_of_getElem? HY.out, by rw [HR]; simp⟩)
                        clear h9 HR
                        go_wp2
                        go_ret3
                        exact ⟨Below.refl _ _, .inl ⟨rfl, fun told => by rw [HTG.out told, if_pos HR2.out]⟩⟩
                      · have HN2 := Lib.hid (all_next HALL.out HY.out (by unfold inV; exact decide_eq_true (.inr ⟨by omega, by omega⟩)))
                        clear h9
                        go_wp2
                        go_round
                        case rel => exact ⟨i + 1, by omega, by go_num, HN2.out⟩
                        case measure => simp [intOf]; omega
                · obtain rfl : i = N := by omega
                  have hva : v.all inV = true := List.all_eq_true.2 (by have := HALL.out; rwa [List.take_of_length_le (by rw [TV.out.len]; exact Nat.le_refl _)] at this)
                  have HG := Lib.hid (show ∀ told, tel l told = fin (l.take k) v told from fun told => by rw [HTG.out told, if_neg (by rw [hva]; simp)])
                  clear hva hi
                  go_wp2
                  go_loop [6] (fun sv => ∃ (o N' C' : Nat) (m pre : List Int), sv = .slice (some ⟨b1, o, none⟩) N' C' ∧ N' ≤ 512 ∧ Sl .u8 w (some ⟨b1, o, none⟩) N' C' m ∧ v = pre ++ m ∧ ∀ a ∈ pre, isBl a = true) (fun sv => slen sv)
                  case atStart => exact ⟨O, i, C, v, [], rfl, hN, TV.out, rfl, fun a ha => by simp at ha⟩
                  case round =>
                    obtain ⟨o, N', C', m, pre, rfl, hN', tm, hvm, hpre⟩ := hrel
                    have hlm := tm.len
                    have hlc := tm.le
                    have TM := Lib.hid tm
                    have HVM := Lib.hid hvm
                    have HPRE := Lib.hid hpre
                    have HLM := Lib.hid hlm
                    clear tm hvm hpre hlm
                    by_cases hz : N' = 0
                    · subst hz
                      obtain rfl : m = [] := List.eq_nil_of_length_eq_zero HLM.out
                      have HTR := Lib.hid (show trm v = [] by
                        have := trm_of (pre := pre) (m := []) (post := []) HPRE.out (fun x hx => by simp at hx) (fun x hx => by simp at hx) (fun x hx => by simp at hx)
                        rwa [List.append_nil, ← HVM.out] at this)
                      go_wp2
                      go_loop [6] (fun sv => sv = .slice (some ⟨b1, o, none⟩) 0 C') (fun _ => 0)
                      case atStart => rfl
                      case round =>
                        obtain rfl := hrel
                        go_wp2_with fail
                        refine (low_any _ _ _ _ _ (S.out.cut0 k (by omega)) (HB.out.take k) (by omega)).mono ?_
                        rintro e w1 ⟨rfl, hb1⟩
                        have T1 := Lib.hid (TM.out.below hb1)
                        have HB1 := Lib.hid hb1
                        clear hb1
                        go_wp2_with fail
                        refine (copy_any _ _ _ _ _ T1.out (by omega)).mono ?_
                        rintro e w2 ⟨v2, rfl, o2, hb2⟩
                        obtain ⟨A3, c3, rfl, t3, -⟩ := o2.sl
                        have T3 := Lib.hid t3
                        clear o2 t3
                        go_wp2
                        go_ret3
                        refine ⟨ext_trans HB1.out hb2, .inr ⟨l.take k, v, A3, c3, ?_, HB.out.take k, ?_, HBV.out, HG.out⟩⟩
                        · rw [HTR.out, List.map_take]; try rfl
                        · rw [HTR.out]; exact T3.out
                    · have p1 : (0 : Int) < (N' : Int) := by omega
                      obtain ⟨b2, o2, y, hA, hy, hcy, _⟩ := TM.out.row.look (j := 0) (by omega)
                      injection hA with hA; injection hA with hA1 hA2; subst hA1; subst hA2
                      rw [Nat.add_zero] at hcy
                      have HY := Lib.hid hy
                      clear hy
                      cases hbl : isBl y with
                      | true =>
                        have tn := TM.out.cutS 1 (N' - 1) (by omega)
                        rw [List.take_of_length_le (by rw [List.length_drop, HLM.out]; exact Nat.le_refl _)] at tn
                        have TN := Lib.hid tn
                        have hvm2 : v = (pre ++ [y]) ++ m.drop 1 := by
                          rw [HVM.out, List.append_assoc]
                          congr 1
                          have := HY.out
                          cases m with
                          | nil => simp at this
                          | cons a m => simp at this; subst this; rfl
                        have HVM2 := Lib.hid hvm2
                        have HP2 := Lib.hid (show ∀ a ∈ pre ++ [y], isBl a = true from fun a ha => by
                          rcases List.mem_append.1 ha with g | g
                          · exact HPRE.out a g
                          · rw [List.mem_singleton.1 g]; exact hbl)
                        have HBL := Lib.hid hbl
                        have p2 : (1 : Int) ≤ (N' : Int) := by omega
                        clear tn hvm2 hbl
                        by_cases hC1 : C' = 1
                        · obtain rfl : N' = 1 := by omega
                          have hm0 : m.drop 1 = [] := List.drop_eq_nil_of_le (by rw [HLM.out]; exact Nat.le_refl _)
                          rw [hm0] at HVM2
                          subst hC1
                          clear hm0
                          go_wp2_with fail
                          refine (blank_any _ _).mono ?_
                          rintro e w' ⟨rfl, rfl⟩
                          rw [HBL.out]
                          go_wp2
                          go_round
                          case rel => exact ⟨o, 0, 0, [], pre ++ [y], rfl, by omega, ⟨Row.nil, Nat.le_refl _, Nat.zero_le _, fun e => by cases e⟩, HVM2.out, HP2.out⟩
                          case measure => simp [slen]
                        · go_wp2_with fail
                          refine (blank_any _ _).mono ?_
                          rintro e w' ⟨rfl, rfl⟩
                          rw [HBL.out]
                          go_wp2
                          go_round
                          case rel => exact ⟨o + 1, N' - 1, C' - 1, m.drop 1, pre ++ [y], rfl, by omega, TN.out, HVM2.out, HP2.out⟩
                          case measure => simp [slen]; omega
                      | false =>
                        have HBL := Lib.hid hbl
                        clear hbl
                        go_wp2_with fail
                        refine (blank_any _ _).mono ?_
                        rintro e w' ⟨rfl, rfl⟩
                        rw [HBL.out]
                        go_wp2
                        go_loop [6] (fun sv => ∃ (M : Nat) (m1 post : List Int), sv = .slice (some ⟨b1, o, none⟩) M C' ∧ M ≤ 512 ∧ Sl .u8 w (some ⟨b1, o, none⟩) M C' m1 ∧ m = m1 ++ post ∧ ∀ a ∈ post, isBl a = true) (fun sv => slen sv)
                        case atStart => exact ⟨N', m, [], rfl, hN', TM.out, by simp, fun a ha => by simp at ha⟩
                        case round =>
                          obtain ⟨M, m1, post, rfl, hM, tm1, hm1, hpost⟩ := hrel
                          have hlm1 := tm1.len
                          have hM0 : 0 < M := by
                            rcases Nat.eq_zero_or_pos M with g | g
                            · exfalso
                              subst g
                              obtain rfl : m1 = [] := List.eq_nil_of_length_eq_zero hlm1
                              have h1 := HY.out
                              rw [hm1, List.nil_append] at h1
                              have := hpost y (List.mem_of_getElem? h1)
                              rw [HBL.out] at this; cases this
                            · exact g
                          have hlc1 := tm1.le
                          obtain ⟨b2, o2, z, hA, hz2, hcz, _⟩ := tm1.row.look (j := M - 1) (by omega)
                          injection hA with hA; injection hA with hA1 hA2; subst hA1; subst hA2
                          have TM := Lib.hid tm1
                          have HM1 := Lib.hid hm1
                          have HPO := Lib.hid hpost
                          have HLM1 := Lib.hid hlm1
                          have HZ := Lib.hid hz2
                          clear tm1 hm1 hpost hlm1 hz2
                          obtain ⟨J, hJ⟩ : ∃ J, J = M - 1 := ⟨_, rfl⟩
                          rw [← hJ] at hcz HZ
                          have HJ : (M : Int) - 1 = (J : Int) := by omega
                          have q1 : (0 : Int) < (M : Int) := by omega
                          have q2 : (J : Int) < (M : Int) := by omega
                          have q3 : (J : Int) ≤ (C' : Int) := by omega
                          have hJM : J < M := by omega
                          have HJ1 := Lib.hid hJ
                          clear hJ
                          cases hbz : isBl z with
                          | true =>
                            have TN := Lib.hid (TM.out.cut0 J (by omega))
                            have HM2 := Lib.hid (show m = m1.take J ++ (z :: post) by
                              have e := cut_last HLM1.out (by rw [← HJ1.out]; exact HZ.out) hM0
                              rw [HM1.out]
                              conv => lhs; rw [e]
                              rw [List.append_assoc, ← HJ1.out]; rfl)
                            have HP3 := Lib.hid (show ∀ a ∈ z :: post, isBl a = true from fun a ha => by
                              rcases List.mem_cons.1 ha with g | g
                              · rw [g]; exact hbz
                              · exact HPO.out a g)
                            have HBZ := Lib.hid hbz
                            clear hbz
                            go_wp2_with fail
                            refine (blank_any _ _).mono ?_
                            rintro e w' ⟨rfl, rfl⟩
                            rw [HBZ.out]
                            go_wp2
                            go_round
                            case rel => exact ⟨J, m1.take J, z :: post, rfl, by omega, TN.out, HM2.out, HP3.out⟩
                            case measure => simp [slen]; omega
                          | false =>
                            have HBZ := Lib.hid hbz
                            have HTR := Lib.hid (show trm v = m1 by
                              rw [HVM.out, HM1.out]
                              refine trm_of HPRE.out HPO.out (fun x hx => ?_) (fun x hx => ?_)
                              · have h1 := HY.out
                                rw [HM1.out] at h1
                                cases m1 with
                                | nil => simp at hx
                                | cons a m1 =>
                                  simp at hx h1
                                  subst hx; rw [h1]; exact HBL.out
                              · rw [last_at HLM1.out (by rw [← HJ1.out]; exact HZ.out) x hx]; exact hbz)
                            clear hbz
                            go_wp2_with fail
                            refine (blank_any _ _).mono ?_
                            rintro e w' ⟨rfl, rfl⟩
                            rw [HBZ.out]
                            have hlm3 := HLM1.out
                            have HTR2 := HTR
                            go_wp2_with fail
                            refine (low_any _ _ _ _ _ (S.out.cut0 k (by omega)) (HB.out.take k) (by omega)).mono ?_
                            rintro e w1 ⟨rfl, hb1⟩
                            have T1 := Lib.hid (TM.out.below hb1)
                            have HB1 := Lib.hid hb1
                            clear hb1
                            go_wp2_with fail
                            refine (copy_any _ _ _ _ _ T1.out (by omega)).mono ?_
                            rintro e w2 ⟨v2, rfl, o2, hb2⟩
                            obtain ⟨A3, c3, rfl, t3, -⟩ := o2.sl
                            have T3 := Lib.hid t3
                            clear o2 t3
                            go_wp2
                            go_ret3
                            refine ⟨ext_trans HB1.out hb2, .inr ⟨l.take k, v, A3, c3, ?_, HB.out.take k, ?_, HBV.out, HG.out⟩⟩
                            · rw [HTR.out, HLM1.out, List.map_take]; try rfl
                            · rw [HTR.out]; exact T3.out
          · have HR := Lib.hid (fun told => tel_bad told HL1.out (by rw [HL.out]; omega) HL2.out (.inr (by rw [hx]; intro c; injection c with c; exact h58 c)))
            have d1 : (x != 58) = true := by simpa using h58
            clear hx h0 h58
            go_wp2_with fail
            refine (inName_any _ _ hxb).mono ?_
            rintro e w' ⟨rfl, rfl⟩
            rw [HX.out]
            go_wp2
            go_ret3
            exact ⟨Below.refl _ _, .inl ⟨rfl, HR.out⟩⟩
      · have hkn' : k = n := by omega
        have HR := Lib.hid (fun told => tel_bad told HL1.out (by rw [HL.out]; omega) HL2.out (.inr (by rw [List.getElem?_eq_none (by rw [HL.out]; omega)]; simp)))
        have i1 : ¬ (k : Int) < (n : Int) := by omega
        have i2 : (n : Int) ≤ (k : Int) := by omega
        clear hkn hkn'
        by_cases h0 : k = 0
        · have d0 : ((k : Int) == 0) = true := by simp; omega
          clear h0
          go_wp2
          go_ret3
          exact ⟨Below.refl _ _, .inl ⟨rfl, HR.out⟩⟩
        · have d0 : ((k : Int) == 0) = false := by simp; omega
          clear h0
          go_wp2
          go_ret3
          exact ⟨Below.refl _ _, .inl ⟨rfl, HR.out⟩⟩
end Hh
end Go.Proofs.YtigiiofiajhnlaaGreatDoor
