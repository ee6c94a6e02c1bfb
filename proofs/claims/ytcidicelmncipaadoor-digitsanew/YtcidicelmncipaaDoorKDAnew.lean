/-
  The walk of DigitsAnew.
-/
import Derived.Test.YtcidicelmncipaaDoorDd
import Derived.Test.YtcidicelmncipaaDoorWp
namespace Go.Proofs.YtcidicelmncipaaDoor
set_option linter.unusedVariables false
open Go.RowKit Go.ChangeShapes Go.WideShapes
open Wd We Dm Da Db It Dc Dd

/-- the text of a number that was parsed is what stands behind the noughts -/
theorem anew {d : List Int} (hd : Ds d) {j : Nat} (hj : j + 1 ≤ d.length) (h : d.take j = List.replicate j 48) (he : j + 1 = d.length ∨ d[j]? ≠ some 48) : decs (vl d).toNat = d.drop j := by
  have e : d = List.replicate j 48 ++ d.drop j := by rw [← h, List.take_append_drop]
  have hv : vl d = vl (d.drop j) := by
    have h1 := vl_nought j (d.drop j)
    rw [← e] at h1
    exact h1
  rw [hv]
  refine decs_vl (fun x hx => hd x (List.mem_of_mem_drop hx)) ?_ ?_
  · intro g
    have := congrArg List.length g
    rw [List.length_drop, List.length_nil] at this
    omega
  · rcases he with g | g
    · exact .inl (by rw [List.length_drop]; omega)
    · refine .inr ?_
      rw [List.head?_drop]; exact g

set_option maxRecDepth 100000 in
set_option maxHeartbeats 1600000 in
theorem walk_DigitsAnew (A0 : Option Addr) (n0 c0 : Nat) (l0 : List Int) (w : World) (s0 : Sl .u8 w A0 n0 c0 l0) (b0 : ∀ x ∈ l0, (Lit.int .u8 x).wf = true) (z0 : c0 * 1 ≤ 140737488351232) (tab : It.Tab w) :
    Calls Tryd.prog 7 #[.slice A0 n0 c0] w fun e w' => e = .returned (.bool true) ∧ Below w.heap.size w w' := by
  have hmax : n0 ≤ 9223372036854775807 := by have := s0.max; have := s0.le; unfold maxLen at *; omega
  have S := Lib.hid s0
  have HB := Lib.hid (isB_of b0)
  have T := Lib.hid tab
  obtain ⟨i0, hi, hz0, hz1, hz2⟩ := info_parts u8_info
  clear s0 b0 z0 tab
  go_enter Tryd.func7, Tryd.ntmps7
  go_wp2_with fail
  go_loopw [3, 4] (fun v ix wr => ∃ (k c : Nat) (A : Option Addr) (d : List Int), k ≤ n0 ∧ k ≤ 18 ∧ d.length = k ∧ ix = .int .i64 k ∧ v = .slice A k c ∧ Own .u8 5 wr w.heap.size (.slice A k c) d ∧ Ds d ∧ Below w.heap.size w wr) (fun _ ix _ => n0 - (intOf ix).toNat)
  case atStart => exact ⟨0, 0, none, [], Nat.zero_le _, Nat.zero_le _, rfl, rfl, rfl, Own.nil, by intro x hx; simp at hx, Below.refl _ _⟩
  case round =>
    obtain ⟨k, c, A, d, h1, h2, h3, rfl, rfl, ho, hd, hb⟩ := hrel
    have HO := Lib.hid ho
    have HD := Lib.hid hd
    have HB1 := Lib.hid hb
    have HK := Lib.hid h3
    have hsz := hb.size
    clear ho hd hb
    by_cases hk : k < n0 ∧ k < 18
    · obtain ⟨hk1, hk2⟩ := hk
      have q1 : decide (k < n0) = true := by simpa using hk1
      have q2 : decide ((k : Int) < 18) = true := by simp; omega
      obtain ⟨b, off, x, rfl, hx, hcx, _⟩ := (S.out.below HB1.out).row.look hk1
      have hxb := HB.out.at_ hx
      clear hx
      have HO2 := Lib.hid (World.ownsRow.alloc HO.out (.cells #[.int .u8 (48 + x % 10)] 5))
      have TE : Sl .u8 (wr.alloc (.cells #[.int .u8 (48 + x % 10)] 5)) (some ⟨wr.heap.size, 0, none⟩) 1 1 [48 + x % 10] := Sl.new wr [48 + x % 10] 5 .u8 (by unfold maxLen; simp)
      have TE := Lib.hid TE
      go_wp2_with (at_builtin; refine wp_app rfl _ _ _ rfl w.heap.size Tryd.underlying22 hi hz0 hz1 hz2 rfl rfl HO2.out rfl TE.out (by omega) (by unfold maxLen; omega) (by simp; omega) ?_; intro v3 w3 ho3 hb3 _)
      have HB3 := Lib.hid ((HB1.out.alloc hsz _).trans hb3)
      obtain ⟨A3, c3, rfl, t3, -⟩ := ho3.sl
      have hl3 : (d ++ [48 + x % 10]).length = k + 1 := by rw [List.length_append, HK.out]; rfl
      have HO3 := Lib.hid ho3
      clear ho3 hb3 t3
      rw [hl3] at HO3 ⊢
      have HL3 := Lib.hid hl3
      clear hl3
      go_wp2
      go_roundw
      case rel => exact ⟨k + 1, c3, A3, d ++ [48 + x % 10], by omega, by omega, HL3.out, by go_num, rfl, HO3.out, HD.out.append (by intro z hz; simp at hz; omega), HB3.out⟩
      case measure => simp [intOf]; omega
    · have hex : decide (k < n0) = false ∨ (decide (k < n0) = true ∧ decide ((k : Int) < 18) = false) := by
        by_cases g : k < n0
        · right; exact ⟨by simpa using g, by simp; omega⟩
        · left; simpa using g
      clear hk
      have T1 := Lib.hid (T.out.below HB1.out)
      by_cases hk0 : k = 0
      · subst hk0
        have hf : decide (0 < n0) = false := by
          rcases hex with e | ⟨_, e⟩
          · exact e
          · simp at e
        clear hex
        go_wp2_with fail
        refine (fails_yes _ [] rfl (isB_all (by decide)) (by decide) _ _ (by decide) (by decide) _).mono ?_
        rintro e w2 ⟨rfl, hb2⟩
        go_wp2_with fail
        refine (awake_true _ (T1.out.below hb2)).mono ?_
        rintro e w3 ⟨rfl, hb3⟩
        go_wp2
        go_ret
        exact ⟨rfl, ext_trans HB1.out (ext_trans hb2 hb3)⟩
      · have q0 : ((k : Int) == 0) = false := by simpa using hk0
        have hdne : d ≠ [] := by rintro rfl; exact hk0 HK.out.symm
        have hv0 := vl_pos HD.out
        have hv1 : vl d < 4611686018427387904 := by
          have h4 := vl_lt HD.out
          have h5 : (10 : Int) ^ d.length ≤ 10 ^ 18 := by
            have : (10 : Nat) ^ d.length ≤ 10 ^ 18 := Nat.pow_le_pow_right (by omega) (by rw [HK.out]; omega)
            exact_mod_cast this
          omega
        obtain ⟨v, hv⟩ := Int.eq_ofNat_of_zero_le hv0
        have hp : ps d 4611686018427387904 = ((v : Int), 0) := by rw [ps_ok (by omega) hdne HD.out (by omega), hv]
        have hv2 : v ≤ 9223372036854775807 := by omega
        have HP := Lib.hid hp
        have HV := Lib.hid hv
        obtain ⟨A1, c1, hsl, t1, -⟩ := HO.out.sl
        rw [HK.out] at hsl t1
        have hA : A = A1 := by injection hsl
        have hc : c = c1 := by injection hsl
        subst hA hc
        have T2 := Lib.hid t1
        have hle := t1.le
        have hk1 : 1 ≤ k := by omega
        clear hdne hv0 hv1 hp hv hsl t1 hk0 h3
        rcases hex with q1 | ⟨q1, q2⟩
        all_goals
          go_wp2_with fail
          refine (parse_any _ _ _ _ _ _ T2.out HD.out.isB (by omega)).mono ?_
          rintro e w' ⟨rfl, rfl⟩
          rw [HP.out]
          go_wp2_with fail
          refine (text_ok v hv2 _ T1.out).mono ?_
          rintro e w2 ⟨rfl, hb2⟩
          have T3 := Lib.hid (T1.out.below hb2)
          have S3 := Lib.hid (T2.out.below hb2)
          have HB2 := Lib.hid (ext_trans HB1.out hb2)
          clear hb2
          go_wp2
          go_loop [9] (fun ix => ∃ j : Nat, j + 1 ≤ k ∧ ix = .int .i64 j ∧ d.take j = List.replicate j 48) (fun ix => k - (intOf ix).toNat)
          case atStart => exact ⟨0, by omega, rfl, rfl⟩
          case round =>
            obtain ⟨j, hj, rfl, ht⟩ := hrel
            have HT := Lib.hid ht
            clear ht
            obtain ⟨b1, o1, x, rfl, hx, hcx, hlt⟩ := S3.out.row.look (j := j) (by omega)
            have HX := Lib.hid hx
            clear hx
            have hci : ¬ c = j := by omega
            by_cases hgo : j + 1 < k ∧ x = 48
            · obtain ⟨hg1, rfl⟩ := hgo
              have i1 : decide ((j : Int) < (k : Int) - 1) = true := by simp; omega
              go_wp2
              go_round
              case rel => exact ⟨j + 1, by omega, by go_num, by rw [List.take_add_one, HX.out, HT.out, List.replicate_succ']; rfl⟩
              case measure => simp [intOf]; omega
            · have hs : decs v = d.drop j := by
                have h6 := anew HD.out (j := j) (by rw [HK.out]; exact hj) HT.out (by
                  rw [HK.out, HX.out]
                  by_cases g : j + 1 = k
                  · exact .inl g
                  · refine .inr fun e => hgo ⟨by omega, by injection e⟩)
                rw [HV.out, Int.toNat_natCast] at h6
                exact h6
              have kc := conv_bs (S3.out.cutS j (k - j) (by omega))
              rw [List.take_of_length_le (by rw [List.length_drop, HK.out]; exact Nat.le_refl _), ← hs] at kc
              have q5 : ((bs (decs v)).toList == (bs (decs v)).toList) = true := by simp
              have hw : decide ((j : Int) < (k : Int) - 1) = false ∨ (decide ((j : Int) < (k : Int) - 1) = true ∧ (x == 48) = false) := by
                by_cases g : j + 1 < k
                · exact .inr ⟨by simp; omega, by simp; exact fun e => hgo ⟨g, e⟩⟩
                · exact .inl (by simp; omega)
              clear hs hgo
              rcases hw with i1 | ⟨i1, i2⟩
              · go_wp2_with fail
                refine (awake_true _ T3.out).mono ?_
                rintro e w3 ⟨rfl, hb3⟩
                go_wp2
                go_ret
                exact ⟨rfl, ext_trans HB2.out hb3⟩
              · go_wp2_with fail
                refine (awake_true _ T3.out).mono ?_
                rintro e w3 ⟨rfl, hb3⟩
                go_wp2
                go_ret
                exact ⟨rfl, ext_trans HB2.out hb3⟩
end Go.Proofs.YtcidicelmncipaaDoor
