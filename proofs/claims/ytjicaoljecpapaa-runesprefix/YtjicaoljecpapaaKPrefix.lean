/-
  The walk of RunesPrefix.
-/
import Derived.Test.YtjicaoljecpapaaWi
import Derived.Test.YtjicaoljecpapaaWp
import Derived.Test.YtjicaoljecpapaaUtp
namespace Go.Proofs.Ytjicaoljecpapaa
set_option linter.unusedVariables false
open Go.RowKit Go.ChangeShapes Go.WideShapes
open Utf Wd Wr We Wi

set_option maxHeartbeats 800000 in
theorem walk_RunesPrefix (a0 : Int) (a1 : Int) (w : World) (w0 : (Lit.int .i64 a0).wf = true) (w1 : (Lit.int .i64 a1).wf = true) :
    Calls Try.prog 8 #[.int .i64 a0, .int .i64 a1] w fun e w' => e = .returned (.bool true) ∧ Below w.heap.size w w' := by
  by_cases hc : Utf.form a0 = 0
  · by_cases hd : Utf.form a1 = 0
    · go_enter Try.func8, Try.ntmps8
      go_wp2_with fail
      refine (works_true w).mono ?_
      rintro e w1 ⟨rfl, hb1⟩
      go_wp2_with fail
      refine (encode_no a0 hc _).mono ?_
      rintro e w2 ⟨rfl, rfl⟩
      go_wp2_with fail
      refine (encode_no a1 hd _).mono ?_
      rintro e w2 ⟨rfl, rfl⟩
      go_wp2
      go_ret
      exact ⟨rfl, hb1⟩
    · go_enter Try.func8, Try.ntmps8
      go_wp2_with fail
      refine (works_true w).mono ?_
      rintro e w1 ⟨rfl, hb1⟩
      go_wp2_with fail
      refine (encode_no a0 hc _).mono ?_
      rintro e w2 ⟨rfl, rfl⟩
      go_wp2_with fail
      refine (encode_ok a1 hd _).mono ?_
      rintro e w2 ⟨rfl, rfl⟩
      go_wp2
      go_ret
      exact ⟨rfl, ext_trans hb1 (below_alloc _ _)⟩
  · by_cases hd : Utf.form a1 = 0
    · go_enter Try.func8, Try.ntmps8
      go_wp2_with fail
      refine (works_true w).mono ?_
      rintro e w1 ⟨rfl, hb1⟩
      go_wp2_with fail
      refine (encode_ok a0 hc _).mono ?_
      rintro e w2 ⟨rfl, rfl⟩
      go_wp2_with fail
      refine (encode_no a1 hd _).mono ?_
      rintro e w2 ⟨rfl, rfl⟩
      go_wp2
      go_ret
      exact ⟨rfl, ext_trans hb1 (below_alloc _ _)⟩
    · have hlc := enc_length a0
      have hld := enc_length a1
      have hfc := form_cases a0
      have hfd := form_cases a1
      have m1 : (enc a0).length ≤ 4 := by omega
      have m2 : (enc a1).length ≤ 4 := by omega
      clear hlc hld hfc hfd w0 w1
      have HC := Lib.hid hc
      have HD := Lib.hid hd
      clear hc hd
      go_enter Try.func8, Try.ntmps8
      go_wp2_with fail
      refine (works_true w).mono ?_
      rintro e w1 ⟨rfl, hb1⟩
      go_wp2_with fail
      refine (encode_ok a0 HC.out _).mono ?_
      rintro e w2 ⟨rfl, rfl⟩
      go_wp2_with fail
      refine (encode_ok a1 HD.out _).mono ?_
      rintro e w2 ⟨rfl, rfl⟩
      have r1 : Row .u8 ((w1.alloc (.cells (bs (enc a0)) 5)).alloc (.cells (bs (enc a1)) 5)) (some ⟨w1.heap.size, 0, none⟩) (enc a0).length (enc a0) := (Row.new w1 (enc a0) 5 .u8).alloc _
      have r2 : Row .u8 ((w1.alloc (.cells (bs (enc a0)) 5)).alloc (.cells (bs (enc a1)) 5)) (some ⟨(w1.alloc (.cells (bs (enc a0)) 5)).heap.size, 0, none⟩) (enc a1).length (enc a1) := Row.new _ (enc a1) 5 .u8
      have hb2 : Below w.heap.size w ((w1.alloc (.cells (bs (enc a0)) 5)).alloc (.cells (bs (enc a1)) 5)) := ext_trans hb1 (ext_trans (below_alloc _ _) (below_alloc _ _))
      have R1 := Lib.hid r1
      have R2 := Lib.hid r2
      clear r1 r2
      generalize ((w1.alloc (.cells (bs (enc a0)) 5)).alloc (.cells (bs (enc a1)) 5)) = W at *
      generalize (w1.alloc (.cells (bs (enc a0)) 5)).heap.size = B2 at *
      generalize w1.heap.size = B1 at *
      generalize hX : enc a0 = X at *
      generalize hY : enc a1 = Y at *
      have HX := Lib.hid hX
      have HY := Lib.hid hY
      clear hX hY
      go_wp2
      go_loopw [9] (fun ix wr => ∃ k q : Nat, k ≤ X.length ∧ k ≤ Y.length ∧ ix = .int .i64 k ∧ wr = W.drewN q ∧ X.take k = Y.take k) (fun ix _ => X.length - (intOf ix).toNat)
      case atStart => exact ⟨0, 0, Nat.zero_le _, Nat.zero_le _, rfl, rfl, rfl⟩
      case round =>
        obtain ⟨k, q, hk1, hk2, rfl, rfl, htk⟩ := hrel
        have HT := Lib.hid htk
        clear htk
        by_cases h1 : k < X.length
        · by_cases h2 : k < Y.length
          · obtain ⟨b1, o1, x, e1, hx, hcx, _⟩ := R1.out.look h1
            obtain ⟨b2, o2, y, e2, hy, hcy, _⟩ := R2.out.look h2
            obtain ⟨rfl, rfl⟩ : B1 = b1 ∧ 0 = o1 := by injection e1 with e1; injection e1 with e1 e3; exact ⟨e1, e3⟩
            obtain ⟨rfl, rfl⟩ : B2 = b2 ∧ 0 = o2 := by injection e2 with e2; injection e2 with e2 e3; exact ⟨e2, e3⟩
            rw [Nat.zero_add] at hcx hcy
            clear e1 e2
            have HXX := Lib.hid hx
            have HYY := Lib.hid hy
            clear hx hy
            have i1 : (k : Int) < (X.length : Int) := by omega
            have i2 : (k : Int) < (Y.length : Int) := by omega
            by_cases hxy : x = y
            · subst hxy
              have d2 : (x != x) = false := by simp
              go_wp2
              go_quiet (fail)
              go_wp2
              go_roundw
              case rel => exact ⟨k + 1, _, by omega, by omega, by go_num, rfl, take_next HT.out HXX.out HYY.out⟩
              case measure => simp [intOf]; omega
            · have d2 : (x != y) = true := by simpa using hxy
              have hord : (decide (x < y) == decide (a0 < a1)) = true := by
                have := enc_order HC.out HD.out (by rw [HX.out, HY.out]; exact HT.out) (by rw [HX.out]; exact HXX.out) (by rw [HY.out]; exact HYY.out) hxy
                simp [this]
              have HXY := Lib.hid hxy
              clear hxy
              go_wp2
              go_quiet (fail)
              go_wp2
              go_quiet (fail)
              go_wp2
              go_ret
              exact ⟨rfl, below_drewN (below_drewN (below_drewN hb2 _) _) _⟩
          · have he : a0 = a1 := enc_prefix HC.out HD.out (k := k) (by rw [HX.out, HY.out]; exact HT.out) (.inr (by rw [HY.out]; omega))
            have hl : X.length = Y.length := by rw [← HX.out, ← HY.out, he]
            have q1 : (a0 == a1) = true := by simpa using he
            have q2 : ((X.length : Int) == (Y.length : Int)) = true := by simp [hl]
            have q3 : (X.length == Y.length) = true := by simp [hl]
            clear he hl
            go_wp2
            go_ret
            exact ⟨rfl, below_drewN hb2 _⟩
        · have he : a0 = a1 := enc_prefix HC.out HD.out (k := k) (by rw [HX.out, HY.out]; exact HT.out) (.inl (by rw [HX.out]; omega))
          have hl : X.length = Y.length := by rw [← HX.out, ← HY.out, he]
          have q1 : (a0 == a1) = true := by simpa using he
          have q2 : ((X.length : Int) == (Y.length : Int)) = true := by simp [hl]
          have q3 : (X.length == Y.length) = true := by simp [hl]
          clear he hl
          go_wp2
          go_ret
          exact ⟨rfl, below_drewN hb2 _⟩
end Go.Proofs.Ytjicaoljecpapaa
