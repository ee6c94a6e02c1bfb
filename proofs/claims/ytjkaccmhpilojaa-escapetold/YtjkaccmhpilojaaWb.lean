/-
  What the document's answer 'begins' of layer 1 computes.
-/
import Derived.Test.YtjkaccmhpilojaaUtb
namespace Go.Proofs.Ytjkaccmhpilojaa
set_option linter.unusedVariables false
set_option linter.unusedSimpArgs false
open Go.RowKit
namespace Wf
open Utf Wd Wr We Wi

theorem jn_bd {l : List Int} (hb : IsB l) (m : Nat) (hm : m ≤ 4) : 0 ≤ jn l m ∧ jn l m < 67108864 := by
  unfold jn
  have h0 : 0 ≤ l.headD 0 % md m ∧ l.headD 0 % md m < 256 := by
    unfold md; split <;> omega
  exact cv_le h0.1 h0.2 _ (by rw [List.length_take]; omega)
theorem isB_rep (k : Nat) {x : Int} (h : 0 ≤ x ∧ x ≤ 255) : IsB (List.replicate k x) := fun y hy => by rw [List.eq_of_mem_replicate hy]; exact h

/-- a slice value's length -/
def lenV : Value → Nat
  | .slice _ n _ => n
  | _ => 0
/-- two rows of the call's own, the second one in new memory -/
theorem two_new {w w1 w2 : World} {k : IntKind} {e : TypeId} {v1 v2 : Value} {l r : List Int} (h1 : Own k e w1 w.heap.size v1 l) (h2 : Own k e w2 w.heap.size v2 r)
    (hb : Below w.heap.size (w1.alloc (.cells #[] e)) w2) (hg : (w1.alloc (.cells #[] e)).grownBy w2 (Value.slice (some ⟨w1.heap.size, 0, none⟩) 0 0).ownBlock)
    (hat : v2.ownBlock = (Value.slice (some ⟨w1.heap.size, 0, none⟩) 0 0).ownBlock ∨ v2.ownBlock = some (w1.alloc (.cells #[] e)).heap.size) (hw : Below w.heap.size w w1) :
    Own k e w2 w.heap.size v1 l ∧ Own k e w2 w.heap.size v2 r ∧ v1.ownBlock ≠ v2.ownBlock ∧ Below w.heap.size w w2 := by
  have hlt : ∀ g, v1.ownBlock = some g → g < w1.heap.size := fun g hg => (h1.lt hg).2
  refine ⟨Own.kept (World.ownsRow.alloc h1 _) hg (fun e => ?_), h2, fun e => ?_, (hw.alloc hw.size _).trans hb⟩
  · have := hlt w1.heap.size e; omega
  · rcases hat with h | h
    · rw [h] at e; have := hlt w1.heap.size e; omega
    · rw [h] at e; have := hlt _ e; simp at this; omega

theorem two_grow {B : Nat} {wr w3 : World} {k : IntKind} {e : TypeId} {va vb v3 : Value} {la lb : List Int} {o : Obj} (pa : Own k e wr B va la) (pb : Own k e wr B vb lb) (hne : va.ownBlock ≠ vb.ownBlock)
    (hg : (wr.alloc o).grownBy w3 va.ownBlock) (hat : v3.ownBlock = va.ownBlock ∨ v3.ownBlock = some (wr.alloc o).heap.size) : Own k e w3 B vb lb ∧ v3.ownBlock ≠ vb.ownBlock := by
  refine ⟨Own.kept (World.ownsRow.alloc pb _) hg hne.symm, fun h => ?_⟩
  rcases hat with h' | h'
  · exact hne (h'.symm.trans h)
  · rw [h'] at h
    have := (pb.lt h.symm).2
    simp at this
    omega

set_option maxRecDepth 100000 in
set_option maxHeartbeats 1600000 in
theorem begins_walk (A : Option Addr) (n c : Nat) (l : List Int) (w : World) (s : Sl .u8 w A n c l) (hb : IsB l) (h1 : 1 ≤ n) (h3 : n ≤ 3) :
    Calls Try.prog 45 #[.slice A n c] w fun e w' => e = .returned (.bool (decide ((dec l).2.2 = 3))) ∧ Below w.heap.size w w' := by
  obtain ⟨i0, hi, hz0, hz1, hz2⟩ := info_parts u8_info
  have hl := s.len
  have S := Lib.hid s
  have HB := Lib.hid hb
  have HL := Lib.hid hl
  clear s hb hl
  obtain ⟨R, hR⟩ : ∃ R, R = decide ((dec l).2.2 = 3) := ⟨_, rfl⟩
  have HRR := Lib.hid hR
  rw [← hR]
  clear hR
  go_enter Try.func45, Try.ntmps45
  go_wp2_with fail
  go_loopw [3] (fun nn wr => ∃ m : Nat, n + 1 ≤ m ∧ m ≤ 5 ∧ nn = .int .i64 m ∧ Below w.heap.size w wr ∧ ((dec l).2.2 = 3 → (m : Int) ≤ nd l)) (fun nn _ => 5 - (intOf nn).toNat)
  case atStart => exact ⟨n + 1, by omega, by omega, by go_num, Below.refl _ _, fun h => by have := nd_part HB.out h; rw [HL.out] at this; omega⟩
  case round =>
    obtain ⟨m, hm1, hm5, rfl, hbel, hno⟩ := hrel
    have HBE := Lib.hid hbel
    have HNO := Lib.hid hno
    have hsz := hbel.size
    clear hbel hno
    by_cases hm : m ≤ 4
    · have S1 := Lib.hid ((S.out.below HBE.out).alloc (.cells #[] 5))
      have ON : Hid (Own .u8 5 (wr.alloc (.cells #[] 5)) w.heap.size (.slice (some ⟨wr.heap.size, 0, none⟩) 0 0) []) := Own.new wr [] 5 .u8 (by unfold maxLen; simp) hsz
      go_wp2_with (first
        | (at_builtin; refine wp_app_at (v := .slice (some ⟨wr.heap.size, 0, none⟩) 0 0) rfl (.tmp 19) (.tmp 20) _ rfl w.heap.size Try.underlying27 hi hz0 hz1 hz2 rfl rfl ON.out rfl S1.out (by simp only [List.length_nil]; omega) (by unfold maxLen; simp only [List.length_nil]; omega) (by simp; omega) ?_; intro v1 w1 ho1 hb1 hg1 hat1; have HO1 := Lib.hid ho1; have HB1 := Lib.hid ((HBE.out.alloc hsz (.cells #[] 5)).trans hb1); have hs1 := HB1.out.size; clear ho1 hb1 hg1 hat1)
        | (at_builtin; refine wp_app_at (v := .slice (some ⟨w1.heap.size, 0, none⟩) 0 0) rfl (.tmp 22) (.tmp 23) _ rfl w.heap.size Try.underlying27 hi hz0 hz1 hz2 rfl rfl (Own.new w1 [] 5 .u8 (by unfold maxLen; simp) hs1) rfl ((S.out.below HB1.out).alloc (.cells #[] 5)) (by simp only [List.length_nil]; omega) (by unfold maxLen; simp only [List.length_nil]; omega) (by simp; omega) ?_; intro v2 w2 ho2 hb2 hg2 hat2))
      obtain ⟨o1, o2, hne, hb3⟩ := two_new HO1.out ho2 hb2 hg2 hat2 HB1.out
      rw [List.nil_append] at o1 o2
      have O1 := Lib.hid o1
      have O2 := Lib.hid o2
      have HNE := Lib.hid hne
      have HB3 := Lib.hid hb3
      clear o1 o2 hne hb3 ho2 hb2 hg2 hat2
      go_wp2_with fail
      go_loopw [4, 5] (fun va vb wr => ∃ k : Nat, n + k ≤ m ∧ Own .u8 5 wr w.heap.size va (l ++ List.replicate k 128) ∧ Own .u8 5 wr w.heap.size vb (l ++ List.replicate k 191) ∧ va.ownBlock ≠ vb.ownBlock ∧ Below w.heap.size w wr) (fun va _ _ => m - lenV va)
      case atStart => exact ⟨0, by omega, by simpa using O1.out, by simpa using O2.out, HNE.out, HB3.out⟩
      case round =>
        obtain ⟨k, hk, p1, p2, pne, pb⟩ := hrel
        have hl1 : (l ++ List.replicate k (128 : Int)).length = n + k := by rw [List.length_append, HL.out, List.length_replicate]
        have hl2 : (l ++ List.replicate k (191 : Int)).length = n + k := by rw [List.length_append, HL.out, List.length_replicate]
        obtain ⟨A1, c1, rfl, t1, _⟩ := p1.sl
        obtain ⟨A2, c2, rfl, t2, _⟩ := p2.sl
        rw [hl1] at p1 pne t1
        rw [hl2] at p2 pne t2
        have P1 := Lib.hid p1
        have P2 := Lib.hid p2
        have PNE := Lib.hid pne
        have PB := Lib.hid pb
        have ps := pb.size
        have T1 := Lib.hid t1
        have T2 := Lib.hid t2
        have HL1 := Lib.hid hl1
        have HL2 := Lib.hid hl2
        rw [hl1, hl2]
        clear p1 p2 pne pb t1 t2 hl1 hl2
        by_cases hkm : n + k < m
        · have q1 : decide (n + k < m) = true := by simpa using hkm
          have ON1 : Hid (Own .u8 5 (wr.alloc (.cells #[.int .u8 128] 5)) w.heap.size (.slice A1 (n + k) c1) (l ++ List.replicate k 128)) := World.ownsRow.alloc P1.out _
          have SN1 : Hid (Sl .u8 (wr.alloc (.cells #[.int .u8 128] 5)) (some ⟨wr.heap.size, 0, none⟩) 1 1 [128]) := Sl.new wr [128] 5 .u8 (by decide)
          go_wp2_with (first
            | (at_builtin; refine wp_app_at (v := .slice A1 (n + k) c1) rfl (.tmp 29) (.tmp 30) _ rfl w.heap.size Try.underlying27 hi hz0 hz1 hz2 rfl rfl ON1.out rfl SN1.out (by rw [HL1.out]; omega) (by unfold maxLen; rw [HL1.out]; omega) (by simp; omega) ?_; intro v3 w3 ho3 hb3 hg3 hat3; have G3 := Lib.hid (two_grow P1.out P2.out PNE.out hg3 hat3); have HO3 := Lib.hid ho3; have HB3' := Lib.hid ((PB.out.alloc ps (.cells #[.int .u8 128] 5)).trans hb3); have hs3 := HB3'.out.size; clear ho3 hb3 hg3 hat3)
            | (at_builtin; refine wp_app_at (v := .slice A2 (n + k) c2) rfl (.tmp 32) (.tmp 33) _ rfl w.heap.size Try.underlying27 hi hz0 hz1 hz2 rfl rfl (World.ownsRow.alloc G3.out.1 _) rfl (show Sl .u8 (w3.alloc (.cells #[.int .u8 191] 5)) (some ⟨w3.heap.size, 0, none⟩) 1 1 [191] from Sl.new w3 [191] 5 .u8 (by decide)) (by rw [HL2.out]; omega) (by unfold maxLen; rw [HL2.out]; omega) (by simp; omega) ?_; intro v4 w4 ho4 hb4 hg4 hat4; have G4 := Lib.hid (two_grow G3.out.1 HO3.out G3.out.2.symm hg4 hat4); have HO4 := Lib.hid ho4; have HB4 := Lib.hid ((HB3'.out.alloc hs3 (.cells #[.int .u8 191] 5)).trans hb4); clear ho4 hb4 hg4 hat4))
          go_roundw
          case rel => exact ⟨k + 1, by omega, by rw [List.replicate_succ', ← List.append_assoc]; exact G4.out.1, by rw [List.replicate_succ', ← List.append_assoc]; exact HO4.out, G4.out.2.symm, HB4.out⟩
          case measure =>
            obtain ⟨A3, c3, rfl, _, _⟩ := HO3.out.sl
            have := HL1.out
            simp [lenV, List.length_append] at this ⊢
            omega
        · obtain rfl : m = n + k := by omega
          have q1 : decide (n + k < n + k) = false := by simp
          have f1 : lo l (n + k) = jn (l ++ List.replicate k 128) (n + k) := by unfold lo; rw [HL.out, show n + k - n = k by omega]
          have f2 : Wf.hi l (n + k) = jn (l ++ List.replicate k 191) (n + k) := by unfold Wf.hi; rw [HL.out, show n + k - n = k by omega]
          have bd1 := jn_bd (HB.out.append (isB_rep k (x := 128) (by omega))) (n + k) (by omega)
          have bd2 := jn_bd (HB.out.append (isB_rep k (x := 191) (by omega))) (n + k) (by omega)
          have F1 := Lib.hid f1
          have F2 := Lib.hid f2
          clear f1 f2
          go_wp2_with fail
          refine (joined_any _ _ _ (n + k) _ _ T1.out.row (HB.out.append (isB_rep k (x := 128) (by omega))) (by omega) (by omega) (Nat.le_refl _)).mono ?_
          rintro e w5 ⟨rfl, rfl⟩
          go_wp2_with fail
          refine (joined_any _ _ _ (n + k) _ _ T2.out.row (HB.out.append (isB_rep k (x := 191) (by omega))) (by omega) (by omega) (Nat.le_refl _)).mono ?_
          rintro e w5 ⟨rfl, rfl⟩
          rw [← F1.out] at bd1 ⊢
          rw [← F2.out] at bd2 ⊢
          generalize hF : lo l (n + k) = F at *
          generalize hT : Wf.hi l (n + k) = T at *
          have HF := Lib.hid hF
          have HT := Lib.hid hT
          clear hF hT
          go_wp2_with fail
          go_loopw [8] (fun kk wr => ∃ j : Nat, j ≤ 4 ∧ kk = .int .i64 j ∧ Below w.heap.size w wr ∧ ((dec l).2.2 = 3 → nd l = ((n + k : Nat) : Int) → j = 0)) (fun kk _ => 4 - (intOf kk).toNat)
          case atStart => exact ⟨0, by omega, rfl, PB.out, fun _ _ => rfl⟩
          case round =>
            obtain ⟨j, hj, rfl, rb, rn⟩ := hrel
            have RB := Lib.hid rb
            have RN := Lib.hid rn
            have rs := rb.size
            clear rb rn
            by_cases hj4 : j < 4
            · have hmn : [Value.int .i64 0, Value.int .i64 0, Value.int .i64 128, Value.int .i64 2048, Value.int .i64 65536][n + k]? = some (.int .i64 (mn (n + k))) := by
                rcases (by omega : n + k = 2 ∨ n + k = 3 ∨ n + k = 4) with h | h | h <;> rw [h] <;> rfl
              have HMX : Hid (mx l (n + k) = if F < mn (n + k) then mn (n + k) else F) := by unfold mx; rw [HF.out]; rfl
              generalize mn (n + k) = M at *
              by_cases hmx : F < M
              · obtain ⟨C, hC⟩ : ∃ C, [Value.int .i64 M, Value.int .i64 57344, Value.int .i64 T, Value.int .i64 F][j]? = some (.int .i64 C) := by
                  rcases (by omega : j = 0 ∨ j = 1 ∨ j = 2 ∨ j = 3) with rfl | rfl | rfl | rfl <;> exact ⟨_, rfl⟩
                have hC2 : ∀ h : j < [Value.int .i64 M, Value.int .i64 57344, Value.int .i64 T, Value.int .i64 F].length, [Value.int .i64 M, Value.int .i64 57344, Value.int .i64 T, Value.int .i64 F][j]'h = .int .i64 C := fun h => by
                  rw [List.getElem?_eq_getElem h] at hC; injection hC
                have HX : Hid ((dec l).2.2 = 3 → nd l = ((n + k : Nat) : Int) → Found l (n + k) C) := by
                  intro a b
                  have hj0 := RN.out a b
                  have h5 := found HB.out a b
                  rw [HMX.out, if_pos hmx] at h5
                  subst hj0
                  have h6 : M = C := by simpa using hC
                  rw [← h6]; exact h5
                have HC2 := Lib.hid hC2
                have HC := Lib.hid hC
                have hfl := enc_length C
                have hfc := form_cases C
                have ec4 : (enc C).length ≤ 4 := by omega
                clear hC2 hfl hfc
                go_wp2_with fail
                rw [HC2.out]
                clear hC HC HC2
                have hnext : ¬ Found l (n + k) C → ((dec l).2.2 = 3 → nd l = ((n + k : Nat) : Int) → j + 1 = 0) := fun h a b => absurd (HX.out a b) h
                have HN := Lib.hid hnext
                clear hnext
                by_cases hf : Utf.form C = 0
                · have HFC := Lib.hid hf
                  clear hf
                  refine (rencode_no C HFC.out _).mono ?_
                  rintro e w6 ⟨rfl, rfl⟩
                  go_wp2
                  go_roundw
                  case rel => exact ⟨j + 1, by omega, by go_num, (RB.out.alloc rs _).alloc (by simp; omega) _, HN.out (fun h => by have := h.form; rw [HFC.out] at this; omega)⟩
                  case measure => simp [intOf]; omega
                · have HFC := Lib.hid hf
                  clear hf
                  refine (rencode_ok C HFC.out _).mono ?_
                  rintro e w6 ⟨rfl, rfl⟩
                  have RB2 := Lib.hid (((RB.out.alloc rs (.cells #[Value.int .i64 0, Value.int .i64 0, Value.int .i64 128, Value.int .i64 2048, Value.int .i64 65536] 3)).alloc (by simp; omega) (.cells #[Value.int .i64 M, Value.int .i64 57344, Value.int .i64 T, Value.int .i64 F] 3)).alloc (by simp; omega) (.cells (bs (enc C)) 5))
                  have SE : Hid (Sl .u8 (((wr.alloc (.cells #[Value.int .i64 0, Value.int .i64 0, Value.int .i64 128, Value.int .i64 2048, Value.int .i64 65536] 3)).alloc (.cells #[Value.int .i64 M, Value.int .i64 57344, Value.int .i64 T, Value.int .i64 F] 3)).alloc (.cells (bs (enc C)) 5)) (some ⟨wr.heap.size + 1 + 1, 0, none⟩) (enc C).length (enc C).length (enc C)) := Sl.newAt _ (enc C) 5 .u8 (by unfold maxLen; omega) (by simp)
                  by_cases g1 : F ≤ C
                  · have d1 : decide (F ≤ C) = true := by simpa using g1
                    by_cases g2 : C ≤ T
                    · have d2 : decide (C ≤ T) = true := by simpa using g2
                      by_cases g3 : (enc C).length = n + k
                      · have d3 : (((enc C).length : Int) == (n : Int) + (k : Int)) = true := by simp; omega
                        have d4 : ((enc C).length == n + k) = true := by simpa using g3
                        have G3 := Lib.hid g3
                        clear g3
                        have cle : n ≤ (enc C).length := by rw [G3.out]; omega
                        go_wp2_with fail
                        refine (eq_any _ _ _ _ _ _ ((enc C).take n) l _ (SE.out.cut0 n cle).row (S.out.below RB2.out).row (by unfold maxLen; omega)).mono ?_
                        rintro e w7 ⟨rfl, q, rfl⟩
                        cases hd : decide ((enc C).take n = l)
                        · have HD := Lib.hid hd
                          clear hd
                          go_wp2
                          go_roundw
                          case rel => exact ⟨j + 1, by omega, by go_num, below_drewN RB2.out q, HN.out (fun h => (decide_eq_false_iff_not.1 HD.out) (by have := h.bytes; rw [HL.out] at this; exact this))⟩
                          case measure => simp [intOf]; omega
                        · have HD := Lib.hid hd
                          clear hd
                          have hR : R = true := by
                            rw [HRR.out, decide_eq_true_iff]
                            refine found_part (m := n + k) (c := C) ⟨?_, ?_, ?_, ?_⟩ (by rw [HL.out]; exact h1) (by rw [HL.out]; omega)
                            · have := enc_length C; rw [G3.out] at this; exact this.symm
                            · rw [HF.out]; exact g1
                            · rw [HT.out]; exact g2
                            · rw [HL.out]; exact decide_eq_true_iff.1 HD.out
                          have HRT := Lib.hid hR
                          clear hR
                          go_wp2
                          go_ret
                          exact ⟨by rw [HRT.out]; rfl, below_drewN RB2.out q⟩
                      · have d3 : (((enc C).length : Int) == (n : Int) + (k : Int)) = false := by simp; omega
                        go_wp2
                        go_roundw
                        case rel => exact ⟨j + 1, by omega, by go_num, RB2.out, HN.out (fun h => g3 (by have := h.form; have := enc_length C; omega))⟩
                        case measure => simp [intOf]; omega
                    · have d2 : decide (C ≤ T) = false := by simpa using g2
                      go_wp2
                      go_roundw
                      case rel => exact ⟨j + 1, by omega, by go_num, RB2.out, HN.out (fun h => by have := h.high; rw [HT.out] at this; omega)⟩
                      case measure => simp [intOf]; omega
                  · have d1 : decide (F ≤ C) = false := by simpa using g1
                    go_wp2
                    go_roundw
                    case rel => exact ⟨j + 1, by omega, by go_num, RB2.out, HN.out (fun h => by have := h.low; rw [HF.out] at this; omega)⟩
                    case measure => simp [intOf]; omega
              · obtain ⟨C, hC⟩ : ∃ C, [Value.int .i64 F, Value.int .i64 57344, Value.int .i64 T, Value.int .i64 F][j]? = some (.int .i64 C) := by
                  rcases (by omega : j = 0 ∨ j = 1 ∨ j = 2 ∨ j = 3) with rfl | rfl | rfl | rfl <;> exact ⟨_, rfl⟩
                have hC2 : ∀ h : j < [Value.int .i64 F, Value.int .i64 57344, Value.int .i64 T, Value.int .i64 F].length, [Value.int .i64 F, Value.int .i64 57344, Value.int .i64 T, Value.int .i64 F][j]'h = .int .i64 C := fun h => by
                  rw [List.getElem?_eq_getElem h] at hC; injection hC
                have HX : Hid ((dec l).2.2 = 3 → nd l = ((n + k : Nat) : Int) → Found l (n + k) C) := by
                  intro a b
                  have hj0 := RN.out a b
                  have h5 := found HB.out a b
                  rw [HMX.out, if_neg hmx] at h5
                  subst hj0
                  have h6 : F = C := by simpa using hC
                  rw [← h6]; exact h5
                have HC2 := Lib.hid hC2
                have HC := Lib.hid hC
                have hfl := enc_length C
                have hfc := form_cases C
                have ec4 : (enc C).length ≤ 4 := by omega
                clear hC2 hfl hfc
                go_wp2_with fail
                rw [HC2.out]
                clear hC HC HC2
                have hnext : ¬ Found l (n + k) C → ((dec l).2.2 = 3 → nd l = ((n + k : Nat) : Int) → j + 1 = 0) := fun h a b => absurd (HX.out a b) h
                have HN := Lib.hid hnext
                clear hnext
                by_cases hf : Utf.form C = 0
                · have HFC := Lib.hid hf
                  clear hf
                  refine (rencode_no C HFC.out _).mono ?_
                  rintro e w6 ⟨rfl, rfl⟩
                  go_wp2
                  go_roundw
                  case rel => exact ⟨j + 1, by omega, by go_num, (RB.out.alloc rs _).alloc (by simp; omega) _, HN.out (fun h => by have := h.form; rw [HFC.out] at this; omega)⟩
                  case measure => simp [intOf]; omega
                · have HFC := Lib.hid hf
                  clear hf
                  refine (rencode_ok C HFC.out _).mono ?_
                  rintro e w6 ⟨rfl, rfl⟩
                  have RB2 := Lib.hid (((RB.out.alloc rs (.cells #[Value.int .i64 0, Value.int .i64 0, Value.int .i64 128, Value.int .i64 2048, Value.int .i64 65536] 3)).alloc (by simp; omega) (.cells #[Value.int .i64 F, Value.int .i64 57344, Value.int .i64 T, Value.int .i64 F] 3)).alloc (by simp; omega) (.cells (bs (enc C)) 5))
                  have SE : Hid (Sl .u8 (((wr.alloc (.cells #[Value.int .i64 0, Value.int .i64 0, Value.int .i64 128, Value.int .i64 2048, Value.int .i64 65536] 3)).alloc (.cells #[Value.int .i64 F, Value.int .i64 57344, Value.int .i64 T, Value.int .i64 F] 3)).alloc (.cells (bs (enc C)) 5)) (some ⟨wr.heap.size + 1 + 1, 0, none⟩) (enc C).length (enc C).length (enc C)) := Sl.newAt _ (enc C) 5 .u8 (by unfold maxLen; omega) (by simp)
                  by_cases g1 : F ≤ C
                  · have d1 : decide (F ≤ C) = true := by simpa using g1
                    by_cases g2 : C ≤ T
                    · have d2 : decide (C ≤ T) = true := by simpa using g2
                      by_cases g3 : (enc C).length = n + k
                      · have d3 : (((enc C).length : Int) == (n : Int) + (k : Int)) = true := by simp; omega
                        have d4 : ((enc C).length == n + k) = true := by simpa using g3
                        have G3 := Lib.hid g3
                        clear g3
                        have cle : n ≤ (enc C).length := by rw [G3.out]; omega
                        go_wp2_with fail
                        refine (eq_any _ _ _ _ _ _ ((enc C).take n) l _ (SE.out.cut0 n cle).row (S.out.below RB2.out).row (by unfold maxLen; omega)).mono ?_
                        rintro e w7 ⟨rfl, q, rfl⟩
                        cases hd : decide ((enc C).take n = l)
                        · have HD := Lib.hid hd
                          clear hd
                          go_wp2
                          go_roundw
                          case rel => exact ⟨j + 1, by omega, by go_num, below_drewN RB2.out q, HN.out (fun h => (decide_eq_false_iff_not.1 HD.out) (by have := h.bytes; rw [HL.out] at this; exact this))⟩
                          case measure => simp [intOf]; omega
                        · have HD := Lib.hid hd
                          clear hd
                          have hR : R = true := by
                            rw [HRR.out, decide_eq_true_iff]
                            refine found_part (m := n + k) (c := C) ⟨?_, ?_, ?_, ?_⟩ (by rw [HL.out]; exact h1) (by rw [HL.out]; omega)
                            · have := enc_length C; rw [G3.out] at this; exact this.symm
                            · rw [HF.out]; exact g1
                            · rw [HT.out]; exact g2
                            · rw [HL.out]; exact decide_eq_true_iff.1 HD.out
                          have HRT := Lib.hid hR
                          clear hR
                          go_wp2
                          go_ret
                          exact ⟨by rw [HRT.out]; rfl, below_drewN RB2.out q⟩
                      · have d3 : (((enc C).length : Int) == (n : Int) + (k : Int)) = false := by simp; omega
                        go_wp2
                        go_roundw
                        case rel => exact ⟨j + 1, by omega, by go_num, RB2.out, HN.out (fun h => g3 (by have := h.form; have := enc_length C; omega))⟩
                        case measure => simp [intOf]; omega
                    · have d2 : decide (C ≤ T) = false := by simpa using g2
                      go_wp2
                      go_roundw
                      case rel => exact ⟨j + 1, by omega, by go_num, RB2.out, HN.out (fun h => by have := h.high; rw [HT.out] at this; omega)⟩
                      case measure => simp [intOf]; omega
                  · have d1 : decide (F ≤ C) = false := by simpa using g1
                    go_wp2
                    go_roundw
                    case rel => exact ⟨j + 1, by omega, by go_num, RB2.out, HN.out (fun h => by have := h.low; rw [HF.out] at this; omega)⟩
                    case measure => simp [intOf]; omega
            · obtain rfl : j = 4 := by omega
              go_wp2
              go_roundw
              case rel => exact ⟨n + k + 1, by omega, by omega, by go_num, RB.out, fun h => by
                have h1 := HNO.out h
                have h2 := RN.out h
                have h3 : nd l ≠ ((n + k : Nat) : Int) := fun e => by have := h2 e; omega
                omega⟩
              case measure => simp [intOf]; omega
    · obtain rfl : m = 5 := by omega
      go_wp2
      go_ret
      refine ⟨ret1 (congrArg Value.bool ?_), HBE.out⟩
      rw [HRR.out]; symm; rw [decide_eq_false_iff_not]
      intro h
      have h5 := HNO.out h
      have h6 := nd_part HB.out h
      omega
end Wf
end Go.Proofs.Ytjkaccmhpilojaa
