/-
  What package head's lengthOf, sizeOf, Parse compute.
-/
import Derived.Test.YtigiiofiajhnlaaGreatDoorHd
namespace Go.Proofs.YtigiiofiajhnlaaGreatDoor
set_option linter.unusedVariables false
open Go.RowKit
namespace He
open Wd We Dm Da Dc Dd Hm Hb Hc Hd

theorem cut_line (A B : Option Addr) (n c d : Nat) (m : List Int) (w : World) (s : Sl .u8 w A n c m) (t : Sl .u8 w B 2 d [13, 10]) (hm : IsB m) (h0 : m ≠ []) (hn : n < 4294967281) (env : Env w) :
    Calls Tryz.prog 44 #[.slice A n c, .slice B 2 d] w fun e w' => ∃ A1 n1 c1 A2 n2 c2 ok x r, e = .returned (.tuple #[.slice A1 n1 c1, .slice A2 n2 c2, .bool ok]) ∧ Sl .u8 w A1 n1 c1 x ∧ Sl .u8 w A2 n2 c2 r ∧ n1 ≤ n ∧ n2 < n ∧ IsB x ∧ IsB r ∧ spl m = x :: spl r ∧ ∃ q, w' = w.drewN q := by
  have hpos : 0 < n := by rw [← s.len]; exact List.length_pos_iff.2 h0
  cases hf : fnd [13, 10] m with
  | none =>
    refine (cut_no _ _ _ _ _ _ _ _ _ s t hm (isB_all (by decide)) hn env hf).mono ?_
    rintro e w' ⟨rfl, q, rfl⟩
    exact ⟨_, _, _, _, _, _, _, m, [], rfl, s, Sl.none_, Nat.le_refl _, hpos, hm, fun x hx => by simp at hx, (spl_cut m h0).2 hf, q, rfl⟩
  | some i =>
    refine (cut_yes _ _ _ _ _ _ _ _ _ s t hm (isB_all (by decide)) hn env hf).mono ?_
    rintro e w' ⟨A2, rfl, s2, q, rfl⟩
    have h1 : i + 2 ≤ n := by rw [← s.len]; exact (fnd_some hf).1
    exact ⟨_, _, _, _, _, _, _, m.take i, m.drop (i + 2), rfl, s.cut0 i (by omega), s2, by omega, by omega, hm.take i, hm.drop _, (spl_cut m h0).1 i hf, q, rfl⟩

def slen : Value → Nat
  | .slice _ n _ => n
  | _ => 0
theorem go_nil (t : Int) : go t [] = if t = -1 then (0, 60) else (t, 0) := rfl
theorem go_bad {x : List Int} {xs : List (List Int)} {t n e : Int} (h : tel x t = (n, e)) (he : ¬ e = 0) : go t (x :: xs) = (0, e) := by
  unfold go; rw [h]; exact if_neg he
theorem go_on {x : List Int} {xs : List (List Int)} {t n : Int} (h : tel x t = (n, 0)) : go t (x :: xs) = go n xs := by
  rw [go, h]; exact if_pos rfl

set_option maxRecDepth 100000 in
set_option maxHeartbeats 3200000 in
theorem lengthOf_any (A : Option Addr) (n c : Nat) (l : List Int) (w : World) (s : Sl .u8 w A n c l) (hl : IsB l) (hn : n ≤ 512) (env : Env w) :
    Calls Tryz.prog 38 #[.slice A n c] w fun e w' => e = .returned (.tuple #[.int .i64 (go (-1) (spl l)).1, .int .i64 (go (-1) (spl l)).2]) ∧ Below w.heap.size w w' := by
  have S := Lib.hid s
  have HL := Lib.hid hl
  have HE := Lib.hid env
  clear s hl env
  have kc := fun (w : World) (C : Array Value) (n c : Nat) => Lib.run_convert_bytes_const (P := Tryz.prog) w 27 5 C n c Tryz.underlying27 Tryz.underlying5
  go_enter Tryz.func38, Tryz.ntmps38
  go_wp2
  go_loopw [0, 4] (fun lv tv wr => ∃ (A' : Option Addr) (n' c' : Nat) (m : List Int) (t : Int), lv = .slice A' n' c' ∧ tv = .int .i64 t ∧ Sl .u8 wr A' n' c' m ∧ IsB m ∧ n' ≤ 512 ∧ (t = -1 ∨ 0 ≤ t ∧ t ≤ 65536) ∧ go (-1) (spl l) = go t (spl m) ∧ Below w.heap.size w wr) (fun lv _ _ => slen lv)
  case atStart => exact ⟨A, n, c, l, -1, rfl, rfl, S.out, HL.out, hn, .inl rfl, rfl, Below.refl _ _⟩
  case round =>
    obtain ⟨A', n', c', m, t, rfl, rfl, s', hm, hn', ht, hgo, hb⟩ := hrel
    have hlen := s'.len
    have S' := Lib.hid s'
    have HM := Lib.hid hm
    have HG := Lib.hid hgo
    have HB := Lib.hid hb
    have HLEN := Lib.hid hlen
    have E' := Lib.hid (HE.out.below hb)
    clear s' hm hgo hb hlen
    by_cases h0 : n' = 0
    · subst h0
      obtain rfl : m = [] := List.eq_nil_of_length_eq_zero HLEN.out
      by_cases h1 : t = -1
      · subst h1
        have HG2 := Lib.hid (HG.out.trans (by rw [spl, go_nil, if_pos rfl] : go (-1) (spl []) = (0, 60)))
        go_wp2
        go_ret2
        exact ⟨pair2 HG2.out, HB.out⟩
      · have HG2 := Lib.hid (HG.out.trans (by rw [spl, go_nil, if_neg h1] : go t (spl []) = (t, 0)))
        have d1 : (t == -1) = false := by simpa using h1
        clear h1
        go_wp2
        go_ret2
        exact ⟨pair2 HG2.out, HB.out⟩
    · have h1 : (0 : Int) < (n' : Int) := by omega
      have hne : m ≠ [] := by rintro rfl; exact h0 HLEN.out.symm
      have s1 := S'.out.alloc (.cells #[.int .u8 13, .int .u8 10] 5 (2, 3))
      have t1 : Sl .u8 (wr.alloc (.cells #[.int .u8 13, .int .u8 10] 5 (2, 3))) (some ⟨wr.heap.size, 0, none⟩) 2 2 [13, 10] := Sl.mark wr [13, 10] 5 (2, 3) (by decide)
      have hb1 := below_alloc wr (.cells #[.int .u8 13, .int .u8 10] 5 (2, 3))
      have e1 := E'.out.below hb1
      have CON := Lib.hid (cut_line _ _ _ _ _ _ _ s1 t1 HM.out hne (by omega) e1)
      have E1 := Lib.hid e1
      have HB1 := Lib.hid (ext_trans HB.out hb1)
      clear s1 t1 hb1 e1 hne
      go_wp2_with fail
      refine CON.out.mono ?_
      rintro e w2 ⟨A1, n1, c1, A2, n2, c2, ok, x, r, rfl, sx, sr, hn1, hn2, hx, hr, hspl, q, rfl⟩
      have SX := Lib.hid (sx.drewN q)
      have SR := Lib.hid (sr.drewN q)
      have E2 := Lib.hid (E1.out.drewN q)
      have HB2 := Lib.hid (Wd.below_drewN HB1.out q)
      have HX := Lib.hid hx
      have HR := Lib.hid hr
      have HG2 := Lib.hid (HG.out.trans (by rw [hspl] : go t (spl m) = go t (x :: spl r)))
      clear sx sr hx hr hspl CON
      generalize (wr.alloc (.cells #[.int .u8 13, .int .u8 10] 5 (2, 3))).drewN q = w2 at *
      go_wp2_with fail
      refine (tell_any _ _ _ _ _ _ SX.out HX.out (by omega) ht E2.out).mono ?_
      rintro e w3 ⟨rfl, hb3⟩
      have htr := tel_range (x := x) ht
      obtain ⟨y, er, hp⟩ : ∃ y er, tel x t = (y, er) := ⟨_, _, rfl⟩
      rw [hp] at htr ⊢
      have HP := Lib.hid hp
      clear hp
      by_cases he : er = 0
      · subst he
        have htr2 : y = -1 ∨ 0 ≤ y ∧ y ≤ 65536 := htr rfl
        have HG3 := Lib.hid (HG2.out.trans (go_on HP.out))
        have SR3 := Lib.hid (SR.out.below hb3)
        have HB3 := Lib.hid (ext_trans HB2.out hb3)
        clear htr hb3
        go_wp2
        go_roundw
        case rel => exact ⟨A2, n2, c2, r, y, rfl, rfl, SR3.out, HR.out, by omega, htr2, HG3.out, HB3.out⟩
        case measure => simp [slen]; omega
      · have d1 : (er != 0) = true := by simpa using he
        have HG3 := Lib.hid (HG2.out.trans (go_bad HP.out he))
        clear he htr
        go_wp2
        go_ret2
        exact ⟨pair2 HG3.out, ext_trans HB2.out hb3⟩

/-- sizeOf's answers -/
def sz (l : List Int) : Int × Int := match hEnd (l.take 512) with
  | none => if 512 ≤ l.length then (0, 5) else (0, 3)
  | some s => ((s : Int), 0)

theorem sz_some {l : List Int} {s : Nat} (h : hEnd (l.take 512) = some s) : sz l = ((s : Int), 0) := by unfold sz; rw [h]
theorem sz_five {l : List Int} (h : hEnd (l.take 512) = none) (h5 : 512 ≤ l.length) : sz l = (0, 5) := by unfold sz; rw [h]; exact if_pos h5
theorem sz_three {l : List Int} (h : hEnd (l.take 512) = none) (h5 : ¬ 512 ≤ l.length) : sz l = (0, 3) := by unfold sz; rw [h]; exact if_neg h5

set_option maxRecDepth 100000 in
set_option maxHeartbeats 800000 in
theorem sizeOf_any (A : Option Addr) (n c : Nat) (l : List Int) (w : World) (s : Sl .u8 w A n c l) (hl : IsB l) (env : Env w) :
    Calls Tryz.prog 37 #[.slice A n c] w fun e w' => e = .returned (.tuple #[.int .i64 (sz l).1, .int .i64 (sz l).2]) ∧ Below w.heap.size w w' := by
  have hmax : n ≤ 9223372036854775807 := by have := s.max; have := s.le; unfold maxLen at *; omega
  have hle := s.le
  have hlen := s.len
  have kc := fun (w : World) (C : Array Value) (n c : Nat) => Lib.run_convert_bytes_const (P := Tryz.prog) w 27 5 C n c Tryz.underlying27 Tryz.underlying5
  obtain ⟨N, hN⟩ : ∃ N, N = min n 512 := ⟨_, rfl⟩
  have s0 := s.cut0 N (by omega)
  have e0 : l.take N = l.take 512 := by
    rw [hN]
    by_cases g : n ≤ 512
    · rw [Nat.min_eq_left g, List.take_of_length_le (by omega), List.take_of_length_le (by omega)]
    · rw [Nat.min_eq_right (by omega)]
  have hmin : min (n : Int) 512 = (N : Int) := by omega
  have hN1 : N ≤ n := by omega
  have hN2 : N ≤ 512 := by omega
  clear hN
  rw [e0] at s0
  have hf : IsB (l.take 512) := hl.take 512
  have hs1 : ∀ k : Nat, hEnd (l.take 512) = some k → sz l = ((k : Int), 0) := fun k h => sz_some h
  have hs2 : hEnd (l.take 512) = none → 512 ≤ n → sz l = (0, 5) := fun h g => sz_five h (by rw [hlen]; exact g)
  have hs3 : hEnd (l.take 512) = none → ¬ 512 ≤ n → sz l = (0, 3) := fun h g => sz_three h (by rw [hlen]; exact g)
  have HS1 := Lib.hid hs1
  have HS2 := Lib.hid hs2
  have HS3 := Lib.hid hs3
  clear hs1 hs2 hs3
  have HLEN := Lib.hid hlen
  have S0 := Lib.hid s0
  have HF := Lib.hid hf
  have HE := Lib.hid env
  clear s s0 e0 hf env hlen hl
  generalize hL : l.take 512 = f at *
  clear hL
  have s1 := S0.out.alloc (.cells #[.int .u8 13, .int .u8 10] 5 (2, 3))
  have t1 : Sl .u8 (w.alloc (.cells #[.int .u8 13, .int .u8 10] 5 (2, 3))) (some ⟨w.heap.size, 0, none⟩) 2 2 [13, 10] := Sl.mark w [13, 10] 5 (2, 3) (by decide)
  have hb1 := below_alloc w (.cells #[.int .u8 13, .int .u8 10] 5 (2, 3))
  have CON := Lib.hid (hasPrefix_any _ _ _ _ _ _ _ _ _ s1 t1 HF.out (isB_all (by decide)))
  have S1 := Lib.hid s1
  have HB1 := Lib.hid hb1
  have E1 := Lib.hid (HE.out.below hb1)
  clear s1 t1 hb1
  go_enter Tryz.func37, Tryz.ntmps37
  go_wp2_with fail
  refine CON.out.mono ?_
  rintro e w1 ⟨rfl, hw1⟩
  rw [hw1] at HB1 E1 S1
  clear hw1 CON
  cases hp : [13, 10].isPrefixOf f with
  | true =>
    have h2 : hEnd f = some 2 := hEnd_two (List.isPrefixOf_iff_prefix.1 hp)
    have HR := Lib.hid (HS1.out 2 h2)
    clear h2 hp
    go_wp2
    go_ret2
    exact ⟨pair2 HR.out, HB1.out⟩
  | false =>
    have h2 : hEnd f = (fnd [13, 10, 13, 10] f).map (· + 4) := hEnd_far (fun c => by rw [List.isPrefixOf_iff_prefix.2 c] at hp; cases hp)
    have s2 := S1.out.alloc (.cells #[.int .u8 13, .int .u8 10, .int .u8 13, .int .u8 10] 5 (4, 5))
    have t2 : Sl .u8 (w1.alloc (.cells #[.int .u8 13, .int .u8 10, .int .u8 13, .int .u8 10] 5 (4, 5))) (some ⟨w1.heap.size, 0, none⟩) 4 4 [13, 10, 13, 10] := Sl.mark w1 [13, 10, 13, 10] 5 (4, 5) (by decide)
    have hb2 := below_alloc w1 (.cells #[.int .u8 13, .int .u8 10, .int .u8 13, .int .u8 10] 5 (4, 5))
    have CON := Lib.hid (index_any _ _ _ _ _ _ _ _ _ s2 t2 HF.out (isB_all (by decide)) (by decide) (by omega) (E1.out.below hb2))
    have HB2 := Lib.hid (ext_trans HB1.out hb2)
    clear s2 t2 hb2 hp
    go_wp2_with fail
    refine CON.out.mono ?_
    rintro e w2 ⟨rfl, q, rfl⟩
    cases hq : fnd [13, 10, 13, 10] f with
    | some i =>
      rw [ix_some hq]
      have h3 : i ≤ 512 := by
        have := (fnd_some hq).1
        have h4 := S0.out.len
        omega
      rw [hq] at h2
      have HR := Lib.hid (HS1.out (i + 4) h2)
      have i1 : (0 : Int) ≤ (i : Int) := by omega
      clear h2 hq
      go_wp2
      go_ret2
      exact ⟨by rw [HR.out]; rfl, Wd.below_drewN HB2.out q⟩
    | none =>
      rw [ix_none hq]
      rw [hq] at h2
      by_cases h5 : 512 ≤ n
      · have HR := Lib.hid (HS2.out h2 h5)
        have i1 : (512 : Int) ≤ (n : Int) := by omega
        clear h2 hq
        go_wp2
        go_ret2
        exact ⟨pair2 HR.out, Wd.below_drewN HB2.out q⟩
      · have HR := Lib.hid (HS3.out h2 h5)
        have i1 : ¬ (512 : Int) ≤ (n : Int) := by omega
        clear h2 hq
        go_wp2
        go_ret2
        exact ⟨pair2 HR.out, Wd.below_drewN HB2.out q⟩

theorem trip {a b c : Int} {p : Int × Int × Int} (h : p = (a, b, c)) : Ending.returned (.tuple #[.int .i64 a, .int .i64 b, .int .i64 c]) = .returned (.tuple #[.int .i64 p.1, .int .i64 p.2.1, .int .i64 p.2.2]) := by rw [h]

set_option maxRecDepth 100000 in
set_option maxHeartbeats 3200000 in
/-- what Parse of package head answers -/
theorem parse_any (A : Option Addr) (n c : Nat) (l : List Int) (w : World) (s : Sl .u8 w A n c l) (hl : IsB l) (env : Env w) :
    Calls Tryz.prog 30 #[.slice A n c] w fun e w' => e = .returned (.tuple #[.int .i64 (prs l).1, .int .i64 (prs l).2.1, .int .i64 (prs l).2.2]) ∧ Below w.heap.size w w' := by
  have hmax : n ≤ 9223372036854775807 := by have := s.max; have := s.le; unfold maxLen at *; omega
  have hle := s.le
  have hlen := s.len
  have HLEN := Lib.hid hlen
  have S := Lib.hid s
  have HL := Lib.hid hl
  have HE := Lib.hid env
  clear s hl env hlen
  go_enter Tryz.func30, Tryz.ntmps30
  go_wp2_with fail
  refine (sizeOf_any _ _ _ _ _ S.out HL.out HE.out).mono ?_
  rintro e w1 ⟨rfl, hb1⟩
  cases hq : hEnd (l.take 512) with
  | none =>
    have h1 := prs_none hq
    by_cases h5 : 512 ≤ l.length
    · rw [if_pos h5] at h1
      have h2 : sz l = (0, 5) := by unfold sz; rw [hq]; exact if_pos h5
      rw [h2]
      have HR := Lib.hid h1
      clear h1 h2 hq
      go_wp2
      go_ret3
      exact ⟨trip HR.out, hb1⟩
    · rw [if_neg h5] at h1
      have h2 : sz l = (0, 3) := by unfold sz; rw [hq]; exact if_neg h5
      rw [h2]
      have HR := Lib.hid h1
      clear h1 h2 hq
      go_wp2
      go_ret3
      exact ⟨trip HR.out, hb1⟩
  | some k =>
    have h2 : sz l = ((k : Int), 0) := by unfold sz; rw [hq]
    rw [h2]
    have hk := hEnd_le hq
    rw [List.length_take, HLEN.out] at hk
    have hsub : (k : Int) - 2 = ((k - 2 : Nat) : Int) := by omega
    have T := Lib.hid ((S.out.below hb1).cut0 (k - 2) (by omega))
    have E1 := Lib.hid (HE.out.below hb1)
    have HB1 := Lib.hid hb1
    have HQ := Lib.hid hq
    clear h2 hq hb1
    have k1 : (0 : Int) ≤ (k : Int) - 2 := by omega
    have k2 : (k : Int) - 2 ≤ (c : Int) := by omega
    have k3 : ((k : Int) - 2).toNat = k - 2 := by omega
    go_wp2_with fail
    refine (lengthOf_any _ _ _ _ _ T.out (HL.out.take _) (by omega) E1.out).mono ?_
    rintro e w2 ⟨rfl, hb2⟩
    obtain ⟨y, er, hp⟩ : ∃ y er, go (-1) (spl (l.take (k - 2))) = (y, er) := ⟨_, _, rfl⟩
    rw [hp]
    by_cases he : er = 0
    · subst he
      have HR := Lib.hid (prs_ok HQ.out hp)
      clear hp
      go_wp2
      go_ret3
      exact ⟨trip HR.out, ext_trans HB1.out hb2⟩
    · have HR := Lib.hid (prs_bad HQ.out hp he)
      have d1 : (er != 0) = true := by simpa using he
      clear hp he
      go_wp2
      go_ret3
      exact ⟨trip HR.out, ext_trans HB1.out hb2⟩
end He
end Go.Proofs.YtigiiofiajhnlaaGreatDoor
