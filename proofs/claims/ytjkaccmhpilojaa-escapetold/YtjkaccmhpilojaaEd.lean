/-
  What the document's Quote of layer 8 computes.
-/
import Derived.Test.YtjkaccmhpilojaaEc
namespace Go.Proofs.Ytjkaccmhpilojaa
set_option linter.unusedVariables false
set_option linter.unusedSimpArgs false
open Go.RowKit
namespace Em
open Wd We Utf Es Wi Wf Wr

set_option maxRecDepth 100000 in
set_option maxHeartbeats 1600000 in
theorem rquote_no (l : List Int) (w : World) (hb : IsB l) (hn : l.length ≤ 20000000000000) (h : (chk l).2.2 ≠ 0) :
    Calls Try.prog 11 #[.string (Dm.bs l)] w fun e w' => e = .returned (.tuple #[.string ⟨#[]⟩, .int .i64 10]) ∧ Below w.heap.size w w' := by
  obtain ⟨c, w1, kc, t, hbl⟩ := conv_back w rfl hb (by unfold maxLen; omega)
  obtain ⟨x, y, z, hz⟩ : ∃ x y z, chk l = (x, y, z) := ⟨_, _, _, rfl⟩
  rw [hz] at h
  dsimp only at h
  have CON := Lib.hid (rcheck_at _ _ _ _ w1 t hb hz)
  have HB := Lib.hid hbl
  clear t hbl hz hb
  go_enter Try.func11, Try.ntmps11
  go_wp2_with fail
  refine CON.out.mono ?_
  rintro e w2 ⟨rfl, hb2⟩
  have HB2 := Lib.hid (HB.out.trans (hb2.mono HB.out.size))
  clear hb2 kc
  go_wp2
  go_ret2
  exact ⟨rfl, HB2.out⟩

/-- a piece, as the language cuts it -/
theorem midV {k : IntKind} {w : World} {A : Option Addr} {n c : Nat} {l : List Int} (s : Sl k w A n c l) (i m : Nat) (h : i + m ≤ n) (hc : i < c) : Sl k w (A.map (fun x => x.add i)) m (c - i) ((l.drop i).take m) :=
  ⟨s.row.cut i m h, by have := s.le; omega, by have := s.max; omega, fun e => by cases A with | none => have := s.nil rfl; omega | some a => cases e⟩
theorem q1_ways2 {c : Int} (h : form c ≠ 0) : (q1 c = [92, sh c] ∧ sh c ≠ 0) ∨ (q1 c = [92, 117, 48, 48, hx (c / 16), hx (c % 16)] ∧ sh c = 0 ∧ 0 ≤ c ∧ c < 32) ∨ (q1 c = enc c ∧ sh c = 0 ∧ ¬ c < 32) := by
  unfold q1
  by_cases h1 : sh c = 0
  · have h0 : 0 ≤ c := by have := form_cases c; omega
    by_cases h2 : c < 32
    · exact .inr (.inl ⟨by rw [if_neg (fun g => g h1), if_pos h2], h1, h0, h2⟩)
    · exact .inr (.inr ⟨by rw [if_neg (fun g => g h1), if_neg h2], h1, h2⟩)
  · exact .inl ⟨by rw [if_pos h1], h1⟩

set_option maxRecDepth 100000 in
set_option maxHeartbeats 4000000 in
theorem rquote_any (cs : List Int) (w : World) (hc : Chars cs) (hn : (encs cs).length ≤ 20000000000000) :
    Calls Try.prog 11 #[.string (Dm.bs (encs cs))] w fun e w' => e = .returned (.tuple #[.string (Dm.bs (quo cs)), .int .i64 0]) ∧ Below w.heap.size w w' := by
  obtain ⟨i0, hi, hz0, hz1, hz2⟩ := info_parts u8_info
  have hb : IsB (encs cs) := encs_byte cs
  obtain ⟨c, w1, kc, t, hbl⟩ := conv_back w rfl hb (by unfold maxLen; omega)
  have hk := chk_encs hc
  have CON := Lib.hid (rcheck_at _ _ _ _ w1 t hb hk)
  have HB := Lib.hid hbl
  have S := Lib.hid t
  have HC := Lib.hid hc
  have hcm : c ≤ 9223372036854775807 := by have := t.max; unfold maxLen at this; omega
  have hcn := t.le
  obtain ⟨N, hN⟩ : ∃ N, (encs cs).length = N := ⟨_, rfl⟩
  rw [hN] at CON S kc hn hcn
  have HN := Lib.hid hN
  have hs1 := hbl.size
  clear t hbl hb hk hN
  go_enter Try.func11, Try.ntmps11
  go_wp2_with fail
  refine CON.out.mono ?_
  rintro e w2 ⟨rfl, hb2⟩
  have HB2 := Lib.hid (HB.out.trans (hb2.mono hs1))
  have S2 := Lib.hid (S.out.below hb2)
  have hs2 := hb2.size
  obtain ⟨A, hA⟩ : ∃ A : Option Addr, some ⟨w.heap.size, 0, none⟩ = A := ⟨_, rfl⟩
  rw [hA] at S2 ⊢
  clear hb2 kc
  go_wp2
  go_loopw [7, 8] (fun ov av wr => ∃ (pre post : List Int), cs = pre ++ post ∧ av = .int .i64 ((encs pre).length : Nat) ∧ (34 :: qs pre).length ≤ 1 + 6 * (encs pre).length ∧ Hid (Wd.Own .u8 5 wr w2.heap.size ov (34 :: qs pre)) ∧ Hid (Below w2.heap.size w2 wr)) (fun _ av _ => N - (intOf av).toNat)
  case atStart => exact ⟨[], cs, rfl, by simp, by simp [qs_nil], Lib.hid (Wd.Own.new w2 [34] 5 .u8 (by unfold maxLen; simp) (Nat.le_refl _)), Lib.hid (Dd2.below_alloc w2 _)⟩
  case round =>
    obtain ⟨pre, post, rfl, rfl, hol, hoo, hbw⟩ := hrel
    have hsz := hbw.out.size
    have hlenN := HN.out
    rw [encs_append, List.length_append] at hlenN
    rcases post with _ | ⟨ch, rest⟩
    · rw [encs_nil, List.length_nil] at hlenN
      have k1 : ¬ (((encs pre).length : Nat) : Int) < (N : Int) := by omega
      have SN := Lib.hid (show Sl .u8 (wr.alloc (.cells #[.int .u8 34] 5)) (some ⟨wr.heap.size, 0, none⟩) 1 1 [34] from Sl.new wr [34] 5 .u8 (by unfold maxLen; simp))
      have OE := Lib.hid (Wd.Own.below hoo.out (Dd2.below_alloc wr (.cells #[.int .u8 34] 5)) (fun g hg' => (hoo.out.lt hg').2))
      have BE := Lib.hid (hbw.out.trans ((Dd2.below_alloc wr (.cells #[.int .u8 34] 5)).mono hsz))
      have X1 : ((34 :: qs pre).length + 1) * 1 ≤ 140737488355328 := by omega
      have X2 : (34 :: qs pre).length + 1 ≤ maxLen := by unfold maxLen; omega
      clear hlenN
      go_wp2_with (at_builtin; refine wp_app rfl _ _ _ rfl w2.heap.size Try.underlying27 hi hz0 hz1 hz2 rfl rfl OE.out rfl SN.out X1 X2 (by first | omega | (simp; omega)) ?_; intro v3 w3 ho3 hb3 _; have HB3 := Lib.hid (BE.out.trans hb3); generalize hO9 : (34 :: qs pre) ++ [34] = O9 at ho3; obtain ⟨A3, c3, rfl, so, _⟩ := ho3.sl; have kb := conv_bs so; clear hb3 so ho3)
      go_ret2
      refine ⟨?_, HB2.out.trans (HB3.out.mono (by omega))⟩
      rw [show quo pre = O9 from hO9]
      rfl
    · have hcc := (show Chars (pre ++ ch :: rest) from HC.out).right
      have hcf := hcc.head
      rw [encs_cons, List.length_append] at hlenN
      obtain ⟨k, hk⟩ : ∃ k, (enc ch).length = k := ⟨_, rfl⟩
      obtain ⟨q, hq⟩ : ∃ q, (encs pre).length = q := ⟨_, rfl⟩
      rw [hk, hq] at hlenN
      have hk1 : 1 ≤ k := by rw [← hk]; exact List.length_pos_iff.2 (enc_ne hcf)
      have hfk : form ch = (k : Int) := by rw [← enc_length ch, hk]
      have hdr : (encs (pre ++ ch :: rest)).drop q = enc ch ++ encs rest := by rw [encs_append, ← hq, List.drop_left, encs_cons]
      have hqN : q + k ≤ N := by omega
      have DEC := Lib.hid (rdecode_at _ _ _ (q : Int) _ wr (S2.out.below hbw.out) (encs_byte _) (show decAt (encs (pre ++ ch :: rest)) (q : Int) = (ch, (k : Int), 0) by rw [decAt_in (by rw [HN.out]; omega), hdr, dec_enc hcf, hfk]))
      have SH := Lib.hid (fun w' => rshort_any ch w')
      have e34 : 34 :: qs (pre ++ [ch]) = (34 :: qs pre) ++ q1 ch := by rw [qs_append, qs_cons, qs_nil, List.append_nil]; rfl
      have eln : (encs (pre ++ [ch])).length = q + k := by rw [encs_snoc, List.length_append, hq, hk]
      have HE34 := Lib.hid e34
      have HELN := Lib.hid eln
      have hl1 := q1_len hcf
      rw [hk] at hl1
      have ql := HELN.out
      rw [hq] at hol ⊢
      have htk : ((encs (pre ++ ch :: rest)).drop q).take k = enc ch := by rw [hdr, ← hk, List.take_left]
      have k1 : (q : Int) < (N : Int) := by omega
      have hcb := form_cases ch
      have HQ := Lib.hid hq
      have HK := Lib.hid hk
      have HTK := Lib.hid htk
      clear hdr hfk e34 eln ql hq hk htk hcb
      go_wp2_with fail
      refine DEC.out.mono ?_
      rintro e w' ⟨rfl, hb'⟩
      have OW := Lib.hid (Wd.Own.below hoo.out hb' (fun g hg' => (hoo.out.lt hg').2))
      have BW := Lib.hid (hbw.out.trans (hb'.mono hsz))
      have hsw := hb'.size
      clear hb'
      go_wp2_with fail
      refine (SH.out w').mono ?_
      rintro e w5 ⟨rfl, rfl⟩
      rcases q1_ways2 hcf with ⟨eq1, hs⟩ | ⟨eq1, hs, h0, h1⟩ | ⟨eq1, hs, h1⟩
      · have X1 : ((34 :: qs pre).length + 2) * 1 ≤ 140737488355328 := by omega
        have X2 : (34 :: qs pre).length + 2 ≤ maxLen := by unfold maxLen; omega
        have SN := Lib.hid (show Sl .u8 (w'.alloc (.cells #[.int .u8 92, .int .u8 (sh ch)] 5)) (some ⟨w'.heap.size, 0, none⟩) 2 2 [92, sh ch] from Sl.new w' [92, sh ch] 5 .u8 (by unfold maxLen; simp))
        have OE := Lib.hid (Wd.Own.below OW.out (Dd2.below_alloc w' (.cells #[.int .u8 92, .int .u8 (sh ch)] 5)) (fun g hg' => (OW.out.lt hg').2))
        have BE := Lib.hid (BW.out.trans ((Dd2.below_alloc w' (.cells #[.int .u8 92, .int .u8 (sh ch)] 5)).mono (Nat.le_trans hsz hsw)))
        go_wp2_with (at_builtin; refine wp_app rfl _ _ _ rfl w2.heap.size Try.underlying27 hi hz0 hz1 hz2 rfl rfl OE.out rfl SN.out X1 X2 (by first | omega | (simp; omega)) ?_; intro v3 w3 ho3 hb3 _; have HO3 := Lib.hid ho3; have HB3 := Lib.hid (BE.out.trans hb3); clear ho3 hb3)
        have O9 : Hid (Wd.Own .u8 5 w3 w2.heap.size v3 (34 :: qs (pre ++ [ch]))) := Lib.hid (by rw [HE34.out, eq1]; exact HO3.out)
        exact ⟨⟨pre ++ [ch], rest, by simp, by rw [HELN.out]; go_num, by rw [HELN.out, HE34.out, List.length_append, eq1]; have hk9 := HK.out; simp only [List.length_cons, List.length_nil] at *; omega, O9, HB3⟩, by simp [intOf]; omega⟩
      · rw [hs]
        have X1 : ((34 :: qs pre).length + 6) * 1 ≤ 140737488355328 := by omega
        have X2 : (34 :: qs pre).length + 6 ≤ maxLen := by unfold maxLen; omega
        have D1 := Lib.hid (fun w5 => rdigit_any (ch / 16) (by omega) (by omega) w5)
        have D2 := Lib.hid (fun w5 => rdigit_any (ch % 16) (by omega) (by omega) w5)
        have t1 : ch.tdiv 16 = ch / 16 := Int.tdiv_eq_ediv_of_nonneg h0
        have t2 : ch.tmod 16 = ch % 16 := Int.tmod_eq_emod_of_nonneg h0
        have SN := Lib.hid (show Sl .u8 (w'.alloc (.cells #[.int .u8 92, .int .u8 117, .int .u8 48, .int .u8 48, .int .u8 (hx (ch / 16)), .int .u8 (hx (ch % 16))] 5)) (some ⟨w'.heap.size, 0, none⟩) 6 6 [92, 117, 48, 48, hx (ch / 16), hx (ch % 16)] from Sl.new w' [92, 117, 48, 48, hx (ch / 16), hx (ch % 16)] 5 .u8 (by unfold maxLen; simp))
        have OE := Lib.hid (Wd.Own.below OW.out (Dd2.below_alloc w' (.cells #[.int .u8 92, .int .u8 117, .int .u8 48, .int .u8 48, .int .u8 (hx (ch / 16)), .int .u8 (hx (ch % 16))] 5)) (fun g hg' => (OW.out.lt hg').2))
        have BE := Lib.hid (BW.out.trans ((Dd2.below_alloc w' (.cells #[.int .u8 92, .int .u8 117, .int .u8 48, .int .u8 48, .int .u8 (hx (ch / 16)), .int .u8 (hx (ch % 16))] 5)).mono (Nat.le_trans hsz hsw)))
        go_wp2_with fail
        refine (D1.out w').mono ?_
        rintro e w5 ⟨rfl, rfl⟩
        go_wp2_with fail
        refine (D2.out w').mono ?_
        rintro e w5 ⟨rfl, rfl⟩
        go_wp2_with (at_builtin; refine wp_app rfl _ _ _ rfl w2.heap.size Try.underlying27 hi hz0 hz1 hz2 rfl rfl OE.out rfl SN.out X1 X2 (by first | omega | (simp; omega)) ?_; intro v3 w3 ho3 hb3 _; have HO3 := Lib.hid ho3; have HB3 := Lib.hid (BE.out.trans hb3); clear ho3 hb3)
        have O9 : Hid (Wd.Own .u8 5 w3 w2.heap.size v3 (34 :: qs (pre ++ [ch]))) := Lib.hid (by rw [HE34.out, eq1]; exact HO3.out)
        exact ⟨⟨pre ++ [ch], rest, by simp, by rw [HELN.out]; go_num, by rw [HELN.out, HE34.out, List.length_append, eq1]; have hk9 := HK.out; simp only [List.length_cons, List.length_nil] at *; omega, O9, HB3⟩, by simp [intOf]; omega⟩
      · rw [hs]
        have X1 : ((34 :: qs pre).length + (q + k - q)) * 1 ≤ 140737488355328 := by omega
        have X2 : (34 :: qs pre).length + (q + k - q) ≤ maxLen := by unfold maxLen; omega
        have m0 : (0 : Int) ≤ (q : Int) := by omega
        have m1 : (q : Int) ≤ (q : Int) + (k : Int) := by omega
        have m2 : (q : Int) + (k : Int) ≤ (c : Int) := by omega
        have m3 : ¬ c = q := by omega
        have m4 : ¬ (c : Int) = (q : Int) := by omega
        have SC : Hid (Sl .u8 w' (A.map (fun x => x.add q)) (q + k - q) (c - q) (enc ch)) := Lib.hid (by
          rw [Nat.add_sub_cancel_left, ← HTK.out]
          exact midV (S2.out.below (BW.out.mono (Nat.le_refl _))) q k hqN (by omega))
        go_wp2_with (at_builtin; refine wp_app rfl _ _ _ rfl w2.heap.size Try.underlying27 hi hz0 hz1 hz2 rfl rfl OW.out rfl SC.out X1 X2 (by first | omega | (simp; omega)) ?_; intro v3 w3 ho3 hb3 _; have HO3 := Lib.hid ho3; have HB3 := Lib.hid (BW.out.trans hb3); clear ho3 hb3)
        have O9 : Hid (Wd.Own .u8 5 w3 w2.heap.size v3 (34 :: qs (pre ++ [ch]))) := Lib.hid (by rw [HE34.out, eq1]; exact HO3.out)
        exact ⟨⟨pre ++ [ch], rest, by simp, by rw [HELN.out]; go_num, by rw [HELN.out, HE34.out, List.length_append, eq1]; have hk9 := HK.out; simp only [List.length_cons, List.length_nil] at *; omega, O9, HB3⟩, by simp [intOf]; omega⟩
end Em
end Go.Proofs.Ytjkaccmhpilojaa
