/-
  What the program's Quote of layer 8 computes: what the document's does.
-/
import Derived.Test.YtjkaccmhpilojaaEv
import Derived.Test.YtjkaccmhpilojaaEw
import Derived.Test.YtjkaccmhpilojaaEx
import Derived.Test.YtjkaccmhpilojaaEy
import Derived.Test.YtjkaccmhpilojaaEd
import Derived.Test.YtjkaccmhpilojaaEz
import Derived.Test.YtjkaccmhpilojaaEi
import Derived.Test.YtjkaccmhpilojaaWc
namespace Go.Proofs.Ytjkaccmhpilojaa
set_option linter.unusedVariables false
set_option linter.unusedSimpArgs false
open Go.RowKit
namespace Em
open Wd We Utf Es Wi Wf Wr Bu

theorem Bld.below {b : Nat} {bs : List Value} {w w' : World} (h : Bld b bs w) (hb : Below w.heap.size w w') : Bld b bs w' := by
  have hg : w.grownBy w' none := ⟨hb.os, hb.tape, hb.output, hb.size, fun k hk _ => hb.block k hk⟩
  have one : ∀ p, Lib.BuilderAtF 50 5 b b p bs w → Lib.BuilderAtF 50 5 b b p bs w' := fun p h => by
    have hlt := h.lt
    obtain ⟨hB, v, hbk, hown, hne⟩ := h
    exact ⟨hB, v, (hb.block b hlt).trans hbk, hown.kept hg (by cases v.ownBlock <;> simp), hne⟩
  rcases h with h | h
  · exact .inl (one _ h)
  · exact .inr (one _ h)
theorem Bld.lt {b : Nat} {bs : List Value} {w : World} (h : Bld b bs w) : b < w.heap.size := by
  rcases h with h | h <;> exact h.lt
theorem iterPos_of {w : World} {K p : Nat} {s : ByteArray} (h : w.heap[K]? = some (.stringIter s p)) : w.iterPos K = p := by simp only [World.iterPos, h]

/-- the characters that have a letter of their own, as the program looks them up -/
def si (c : Int) : Int := Lib.indexByte [34, 92, 8, 12, 10, 13, 9] c.toNat.toUInt8
theorem short_any (c : Int) (h0 : 0 ≤ c) (h1 : c < 128) (w : World) : Calls Try.prog 26 #[.string ⟨#[34, 92, 8, 12, 10, 13, 9]⟩, .int .i32 c] w fun e w' => e = .returned (.int .i64 (si c)) ∧ w = w' := by
  refine (Any.strings_IndexRune_ascii Sb.rune_lays _ c w h0 h1).mono ?_
  rintro e w' ⟨rfl, rfl⟩
  exact ⟨rfl, rfl⟩
theorem asc_short : Asc ⟨#[34, 92, 8, 12, 10, 13, 9]⟩ := by
  intro i h
  have h7 : i < 7 := h
  match i, h7 with
  | 0, _ => exact (by decide : (34 : UInt8).toNat < 128)
  | 1, _ => exact (by decide : (92 : UInt8).toNat < 128)
  | 2, _ => exact (by decide : (8 : UInt8).toNat < 128)
  | 3, _ => exact (by decide : (12 : UInt8).toNat < 128)
  | 4, _ => exact (by decide : (10 : UInt8).toNat < 128)
  | 5, _ => exact (by decide : (13 : UInt8).toNat < 128)
  | 6, _ => exact (by decide : (9 : UInt8).toNat < 128)
theorem short_none (c : Int) (h0 : 128 ≤ c) (hf : form c ≠ 0) (w : World) : Calls Try.prog 26 #[.string ⟨#[34, 92, 8, 12, 10, 13, 9]⟩, .int .i32 c] w fun e w' => e = .returned (.int .i64 (-1)) ∧ Below w.heap.size w w' :=
  rune_none _ c w asc_short (by decide) h0 hf
theorem si_no {c : Int} (h0 : 0 ≤ c) (h1 : c < 128) : sh c = 0 → si c = -1 :=
  byte_all (P := fun c => c < 128 → sh c = 0 → si c = -1) (by decide +kernel) h0 (by omega) h1
theorem sh_yes {c : Int} (h : sh c ≠ 0) : c = 34 ∨ c = 92 ∨ c = 8 ∨ c = 12 ∨ c = 10 ∨ c = 13 ∨ c = 9 := by
  unfold sh at h
  repeat' split at h
  all_goals omega

theorem hex_at {m : Int} (h0 : 0 ≤ m) (h1 : m < 16) (h : m.toNat < (⟨#[48, 49, 50, 51, 52, 53, 54, 55, 56, 57, 97, 98, 99, 100, 101, 102]⟩ : ByteArray).size) : (((⟨#[48, 49, 50, 51, 52, 53, 54, 55, 56, 57, 97, 98, 99, 100, 101, 102]⟩ : ByteArray)[m.toNat]'h).toNat : Int) = hx m := by
  obtain ⟨n, rfl⟩ := Int.eq_ofNat_of_zero_le (a := m) h0
  have hn : n < 16 := by omega
  match n, hn with
  | 0, _ => rfl
  | 1, _ => rfl
  | 2, _ => rfl
  | 3, _ => rfl
  | 4, _ => rfl
  | 5, _ => rfl
  | 6, _ => rfl
  | 7, _ => rfl
  | 8, _ => rfl
  | 9, _ => rfl
  | 10, _ => rfl
  | 11, _ => rfl
  | 12, _ => rfl
  | 13, _ => rfl
  | 14, _ => rfl
  | 15, _ => rfl
theorem and_15q {c : Int} (h0 : 0 ≤ c) (h1 : c < 32) : bits .and .i32 c 15 = c % 16 :=
  byte_all (P := fun c => c < 32 → bits .and .i32 c 15 = c % 16) (by decide +kernel) h0 (by omega) h1
theorem snoc_q (pre : List Int) (c : Int) : 34 :: qs (pre ++ [c]) = (34 :: qs pre) ++ q1 c := by rw [qs_append, qs_cons, qs_nil, List.append_nil]; rfl
theorem snoc_len (pre : List Int) (c : Int) : (34 :: qs (pre ++ [c])).length = (34 :: qs pre).length + (q1 c).length := by rw [snoc_q, List.length_append]

set_option maxRecDepth 100000 in
set_option maxHeartbeats 1600000 in
theorem quo_no (l : List Int) (w : World) (hb : IsB l) (hn : l.length ≤ 20000000000000) (h : (chk l).2.2 ≠ 0) :
    Calls Try.prog 10 #[.string (Dm.bs l)] w fun e w' => e = .returned (.tuple #[.string ⟨#[]⟩, .int .i64 10]) ∧ Below w.heap.size w w' := by
  obtain ⟨c, w1, kc, t, hbl⟩ := conv_back w rfl hb (by unfold maxLen; omega)
  obtain ⟨x, y, z, hz⟩ : ∃ x y z, chk l = (x, y, z) := ⟨_, _, _, rfl⟩
  rw [hz] at h
  dsimp only at h
  have CON := Lib.hid (check_at _ _ _ _ w1 t hb hz)
  have HB := Lib.hid hbl
  clear t hbl hz hb
  go_enter Try.func10, Try.ntmps10
  go_wp2_with fail
  refine CON.out.mono ?_
  rintro e w2 ⟨rfl, rfl⟩
  clear kc
  go_wp2
  go_ret2
  exact ⟨rfl, HB.out⟩

set_option maxRecDepth 100000 in
set_option maxHeartbeats 4000000 in
theorem quo_wide (cs : List Int) (w : World) (hc : Chars cs) (hq : (quo cs).length ≤ 140737488351232) :
    Calls Try.prog 10 #[.string (Dm.bs (encs cs))] w fun e w' => e = .returned (.tuple #[.string (Dm.bs (quo cs)), .int .i64 0]) ∧ Below w.heap.size w w' := by
  have hb : IsB (encs cs) := encs_byte cs
  have hql : (qs cs).length + 2 ≤ 140737488351232 := by have h := hq; unfold quo at h; rw [List.length_cons, List.length_append] at h; simp only [List.length_cons, List.length_nil] at h; omega
  have hn : (encs cs).length ≤ 140737488351232 := by have := encs_le_qs hc; omega
  obtain ⟨c, w1, kc, t, hbl⟩ := conv_back w rfl hb (by unfold maxLen; omega)
  have hk := chk_encs hc
  have CON := Lib.hid (check_at _ _ _ _ w1 t hb hk)
  have HB := Lib.hid hbl
  have HC := Lib.hid hc
  have hsz : (Dm.bs (encs cs)).size = (encs cs).length := Dm.bs_size _
  obtain ⟨S, hS⟩ : ∃ S, Dm.bs (encs cs) = S := ⟨_, rfl⟩
  obtain ⟨N, hN⟩ : ∃ N, (encs cs).length = N := ⟨_, rfl⟩
  rw [hS] at kc hsz ⊢
  rw [hN] at CON kc hn hsz
  have HN := Lib.hid hN
  have HS := Lib.hid hS
  have HSZ := Lib.hid hsz
  have hs1 := hbl.size
  have W0 := Lib.hid (show Bld w1.heap.size (cl []) (w1.alloc (.cells #[.pointer none, .slice none 0 0] 50)) from Lib.IsBuilderF.of (Lib.fresh_isBuilder 50 5 w1))
  have B0 := Lib.hid (hbl.trans ((below_alloc8 w1 (.cells #[.pointer none, .slice none 0 0] 50)).mono hs1))
  have hs0 : w1.heap.size ≤ (w1.alloc (.cells #[.pointer none, .slice none 0 0] 50)).heap.size := by simp
  have HQL := Lib.hid hql
  clear t hbl hb hk hN hS hsz hc hq hql
  go_enter Try.func10, Try.ntmps10
  go_wp2_with fail
  refine CON.out.mono ?_
  rintro e w2 ⟨rfl, rfl⟩
  clear kc
  go_wp2_with fail
  refine (writeByte_any w1.heap.size (cl []) 34 _ W0.out (by simp [cl]) hs0).mono ?_
  rintro e w3 ⟨rfl, hw3, hb3, hk3⟩
  have W3 := Lib.hid (show Bld w1.heap.size (cl [34]) w3 from hw3)
  have B3 := Lib.hid (B0.out.trans (hb3.mono hs1))
  have hB3 := Bld.lt W3.out
  clear hb3 hk3 hw3 W0 B0 hs0
  obtain ⟨B, hB⟩ : ∃ B, w1.heap.size = B := ⟨_, rfl⟩
  rw [hB] at W3 hB3 hs1 ⊢
  clear hB
  obtain ⟨K, hK⟩ : ∃ K, w3.heap.size = K := ⟨_, rfl⟩
  have WI := Lib.hid (show Bld B (cl [34]) (w3.alloc (.stringIter S 0)) from Lib.IsBuilderF.alloc W3.out _)
  have IT := Lib.hid (show (w3.alloc (.stringIter S 0)).heap[K]? = some (.stringIter S 0) by rw [← hK]; exact World.iter_heap w3 S 0)
  have BI := Lib.hid (B3.out.trans ((below_alloc8 w3 (.stringIter S 0)).mono B3.out.size))
  have hKB : K ≠ B := by omega
  have HKK := Lib.hid hK
  have hBK : B < K := by rw [← hK]; exact hB3
  clear W3 hB3 hK
  go_wp2
  rw [HKK.out]
  go_loopw [] (fun wr => ∃ (pre post : List Int), cs = pre ++ post ∧ Hid (Bld B (cl (34 :: qs pre)) wr) ∧ Hid (wr.heap[K]? = some (.stringIter S (encs pre).length)) ∧ Hid (Below w.heap.size w wr) ∧ True) (fun wr => N - wr.iterPos K)
  case atStart => exact ⟨[], cs, rfl, WI, IT, BI, trivial⟩
  case round =>
    obtain ⟨pre, post, rfl, D0, IT0, E0, _⟩ := hrel
    have hqq := HQL.out
    rw [qs_append, List.length_append] at hqq
    have hol : (34 :: qs pre).length = (qs pre).length + 1 := rfl
    have hlenN := HN.out
    rw [encs_append, List.length_append] at hlenN
    have hBW0 := Nat.le_of_lt (Bld.lt D0.out)
    rcases post with _ | ⟨ch, rest⟩
    · rw [encs_nil, List.length_nil] at hlenN
      have hp : ¬ (encs pre).length < S.size := by rw [HSZ.out]; omega
      have hit := IT0.out
      have hnx : ∀ ty, (Instr.next (.pointer (some ⟨K, 0, none⟩)) true ty).run Try.prog wr = _ := fun ty => Lib.run_next_end_at wr K S _ ty hit hp
      have X1 : (cl (34 :: qs pre)).length + 1 ≤ 140737488355328 := by rw [cl_length]; omega
      clear hqq hol
      have HQ := Lib.hid (show quo (pre ++ []) = (34 :: qs pre) ++ [34] by rw [List.append_nil]; rfl)
      have hib : Hid (IsB ((34 :: qs pre) ++ [34])) := Lib.hid (by have := quo_byte (show Chars (pre ++ []) from HC.out); rw [List.append_nil] at this; exact this)
      clear hlenN hp hit
      go_wp2_with fail
      refine (writeByte_any B _ 34 _ D0.out X1 hBW0).mono ?_
      rintro e w4 ⟨rfl, h4, b4, k4⟩
      have hB4 := Nat.le_of_lt (Bld.lt h4)
      have D4 : Hid (Bld B (Lib.byteCells (u8s ((34 :: qs pre) ++ [34]))) w4) := Lib.hid (by rw [byteCells_cl hib.out, cl_append]; exact h4)
      have E4 := Lib.hid (E0.out.trans (b4.mono hs1))
      clear h4 b4 k4
      go_wp2_with fail
      refine (string_any B _ _ D4.out hB4).mono ?_
      rintro e w5 ⟨rfl, b5⟩
      rw [bs_u8s]
      have E5 := Lib.hid (E4.out.trans (b5.mono hs1))
      clear b5
      go_wp2
      go_ret2
      rw [HQ.out]
      exact ⟨rfl, E5.out⟩
    · have hcc := (show Chars (pre ++ ch :: rest) from HC.out).right
      have hcf := hcc.head
      rw [encs_cons, List.length_append] at hlenN
      obtain ⟨k, hk⟩ : ∃ k, (enc ch).length = k := ⟨_, rfl⟩
      obtain ⟨q, hq⟩ : ∃ q, (encs pre).length = q := ⟨_, rfl⟩
      have HELN := Lib.hid (show (encs (pre ++ [ch])).length = q + k by rw [encs_snoc, List.length_append, hq, hk])
      have hdr : (encs (pre ++ ch :: rest)).drop q = enc ch ++ encs rest := by rw [encs_append, ← hq, List.drop_left, encs_cons]
      rw [hk, hq] at hlenN
      rw [hq] at IT0
      have hk1 : 1 ≤ k := by rw [← hk]; exact List.length_pos_iff.2 (enc_ne hcf)
      have hp : q < S.size := by rw [HSZ.out]; omega
      have hch0 : 0 ≤ ch ∧ ch ≤ 1114111 := by have := form_cases ch; omega
      have hdec : Utf8.decode S q = (ch.toNat, k) := by rw [← HS.out, decode_here hcf hdr, hk]
      have hit := IT0.out
      have hnx0 : ∀ ty, (Instr.next (.pointer (some ⟨K, 0, none⟩)) true ty).run Try.prog wr = .ok (.tuple #[.bool true, .int .i64 q, .int .i32 ch]) (wr.iterAt K S (q + k)) := fun ty => by
        rw [Lib.run_next_any_at wr K S q ty hit hp, hdec]
        simp only
        rw [Int.toNat_of_nonneg hch0.1]
      have D20 := Lib.IsBuilderF.iterAt D0.out hit (q + k)
      have I20 := Lib.iterAt_heap wr K S q (q + k) hit
      have E20 := Lib.below_iterAt E0.out (k := K) (by omega) S (q + k)
      obtain ⟨W2, hW2⟩ : ∃ W2, wr.iterAt K S (q + k) = W2 := ⟨_, rfl⟩
      rw [hW2] at D20 I20 E20 hnx0
      have D2 : Hid (Bld B (cl (34 :: qs pre)) W2) := Lib.hid D20
      have I2 := Lib.hid I20
      have E2 := Lib.hid E20
      have hnx := hnx0
      have HL6 := Lib.hid (show (q1 ch).length ≤ 6 * k by have := (q1_len hcf).2; rw [hk] at this; exact this)
      have hqN : q + k ≤ N := by omega
      have hBW := Nat.le_of_lt (Bld.lt D2.out)
      have HK := Lib.hid hk
      have X0 : (cl (34 :: qs pre)).length + 6 ≤ 140737488355328 := by rw [cl_length]; omega
      clear hqq hol
      clear hlenN hdr hk hq hp hdec hit D20 I20 E20 hW2 hnx0 hcc D0 E0
      by_cases hs : sh ch = 0
      · by_cases h32 : ch < 32
        · have HQ1 := Lib.hid (show q1 ch = [92, 117, 48, 48, hx (ch / 16), hx (ch % 16)] by unfold q1; rw [if_neg (fun g => g hs), if_pos h32])
          have HI := short_any ch hch0.1 (by omega) W2
          rw [si_no hch0.1 (by omega) hs] at HI
          have CI := Lib.hid HI
          obtain ⟨h0, h1⟩ := hch0
          have hand := and_15q h0 h32
          have hm0 : 0 ≤ ch % 16 := by omega
          have hm1 : ch % 16 < 16 := by omega
          clear HI hcf hs h1
          go_wp2_with fail
          refine CI.out.mono ?_
          rintro e w4 ⟨rfl, rfl⟩
          go_wp2_with fail
          refine (writeString_any B _ _ _ D2.out (by show _ + 4 ≤ _; omega) hBW).mono ?_
          rintro e w5 ⟨rfl, h5, b5, k5⟩
          have D5 : Hid (Bld B (cl (34 :: qs pre) ++ cl [92, 117, 48, 48]) w5) := Lib.hid h5
          have I5 := Lib.hid (k5.iter I2.out hKB)
          have E5 := Lib.hid (E2.out.trans (b5.mono hs1))
          have hB5 := Nat.le_of_lt (Bld.lt h5)
          clear h5 b5 k5
          go_wp2_with fail
          refine (writeByte_any B _ _ _ D5.out (by rw [List.length_append]; show _ + 4 + 1 ≤ _; omega) hB5).mono ?_
          rintro e w6 ⟨rfl, h6, b6, k6⟩
          have D6 : Hid (Bld B ((cl (34 :: qs pre) ++ cl [92, 117, 48, 48]) ++ cl [hx (ch / 16)]) w6) := Lib.hid (by rw [hex_at (by omega) (by omega)] at h6; exact h6)
          have I6 := Lib.hid (k6.iter I5.out hKB)
          have E6 := Lib.hid (E5.out.trans (b6.mono hs1))
          have hB6 := Nat.le_of_lt (Bld.lt h6)
          clear h6 b6 k6
          go_wp2_with fail
          refine (writeByte_any B _ _ _ D6.out (by rw [List.length_append, List.length_append]; show _ + 4 + 1 + 1 ≤ _; omega) hB6).mono ?_
          rintro e w7 ⟨rfl, h7, b7, k7⟩
          have D7 : Hid (Bld B (cl (34 :: qs (pre ++ [ch]))) w7) := Lib.hid (by
            rw [hex_at (by omega) (by omega)] at h7
            rw [snoc_q pre ch, HQ1.out, cl_append]
            have h8 : Bld B (((cl (34 :: qs pre) ++ cl [92, 117, 48, 48]) ++ cl [hx (ch / 16)]) ++ [.int .u8 (hx (ch % 16))]) w7 := h7
            simpa [cl] using h8)
          have I7 := Lib.hid (k7.iter I6.out hKB)
          have E7 := Lib.hid (E6.out.trans (b7.mono hs1))
          clear h7 b7 k7
          go_wp2
          exact ⟨⟨pre ++ [ch], rest, by simp, D7, by rw [HELN.out]; exact I7, E7, trivial⟩, by rw [iterPos_of I7.out, iterPos_of IT0.out]; omega⟩
        · have HQ1 := Lib.hid (show q1 ch = enc ch by unfold q1; rw [if_neg (fun g => g hs), if_neg h32])
          have CI : Hid (Calls Try.prog 26 #[.string ⟨#[34, 92, 8, 12, 10, 13, 9]⟩, .int .i32 ch] W2 fun e w' => e = .returned (.int .i64 (-1)) ∧ Below W2.heap.size W2 w') := Lib.hid (by
            by_cases h128 : ch < 128
            · have HI := short_any ch hch0.1 h128 W2
              rw [si_no hch0.1 h128 hs] at HI
              refine HI.mono ?_
              rintro e w' ⟨rfl, rfl⟩
              exact ⟨rfl, Below.refl _ _⟩
            · exact short_none ch (by omega) hcf W2)
          have RC := Lib.hid (runeCells_cl hcf)
          have hr0 : -2147483648 ≤ ch := by omega
          have hr1 : ch ≤ 2147483647 := by omega
          clear hcf hs hch0
          go_wp2_with fail
          refine CI.out.mono ?_
          rintro e w4 ⟨rfl, b4⟩
          have D4 := Lib.hid (Bld.below D2.out b4)
          have I4 : Hid (w4.heap[K]? = some (.stringIter S (q + k))) := Lib.hid ((b4.block K (Array.getElem?_eq_some_iff.1 I2.out).1).trans I2.out)
          have E4 := Lib.hid (E2.out.trans (b4.mono E2.out.size))
          have hB4 := Nat.le_of_lt (Bld.lt D4.out)
          clear b4
          go_wp2_with fail
          refine (writeRune_any B _ ch hr0 hr1 _ D4.out (by omega) hB4).mono ?_
          rintro e w5 ⟨rfl, h5, b5, k5⟩
          rw [RC.out] at h5
          have D5 : Hid (Bld B (cl (34 :: qs (pre ++ [ch]))) w5) := Lib.hid (by rw [snoc_q pre ch, HQ1.out, cl_append]; exact h5)
          have I5 := Lib.hid (k5.iter I4.out hKB)
          have E5 := Lib.hid (E4.out.trans (b5.mono hs1))
          clear h5 b5 k5
          go_wp2
          exact ⟨⟨pre ++ [ch], rest, by simp, D5, by rw [HELN.out]; exact I5, E5, trivial⟩, by rw [iterPos_of I5.out, iterPos_of IT0.out]; omega⟩
      · rcases sh_yes hs with rfl | rfl | rfl | rfl | rfl | rfl | rfl
        · have HQ1 := Lib.hid (show q1 34 = [92, 34] by decide +kernel)
          have HI := short_any 34 (by decide) (by decide) W2
          rw [show si 34 = 0 by decide +kernel] at HI
          have CI := Lib.hid HI
          clear HI hcf hch0 hs
          go_wp2_with fail
          refine CI.out.mono ?_
          rintro e w4 ⟨rfl, rfl⟩
          go_wp2_with fail
          refine (writeByte_any B _ 92 _ D2.out (by omega) hBW).mono ?_
          rintro e w5 ⟨rfl, h5, b5, k5⟩
          have D5 := Lib.hid h5
          have I5 := Lib.hid (k5.iter I2.out hKB)
          have E5 := Lib.hid (E2.out.trans (b5.mono hs1))
          have hB5 := Nat.le_of_lt (Bld.lt h5)
          clear h5 b5 k5
          go_wp2_with fail
          refine (writeByte_any B _ _ _ D5.out (by rw [List.length_append]; show _ + 1 + 1 ≤ _; omega) hB5).mono ?_
          rintro e w6 ⟨rfl, h6, b6, k6⟩
          have D6 : Hid (Bld B (cl (34 :: qs (pre ++ [34]))) w6) := Lib.hid (by
            have h7 : Bld B ((cl (34 :: qs pre) ++ [.int .u8 92]) ++ [.int .u8 34]) w6 := h6
            rw [snoc_q pre 34, HQ1.out, cl_append]
            simpa [cl] using h7)
          have I6 := Lib.hid (k6.iter I5.out hKB)
          have E6 := Lib.hid (E5.out.trans (b6.mono hs1))
          clear h6 b6 k6
          go_wp2
          exact ⟨⟨pre ++ [34], rest, by simp, D6, by rw [HELN.out]; exact I6, E6, trivial⟩, by rw [iterPos_of I6.out, iterPos_of IT0.out]; omega⟩
        · have HQ1 := Lib.hid (show q1 92 = [92, 92] by decide +kernel)
          have HI := short_any 92 (by decide) (by decide) W2
          rw [show si 92 = 1 by decide +kernel] at HI
          have CI := Lib.hid HI
          clear HI hcf hch0 hs
          go_wp2_with fail
          refine CI.out.mono ?_
          rintro e w4 ⟨rfl, rfl⟩
          go_wp2_with fail
          refine (writeByte_any B _ 92 _ D2.out (by omega) hBW).mono ?_
          rintro e w5 ⟨rfl, h5, b5, k5⟩
          have D5 := Lib.hid h5
          have I5 := Lib.hid (k5.iter I2.out hKB)
          have E5 := Lib.hid (E2.out.trans (b5.mono hs1))
          have hB5 := Nat.le_of_lt (Bld.lt h5)
          clear h5 b5 k5
          go_wp2_with fail
          refine (writeByte_any B _ _ _ D5.out (by rw [List.length_append]; show _ + 1 + 1 ≤ _; omega) hB5).mono ?_
          rintro e w6 ⟨rfl, h6, b6, k6⟩
          have D6 : Hid (Bld B (cl (34 :: qs (pre ++ [92]))) w6) := Lib.hid (by
            have h7 : Bld B ((cl (34 :: qs pre) ++ [.int .u8 92]) ++ [.int .u8 92]) w6 := h6
            rw [snoc_q pre 92, HQ1.out, cl_append]
            simpa [cl] using h7)
          have I6 := Lib.hid (k6.iter I5.out hKB)
          have E6 := Lib.hid (E5.out.trans (b6.mono hs1))
          clear h6 b6 k6
          go_wp2
          exact ⟨⟨pre ++ [92], rest, by simp, D6, by rw [HELN.out]; exact I6, E6, trivial⟩, by rw [iterPos_of I6.out, iterPos_of IT0.out]; omega⟩
        · have HQ1 := Lib.hid (show q1 8 = [92, 98] by decide +kernel)
          have HI := short_any 8 (by decide) (by decide) W2
          rw [show si 8 = 2 by decide +kernel] at HI
          have CI := Lib.hid HI
          clear HI hcf hch0 hs
          go_wp2_with fail
          refine CI.out.mono ?_
          rintro e w4 ⟨rfl, rfl⟩
          go_wp2_with fail
          refine (writeByte_any B _ 92 _ D2.out (by omega) hBW).mono ?_
          rintro e w5 ⟨rfl, h5, b5, k5⟩
          have D5 := Lib.hid h5
          have I5 := Lib.hid (k5.iter I2.out hKB)
          have E5 := Lib.hid (E2.out.trans (b5.mono hs1))
          have hB5 := Nat.le_of_lt (Bld.lt h5)
          clear h5 b5 k5
          go_wp2_with fail
          refine (writeByte_any B _ _ _ D5.out (by rw [List.length_append]; show _ + 1 + 1 ≤ _; omega) hB5).mono ?_
          rintro e w6 ⟨rfl, h6, b6, k6⟩
          have D6 : Hid (Bld B (cl (34 :: qs (pre ++ [8]))) w6) := Lib.hid (by
            have h7 : Bld B ((cl (34 :: qs pre) ++ [.int .u8 92]) ++ [.int .u8 98]) w6 := h6
            rw [snoc_q pre 8, HQ1.out, cl_append]
            simpa [cl] using h7)
          have I6 := Lib.hid (k6.iter I5.out hKB)
          have E6 := Lib.hid (E5.out.trans (b6.mono hs1))
          clear h6 b6 k6
          go_wp2
          exact ⟨⟨pre ++ [8], rest, by simp, D6, by rw [HELN.out]; exact I6, E6, trivial⟩, by rw [iterPos_of I6.out, iterPos_of IT0.out]; omega⟩
        · have HQ1 := Lib.hid (show q1 12 = [92, 102] by decide +kernel)
          have HI := short_any 12 (by decide) (by decide) W2
          rw [show si 12 = 3 by decide +kernel] at HI
          have CI := Lib.hid HI
          clear HI hcf hch0 hs
          go_wp2_with fail
          refine CI.out.mono ?_
          rintro e w4 ⟨rfl, rfl⟩
          go_wp2_with fail
          refine (writeByte_any B _ 92 _ D2.out (by omega) hBW).mono ?_
          rintro e w5 ⟨rfl, h5, b5, k5⟩
          have D5 := Lib.hid h5
          have I5 := Lib.hid (k5.iter I2.out hKB)
          have E5 := Lib.hid (E2.out.trans (b5.mono hs1))
          have hB5 := Nat.le_of_lt (Bld.lt h5)
          clear h5 b5 k5
          go_wp2_with fail
          refine (writeByte_any B _ _ _ D5.out (by rw [List.length_append]; show _ + 1 + 1 ≤ _; omega) hB5).mono ?_
          rintro e w6 ⟨rfl, h6, b6, k6⟩
          have D6 : Hid (Bld B (cl (34 :: qs (pre ++ [12]))) w6) := Lib.hid (by
            have h7 : Bld B ((cl (34 :: qs pre) ++ [.int .u8 92]) ++ [.int .u8 102]) w6 := h6
            rw [snoc_q pre 12, HQ1.out, cl_append]
            simpa [cl] using h7)
          have I6 := Lib.hid (k6.iter I5.out hKB)
          have E6 := Lib.hid (E5.out.trans (b6.mono hs1))
          clear h6 b6 k6
          go_wp2
          exact ⟨⟨pre ++ [12], rest, by simp, D6, by rw [HELN.out]; exact I6, E6, trivial⟩, by rw [iterPos_of I6.out, iterPos_of IT0.out]; omega⟩
        · have HQ1 := Lib.hid (show q1 10 = [92, 110] by decide +kernel)
          have HI := short_any 10 (by decide) (by decide) W2
          rw [show si 10 = 4 by decide +kernel] at HI
          have CI := Lib.hid HI
          clear HI hcf hch0 hs
          go_wp2_with fail
          refine CI.out.mono ?_
          rintro e w4 ⟨rfl, rfl⟩
          go_wp2_with fail
          refine (writeByte_any B _ 92 _ D2.out (by omega) hBW).mono ?_
          rintro e w5 ⟨rfl, h5, b5, k5⟩
          have D5 := Lib.hid h5
          have I5 := Lib.hid (k5.iter I2.out hKB)
          have E5 := Lib.hid (E2.out.trans (b5.mono hs1))
          have hB5 := Nat.le_of_lt (Bld.lt h5)
          clear h5 b5 k5
          go_wp2_with fail
          refine (writeByte_any B _ _ _ D5.out (by rw [List.length_append]; show _ + 1 + 1 ≤ _; omega) hB5).mono ?_
          rintro e w6 ⟨rfl, h6, b6, k6⟩
          have D6 : Hid (Bld B (cl (34 :: qs (pre ++ [10]))) w6) := Lib.hid (by
            have h7 : Bld B ((cl (34 :: qs pre) ++ [.int .u8 92]) ++ [.int .u8 110]) w6 := h6
            rw [snoc_q pre 10, HQ1.out, cl_append]
            simpa [cl] using h7)
          have I6 := Lib.hid (k6.iter I5.out hKB)
          have E6 := Lib.hid (E5.out.trans (b6.mono hs1))
          clear h6 b6 k6
          go_wp2
          exact ⟨⟨pre ++ [10], rest, by simp, D6, by rw [HELN.out]; exact I6, E6, trivial⟩, by rw [iterPos_of I6.out, iterPos_of IT0.out]; omega⟩
        · have HQ1 := Lib.hid (show q1 13 = [92, 114] by decide +kernel)
          have HI := short_any 13 (by decide) (by decide) W2
          rw [show si 13 = 5 by decide +kernel] at HI
          have CI := Lib.hid HI
          clear HI hcf hch0 hs
          go_wp2_with fail
          refine CI.out.mono ?_
          rintro e w4 ⟨rfl, rfl⟩
          go_wp2_with fail
          refine (writeByte_any B _ 92 _ D2.out (by omega) hBW).mono ?_
          rintro e w5 ⟨rfl, h5, b5, k5⟩
          have D5 := Lib.hid h5
          have I5 := Lib.hid (k5.iter I2.out hKB)
          have E5 := Lib.hid (E2.out.trans (b5.mono hs1))
          have hB5 := Nat.le_of_lt (Bld.lt h5)
          clear h5 b5 k5
          go_wp2_with fail
          refine (writeByte_any B _ _ _ D5.out (by rw [List.length_append]; show _ + 1 + 1 ≤ _; omega) hB5).mono ?_
          rintro e w6 ⟨rfl, h6, b6, k6⟩
          have D6 : Hid (Bld B (cl (34 :: qs (pre ++ [13]))) w6) := Lib.hid (by
            have h7 : Bld B ((cl (34 :: qs pre) ++ [.int .u8 92]) ++ [.int .u8 114]) w6 := h6
            rw [snoc_q pre 13, HQ1.out, cl_append]
            simpa [cl] using h7)
          have I6 := Lib.hid (k6.iter I5.out hKB)
          have E6 := Lib.hid (E5.out.trans (b6.mono hs1))
          clear h6 b6 k6
          go_wp2
          exact ⟨⟨pre ++ [13], rest, by simp, D6, by rw [HELN.out]; exact I6, E6, trivial⟩, by rw [iterPos_of I6.out, iterPos_of IT0.out]; omega⟩
        · have HQ1 := Lib.hid (show q1 9 = [92, 116] by decide +kernel)
          have HI := short_any 9 (by decide) (by decide) W2
          rw [show si 9 = 6 by decide +kernel] at HI
          have CI := Lib.hid HI
          clear HI hcf hch0 hs
          go_wp2_with fail
          refine CI.out.mono ?_
          rintro e w4 ⟨rfl, rfl⟩
          go_wp2_with fail
          refine (writeByte_any B _ 92 _ D2.out (by omega) hBW).mono ?_
          rintro e w5 ⟨rfl, h5, b5, k5⟩
          have D5 := Lib.hid h5
          have I5 := Lib.hid (k5.iter I2.out hKB)
          have E5 := Lib.hid (E2.out.trans (b5.mono hs1))
          have hB5 := Nat.le_of_lt (Bld.lt h5)
          clear h5 b5 k5
          go_wp2_with fail
          refine (writeByte_any B _ _ _ D5.out (by rw [List.length_append]; show _ + 1 + 1 ≤ _; omega) hB5).mono ?_
          rintro e w6 ⟨rfl, h6, b6, k6⟩
          have D6 : Hid (Bld B (cl (34 :: qs (pre ++ [9]))) w6) := Lib.hid (by
            have h7 : Bld B ((cl (34 :: qs pre) ++ [.int .u8 92]) ++ [.int .u8 116]) w6 := h6
            rw [snoc_q pre 9, HQ1.out, cl_append]
            simpa [cl] using h7)
          have I6 := Lib.hid (k6.iter I5.out hKB)
          have E6 := Lib.hid (E5.out.trans (b6.mono hs1))
          clear h6 b6 k6
          go_wp2
          exact ⟨⟨pre ++ [9], rest, by simp, D6, by rw [HELN.out]; exact I6, E6, trivial⟩, by rw [iterPos_of I6.out, iterPos_of IT0.out]; omega⟩
theorem quo_ok : QuoOk := ⟨fun cs w hc hn => quo_wide cs w hc (by have := (quo_len hc).2; omega), fun l w hb hn h => quo_no l w hb hn h⟩
end Em
end Go.Proofs.Ytjkaccmhpilojaa
