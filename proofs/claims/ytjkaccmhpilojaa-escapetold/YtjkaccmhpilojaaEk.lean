/-
  The walk of EscapeBack, relative to what the program's Quote and Unquote answer.
-/
import Derived.Test.YtjkaccmhpilojaaEj
import Derived.Lib.AppendStr
namespace Go.Proofs.Ytjkaccmhpilojaa
set_option linter.unusedVariables false
set_option linter.unusedSimpArgs false
open Go.RowKit
namespace Em
open Wd We Utf Es Wi Wf Wr

theorem strCells_bs {l : List Int} (hb : IsB l) : Lib.strCells (Dm.bs l) = l.map (Value.int .u8) := by
  have : (Dm.bs l).data.toList = l.map fun n => UInt8.ofNat n.toNat := by simp [Dm.bs]
  unfold Lib.strCells
  simp only [Array.toList_map, this, List.map_map]
  refine List.map_congr_left fun x hx => ?_
  show Value.int .u8 ((UInt8.ofNat x.toNat).toNat : Int) = _
  rw [Dm.byte_back (hb x hx)]
theorem own_str8 {e : TypeId} {w : World} {B n : Nat} {v : Value} {l E : List Int} {s : ByteArray} (hn : l.length = n) (h : w.ownsRow B e 1 v (n + s.size) (l.map (Value.int .u8) ++ Lib.strCells s)) (h1 : Lib.strCells s = E.map (Value.int .u8)) (h2 : s.size = E.length) : Wd.Own .u8 e w B v (l ++ E) := by
  unfold Wd.Own
  rw [List.length_append, List.map_append, ← h1, ← h2, hn]
  exact h

set_option maxRecDepth 100000 in
set_option maxHeartbeats 4000000 in
theorem core_EscapeBack (HU : UnqOk) (HQ : QuoOk) (A0 A1 A2 : Option Addr) (n0 c0 n1 c1 n2 c2 : Nat) (l0 l1 l2 : List Int) (w : World) (s0 : Sl .i64 w A0 n0 c0 l0) (hz : ∀ x ∈ l0, -9223372036854775808 ≤ x ∧ x ≤ 9223372036854775807)
    (s1 : Sl .u8 w A1 n1 c1 l1) (b1 : IsB l1) (s2 : Sl .u8 w A2 n2 c2 l2) (b2 : IsB l2) (h1 : n1 ≤ 20000000000000) (h2 : n2 ≤ 20000000000000) :
    Calls Try.prog 5 #[.slice A0 n0 c0, .slice A1 n1 c1, .slice A2 n2 c2] w fun e w' => e = .returned (.bool true) ∧ Below w.heap.size w w' := by
  obtain ⟨i0, hi, hz0, hz1, hz2⟩ := info_parts u8_info
  have hl1 := s1.len
  have hl2 := s2.len
  have TX := Lib.hid (text_any A0 n0 c0 l0 w s0 hz)
  have hcs := tcs_chars l0
  have hln := tcs_len l0
  generalize tcs l0 = cs at *
  have hql := quo_len hcs
  have QY := Lib.hid (fun w' => HQ.yes cs w' hcs (by omega))
  have hun := unq_quo hcs (r := l2) b2
  obtain ⟨Q, hQ⟩ : ∃ Q, quo cs = Q := ⟨_, rfl⟩
  have hqb : IsB Q := by rw [← hQ]; exact quo_byte hcs
  rw [hQ] at QY hql hun
  have hsc := strCells_bs hqb
  have hsz := Dm.bs_size Q
  obtain ⟨N, hN⟩ : ∃ N, Q.length = N := ⟨_, rfl⟩
  rw [hN] at hql hun
  have hsz' : (Dm.bs Q).size = N := by rw [hsz, hN]
  have hu : uq (l1 ++ Q ++ l2) (n1 : Int) = (encs cs, ((n1 + N : Nat) : Int), 0) := uq_good (by simp; omega) (by rw [List.append_assoc, ← hl1, List.drop_left]; exact hun)
  have S1 := Lib.hid s1
  have S2 := Lib.hid s2
  have B1 := Lib.hid b1
  have B2 := Lib.hid b2
  have QB := Lib.hid hqb
  have HUQ := Lib.hid hu
  have HSC := Lib.hid hsc
  have HSZ := Lib.hid hsz
  have HLN := Lib.hid (show (l1 ++ Q ++ l2).length = n1 + N + n2 by simp; omega)
  obtain ⟨SQ, hSQ⟩ : ∃ SQ, Dm.bs Q = SQ := ⟨_, rfl⟩
  rw [hSQ] at QY HSC HSZ hsz'
  clear s0 hz s1 b1 s2 b2 hun hqb hu hsc hsz hcs hQ hSQ
  go_enter Try.func5, Try.ntmps5
  go_wp2_with fail
  refine TX.out.mono ?_
  rintro e w1 ⟨rfl, b1⟩
  have H1 := Lib.hid b1
  clear b1
  go_wp2_with fail
  refine (QY.out w1).mono ?_
  rintro e w2 ⟨rfl, b2⟩
  have H2 := Lib.hid (ext_trans8 H1.out b2)
  have S12 := Lib.hid (S1.out.below H2.out)
  have hs2 := H2.out.size
  clear b2
  go_wp2_with fail
  refine (copy_any A1 n1 c1 l1 w2 S12.out (by omega)).mono ?_
  rintro e w3 ⟨v3, rfl, o3, b3⟩
  have H3 := Lib.hid (ext_trans8 H2.out b3)
  have hs3 := b3.size
  have X1 : n1 + SQ.size ≤ maxLen := by unfold maxLen; omega
  have X2 : n1 + SQ.size ≤ 140737488355328 := by omega
  have X3 : ((l1 ++ Q).length + n2) * 1 ≤ 140737488355328 := by rw [List.length_append]; omega
  have X4 : (l1 ++ Q).length + n2 ≤ maxLen := by unfold maxLen; rw [List.length_append]; omega
  have O3 := Lib.hid o3
  have hrow : w3.ownsRow w2.heap.size 5 1 v3 n1 (l1.map (Value.int .u8)) := by have := o3; unfold Wd.Own at this; rw [hl1] at this; exact this
  have HROW := Lib.hid hrow
  clear o3 hrow b3
  go_wp2_with (first | (at_builtin; refine Lib.wpList_append_own_string _ rfl _ _ _ _ rfl w2.heap.size 5 i0 Try.underlying27 Try.underlying9 hi hz0 hz1 hz2 v3 n1 _ rfl HROW.out SQ rfl X1 X2 hs3 ?_; intro v4 w4 ho4 hg4 _; have o4 := own_str8 (l := l1) (E := Q) hl1 ho4 HSC.out HSZ.out; have b4 : Below w2.heap.size w3 w4 := (Below.refl _ _).grown hg4 hs3 (fun g hg => (O3.out.lt hg).1); have O4 := Lib.hid o4; have H4 := Lib.hid (H3.out.trans (b4.mono hs2)); have S24 := Lib.hid (S2.out.below H4.out); have hs4 := b4.size; clear ho4 hg4 o4 b4) | (at_builtin; refine wp_app rfl _ _ _ rfl w2.heap.size Try.underlying27 hi hz0 hz1 hz2 rfl rfl O4.out rfl S24.out X3 X4 (by omega) ?_; intro v5 w5 ho5 hb5 _; have HO5 := Lib.hid ho5; have H5 := Lib.hid (H4.out.trans (hb5.mono hs2)); clear ho5 hb5))
  have hwb : IsB (l1 ++ Q ++ l2) := (B1.out.append QB.out).append B2.out
  have hwl := HLN.out
  have o5 := HO5.out
  have hu := HUQ.out
  generalize l1 ++ Q ++ l2 = W at *
  obtain ⟨A5, c5, rfl, s5, _⟩ := o5.sl
  rw [hwl] at s5 ⊢
  have CON := HU _ _ _ _ (n1 : Int) w5 s5 hwb (by omega) (by omega) (by omega)
  unfold UP at CON
  rw [hu] at CON
  dsimp only at CON
  have HC := Lib.hid CON
  generalize Dm.bs (encs cs) = Z at *
  have e1 : ((n1 + N : Nat) : Int) = (n1 : Int) + (N : Int) := by omega
  rw [e1] at HC
  clear CON s5 o5 hu hwb hwl HO5 HUQ HLN O3 HROW X1 X2 X3 X4 e1 S12
  go_wp2_with fail
  refine HC.out.mono ?_
  rintro e w6 ⟨rfl, b6⟩
  have H6 := Lib.hid (H5.out.trans (b6.mono (by have := H5.out.size; omega)))
  clear b6
  go_wp2_with fail
  refine (awake8 HU HQ w6).mono ?_
  rintro e w7 ⟨rfl, b7⟩
  have H7 := Lib.hid (ext_trans8 H6.out b7)
  clear b7
  go_wp2
  go_ret
  exact ⟨by simp, H7.out⟩
end Em
end Go.Proofs.Ytjkaccmhpilojaa
