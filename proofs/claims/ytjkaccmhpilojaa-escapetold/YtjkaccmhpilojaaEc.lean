/-
  What the document's Unquote of layer 8 computes.
-/
import Derived.Test.YtjkaccmhpilojaaEb
import Derived.Test.YtjkaccmhpilojaaEs
namespace Go.Proofs.Ytjkaccmhpilojaa
set_option linter.unusedVariables false
set_option linter.unusedSimpArgs false
open Go.RowKit
namespace Em
open Wd We Utf Es Wi Wf Wr

/-- the string at a place: what it tells, the place behind it, or what is wrong -/
def uq (l : List Int) (a : Int) : List Int × Int × Int :=
  if a < 0 ∨ (l.length : Int) < a then ([], 0, 9) else if (unq (l.drop a.toNat)).2.2 ≠ 0 then ([], 0, (unq (l.drop a.toNat)).2.2) else ((unq (l.drop a.toNat)).1, a + (unq (l.drop a.toNat)).2.1, 0)
theorem uq_out {l : List Int} {a : Int} (h : a < 0 ∨ (l.length : Int) < a) : uq l a = ([], 0, 9) := if_pos h
theorem uq_bad {l : List Int} {p : Nat} (hp : p ≤ l.length) {s : List Int} {k : Nat} {e : Int} (h : unq (l.drop p) = (s, k, e)) (he : e ≠ 0) : uq l (p : Int) = ([], 0, e) := by
  unfold uq
  rw [if_neg (by omega), Int.toNat_natCast, h, if_pos he]
theorem uq_good {l : List Int} {p : Nat} (hp : p ≤ l.length) {s : List Int} {k : Nat} (h : unq (l.drop p) = (s, k, 0)) : uq l (p : Int) = (s, ((p + k : Nat) : Int), 0) := by
  unfold uq
  rw [if_neg (by omega), Int.toNat_natCast, h, if_neg (fun g => g rfl)]
  simp
theorem bnd_nil {l : List Int} (hb : ∀ x ∈ l, 0 ≤ x ∧ x ≤ 255) : bnd [] 0 (ub l) = ub l := by
  by_cases g : (ub l).2.2 = 0
  · rw [bnd_ok g]; simp [← g]
  · rw [bnd_bad g, ← (ub_err hb g).1]
theorem own_isB {e : TypeId} {w : World} {B : Nat} {v : Value} {a b : List Int} (ha : IsB a) (hb : IsB b) : IsB (a ++ b) := ha.append hb

theorem Dd2.below_alloc (w : World) (o : Obj) : Below w.heap.size w (w.alloc o) := (Below.refl _ _).alloc (Nat.le_refl _) o
/-- what the document's Unquote answers -/
def UP (l : List Int) (a : Int) (w : World) (e : Ending) (w' : World) : Prop := e = .returned (.tuple #[.string (Dm.bs (uq l a).1), .int .i64 (uq l a).2.1, .int .i64 (uq l a).2.2]) ∧ Below w.heap.size w w'
theorem UP.no {l : List Int} {p q : Nat} {o : List Int} {e : Int} {w w' : World} (hb : IsB l) (hp : p < l.length) (h34 : l[p]? = some 34) (hu : ub (l.drop (p + 1)) = bnd o (q - (p + 1)) (ub (l.drop q))) (h : ub (l.drop q) = ([], 0, e)) (he : e ≠ 0) (hw : Below w.heap.size w w') :
    UP l (p : Int) w (.returned (.tuple #[.string ⟨#[]⟩, .int .i64 0, .int .i64 e])) w' := by
  have h1 : l.drop p = 34 :: l.drop (p + 1) := by
    rw [List.drop_eq_getElem_cons hp]; congr 1
    rw [List.getElem?_eq_getElem hp] at h34; injection h34
  have h2 : unq (l.drop p) = ([], 0, e) := by rw [h1, unq_yes, hu, bnd_bnd, h]; exact bnd_bad he
  unfold UP
  rw [uq_bad (by omega) h2 he]
  exact ⟨rfl, hw⟩

set_option maxRecDepth 100000 in
set_option maxHeartbeats 4000000 in
theorem runquote_any (A : Option Addr) (n c : Nat) (l : List Int) (a : Int) (w : World) (s : Sl .u8 w A n c l) (hb : IsB l) (hn : n ≤ 140737488351232) :
    Calls Try.prog 15 #[.slice A n c, .int .i64 a] w (UP l a w) := by
  obtain ⟨i0, hi, hz0, hz1, hz2⟩ := info_parts u8_info
  have hlen := s.len
  have hcm : c ≤ 9223372036854775807 := by have := s.max; unfold maxLen at this; omega
  have hcn := s.le
  have S := Lib.hid s
  have HB := Lib.hid hb
  clear s hb
  by_cases ha : a < 0 ∨ (n : Int) < a
  · have hE := Lib.hid (show uq l a = ([], 0, 9) from uq_out (by rw [hlen]; exact ha))
    rcases ha with ha | ha
    · go_enter Try.func15, Try.ntmps15
      go_wp2
      go_ret3
      unfold UP; rw [hE.out]; exact ⟨rfl, Below.refl _ _⟩
    · have ha' : ¬ a < 0 := by omega
      go_enter Try.func15, Try.ntmps15
      go_wp2
      go_ret3
      unfold UP; rw [hE.out]; exact ⟨rfl, Below.refl _ _⟩
  obtain ⟨p, rfl⟩ := Int.eq_ofNat_of_zero_le (a := a) (by omega)
  have hp : p ≤ n := by omega
  have j1 : ¬ (p : Int) < 0 := by omega
  have j2 : ¬ (n : Int) < (p : Int) := by omega
  clear ha
  by_cases hpn : p = n
  · subst hpn
    have hE := Lib.hid (show uq l (p : Int) = ([], 0, 3) from uq_bad (by omega) (s := []) (k := 0) (by rw [List.drop_of_length_le (by omega)]; rfl) (by decide))
    go_enter Try.func15, Try.ntmps15
    go_wp2
    go_ret3
    unfold UP; rw [hE.out]; exact ⟨rfl, Below.refl _ _⟩
  have j3 : ¬ (p : Int) = (n : Int) := by omega
  have j4 : (p : Int) < (n : Int) := by omega
  have hne : l ≠ [] := fun e => by rw [e] at hlen; simp at hlen; omega
  obtain ⟨b, off, rfl, hcell⟩ := S.out.row.2 hne
  obtain ⟨x, hx⟩ : ∃ x, l[p]'(by omega) = x := ⟨_, rfl⟩
  have hpx : l[p]? = some x := by rw [List.getElem?_eq_getElem (by omega), hx]
  have c0' := hcell p x hpx
  have e0 : l.drop p = x :: l.drop (p + 1) := by rw [List.drop_eq_getElem_cons (by omega), hx]
  by_cases h34 : x = 34
  · subst h34
    have HC := Lib.hid hcell
    have HP := Lib.hid hpx
    have hmix := HB.out
    clear hcell e0 hx hpx
    go_enter Try.func15, Try.ntmps15
    go_wp2_with fail
    clear c0'
    go_loopw [1, 7] (fun av ov wr => ∃ (q : Nat) (o : List Int), av = .int .i64 q ∧ p + 1 ≤ q ∧ q ≤ n ∧ o.length ≤ q ∧ Hid (IsB o) ∧ Hid (Wd.Own .u8 5 wr w.heap.size ov o) ∧ Hid (Below w.heap.size w wr) ∧ Hid (ub (l.drop (p + 1)) = bnd o (q - (p + 1)) (ub (l.drop q)))) (fun av _ _ => n - (intOf av).toNat)
    case atStart => exact ⟨p + 1, [], by go_num, by omega, by omega, by simp, Lib.hid (fun x hx => by cases hx), Lib.hid Wd.Own.nil, Lib.hid (Below.refl _ _), Lib.hid (by rw [Nat.sub_self]; exact (bnd_nil (HB.out.drop _)).symm)⟩
    case round =>
      obtain ⟨q, o, rfl, hpq, hqn, hol, hio, hoo, hbw, hu⟩ := hrel
      have hsz := hbw.out.size
      rcases goes (l.drop q) (HB.out.drop _) with ⟨hl, h'⟩ | ⟨t, hl, h'⟩ | ⟨y, t, hl, hy, h'⟩ | ⟨t, hl, he, h'⟩ | ⟨t, hl, he, h'⟩ | ⟨y, t, hl, g1, g2, g3, hd, h'⟩ | ⟨ch, t, hc, hl, h'⟩
      · have hq : q = n := by have := congrArg List.length hl; rw [List.length_drop] at this; simp at this; omega
        have k1 : (n : Int) ≤ (q : Int) := by omega
        have R := Lib.hid (UP.no (w := w) HB.out (show p < l.length by omega) HP.out hu.out h' (by decide) hbw.out)
        clear h' hl
        go_wp2
        go_ret3
        exact R.out
      · have hql : q < l.length := by have := congrArg List.length hl; rw [List.length_drop] at this; simp at this; omega
        have hq34 : l[q]? = some 34 := by rw [List.drop_eq_getElem_cons hql] at hl; rw [List.getElem?_eq_getElem hql, (List.cons.inj hl).1]
        have cq := (hbw.out.cell (p := ⟨b, off + q, none⟩) (lt_of_cell (HC.out q 34 hq34))).trans (HC.out q 34 hq34)
        have k1 : ¬ (n : Int) ≤ (q : Int) := by omega
        have k2 : (q : Int) < (n : Int) := by omega
        obtain ⟨Ao, co, rfl, so, _⟩ := hoo.out.sl
        have kc := conv_bs so
        have e1 : l.drop p = 34 :: l.drop (p + 1) := by
          rw [List.drop_eq_getElem_cons (by omega)]; congr 1
          have := HP.out; rw [List.getElem?_eq_getElem (by omega)] at this; injection this
        have h2 : unq (l.drop p) = (o, 1 + (q - (p + 1) + 1), 0) := by rw [e1, unq_yes, hu.out, h', bnd_ok (q := ([], 1, 0)) rfl, bnd_ok rfl]; simp
        have hE := Lib.hid (uq_good (by omega) h2)
        have hEp : p + (1 + (q - (p + 1) + 1)) = q + 1 := by omega
        rw [hEp] at hE
        clear h' hl h2 e1 hq34
        go_wp2
        go_ret3
        unfold UP; rw [hE.out]; exact ⟨by go_num, hbw.out⟩
      · have hql : q < l.length := by have := congrArg List.length hl; rw [List.length_drop] at this; simp at this; omega
        have hqy : l[q]? = some y := by rw [List.drop_eq_getElem_cons hql] at hl; rw [List.getElem?_eq_getElem hql, (List.cons.inj hl).1]
        have cq := (hbw.out.cell (p := ⟨b, off + q, none⟩) (lt_of_cell (HC.out q _ hqy))).trans (HC.out q _ hqy)
        have k1 : ¬ (n : Int) ≤ (q : Int) := by omega
        have k2 : (q : Int) < (n : Int) := by omega
        have k3 : ¬ y = 34 := by omega
        have R := Lib.hid (UP.no (w := w) HB.out (show p < l.length by omega) HP.out hu.out h' (by decide) hbw.out)
        clear h' hl hqy
        go_wp2
        go_ret3
        exact R.out
      · have hql : q < l.length := by have := congrArg List.length hl; rw [List.length_drop] at this; simp at this; omega
        have hqy : l[q]? = some 92 := by rw [List.drop_eq_getElem_cons hql] at hl; rw [List.getElem?_eq_getElem hql, (List.cons.inj hl).1]
        have cq := (hbw.out.cell (p := ⟨b, off + q, none⟩) (lt_of_cell (HC.out q _ hqy))).trans (HC.out q _ hqy)
        have k1 : ¬ (n : Int) ≤ (q : Int) := by omega
        have k2 : (q : Int) < (n : Int) := by omega
        obtain ⟨hez, _⟩ := esc_bad he
        obtain ⟨z, hz⟩ : ∃ z, (esc (l.drop q)).2.2 = z := ⟨_, rfl⟩
        rw [hz] at he hez h'
        have CON := rescape_any _ _ _ _ wr (S.out.below hbw.out) HB.out q (by omega) hn
        unfold EP at CON
        rw [hez] at CON
        have HCON := Lib.hid CON
        have R := Lib.hid (UP.no (w := w) HB.out (show p < l.length by omega) HP.out hu.out h' he hbw.out)
        clear h' hl hqy CON hez hz
        go_wp2_with fail
        refine HCON.out.mono ?_
        rintro e w' ⟨rfl, rfl⟩
        go_wp2_with fail
        go_ret3
        exact R.out
      · have hql : q < l.length := by have := congrArg List.length hl; rw [List.length_drop] at this; simp at this; omega
        have hqy : l[q]? = some 92 := by rw [List.drop_eq_getElem_cons hql] at hl; rw [List.getElem?_eq_getElem hql, (List.cons.inj hl).1]
        have cq := (hbw.out.cell (p := ⟨b, off + q, none⟩) (lt_of_cell (HC.out q _ hqy))).trans (HC.out q _ hqy)
        have k1 : ¬ (n : Int) ≤ (q : Int) := by omega
        have k2 : (q : Int) < (n : Int) := by omega
        have hg := esc_good he
        obtain ⟨c1, m1, z, hz⟩ : ∃ c1 m1 z, esc (l.drop q) = (c1, m1, z) := ⟨_, _, _, rfl⟩
        have CON := rescape_any _ _ _ _ wr (S.out.below hbw.out) HB.out q (by omega) hn
        unfold EP at CON
        rw [hz] at CON he hg h'
        dsimp only at he hg h' CON
        subst he
        have HCON := Lib.hid CON
        have hm : q + m1 ≤ n := by have := hg.2.2.2; rw [List.length_drop] at this; omega
        have hf := hg.1
        have hlt := hg.2.2.1
        have h2m := hg.2.1
        rw [List.drop_drop] at h'
        have HU : Hid (ub (l.drop (p + 1)) = bnd (o ++ enc c1) (q + m1 - (p + 1)) (ub (l.drop (q + m1)))) := Lib.hid (by rw [hu.out, h', bnd_bnd, show q - (p + 1) + m1 = q + m1 - (p + 1) by omega])
        have ENC := Lib.hid (rencode_ok c1 hf wr)
        have IE := Lib.hid (show IsB (enc c1) from enc_byte c1)
        have SE := Lib.hid (show Sl .u8 (wr.alloc (.cells (Wr.bs (enc c1)) 5)) (some ⟨wr.heap.size, 0, none⟩) (enc c1).length (enc c1).length (enc c1) from Sl.new wr (enc c1) 5 .u8 (by unfold maxLen; omega))
        have OE := Lib.hid (Wd.Own.below hoo.out (Dd2.below_alloc wr (.cells (Wr.bs (enc c1)) 5)) (fun g hg' => (hoo.out.lt hg').2))
        have BE := Lib.hid (hbw.out.trans ((Dd2.below_alloc wr (.cells (Wr.bs (enc c1)) 5)).mono hsz))
        clear h' hl hqy CON hz hg hf hu hoo hbw
        go_wp2_with fail
        refine HCON.out.mono ?_
        rintro e w' ⟨rfl, rfl⟩
        go_wp2_with fail
        refine ENC.out.mono ?_
        rintro e w' ⟨rfl, rfl⟩
        go_wp2_with (at_builtin; refine wp_app rfl _ _ _ rfl w.heap.size Try.underlying27 hi hz0 hz1 hz2 rfl rfl OE.out rfl SE.out (by omega) (by unfold maxLen; omega) (by simp; omega) ?_; intro v3 w3 ho3 hb3 _; have HO3 := Lib.hid ho3; have HB3 := Lib.hid (BE.out.trans hb3); clear ho3 hb3)
        exact ⟨⟨q + m1, o ++ enc c1, by go_num, by omega, hm, by rw [List.length_append]; omega, Lib.hid (own_isB (e := 0) (w := w) (B := 0) (v := .bool true) hio.out IE.out), HO3, HB3, HU⟩, by simp [intOf]; omega⟩
      · have hql : q < l.length := by have := congrArg List.length hl; rw [List.length_drop] at this; simp at this; omega
        have hqy : l[q]? = some y := by rw [List.drop_eq_getElem_cons hql] at hl; rw [List.getElem?_eq_getElem hql, (List.cons.inj hl).1]
        have cq := (hbw.out.cell (p := ⟨b, off + q, none⟩) (lt_of_cell (HC.out q _ hqy))).trans (HC.out q _ hqy)
        have k1 : ¬ (n : Int) ≤ (q : Int) := by omega
        have k2 : (q : Int) < (n : Int) := by omega
        have k3 : ¬ y < 32 := by omega
        have hdb := dec_bad (HB.out.drop q) hd
        obtain ⟨z, hz⟩ : ∃ z, (dec (l.drop q)).2.2 = z := ⟨_, rfl⟩
        rw [hz] at hd hdb
        have DEC := Lib.hid (rdecode_at _ _ _ (q : Int) _ wr (S.out.below hbw.out) HB.out (show decAt l (q : Int) = (0, 0, z) by rw [decAt_in hql, hdb]))
        have R : Hid (∀ w', Below wr.heap.size wr w' → UP l (p : Int) w (.returned (.tuple #[.string ⟨#[]⟩, .int .i64 0, .int .i64 10])) w') := Lib.hid (fun w' hw' => UP.no (w := w) HB.out (show p < l.length by omega) HP.out hu.out h' (by decide) (hbw.out.trans (hw'.mono hsz)))
        clear h' hl hqy hdb hz
        go_wp2_with fail
        refine DEC.out.mono ?_
        rintro e w' ⟨rfl, hb'⟩
        have R2 := Lib.hid (R.out w' hb')
        clear hb'
        go_wp2_with fail
        go_ret3
        exact R2.out
      · obtain ⟨y, u, heq, hy⟩ := enc_head hc.1
        have hql : q < l.length := by have := congrArg List.length hl; rw [List.length_drop, heq] at this; simp at this; omega
        have hqy : l[q]? = some y := by rw [heq, List.drop_eq_getElem_cons hql] at hl; rw [List.getElem?_eq_getElem hql, (List.cons.inj hl).1]
        have cq := (hbw.out.cell (p := ⟨b, off + q, none⟩) (lt_of_cell (HC.out q _ hqy))).trans (HC.out q _ hqy)
        have k1 : ¬ (n : Int) ≤ (q : Int) := by omega
        have k2 : (q : Int) < (n : Int) := by omega
        obtain ⟨hcf, hc1, hc2, hc3⟩ := hc
        have k3 : ¬ y < 32 := by omega
        have k4 : ¬ y = 34 := by omega
        have k5 : ¬ y = 92 := by omega
        obtain ⟨k, hk⟩ : ∃ k, (enc ch).length = k := ⟨_, rfl⟩
        have hk1 : 1 ≤ k := by rw [← hk]; exact List.length_pos_iff.2 (enc_ne hcf)
        have hfk : form ch = (k : Int) := by rw [← enc_length ch, hk]
        have hkn : q + k ≤ n := by have := congrArg List.length hl; rw [List.length_drop, List.length_append] at this; omega
        have hdr : l.drop (q + k) = t := by rw [← List.drop_drop, hl, ← hk, List.drop_left]
        have htk : (l.drop q).take k = enc ch := by rw [hl, ← hk, List.take_left]
        have DEC := Lib.hid (rdecode_at _ _ _ (q : Int) _ wr (S.out.below hbw.out) HB.out (show decAt l (q : Int) = (ch, (k : Int), 0) by rw [decAt_in hql, hl, dec_enc hcf, hfk]))
        have HU : Hid (ub (l.drop (p + 1)) = bnd (o ++ enc ch) (q + k - (p + 1)) (ub (l.drop (q + k)))) := Lib.hid (by rw [hu.out, h', bnd_bnd, hk, hdr, show q - (p + 1) + k = q + k - (p + 1) by omega])
        have IE := Lib.hid (show IsB (enc ch) from enc_byte ch)
        have hs := S.out.cutS q k hkn
        rw [htk] at hs
        have HSC := Lib.hid hs
        have HKL := Lib.hid hk
        have m0 : (0 : Int) ≤ (q : Int) := by omega
        have m1 : (q : Int) ≤ (q : Int) + (k : Int) := by omega
        have m2 : (q : Int) + (k : Int) ≤ (c : Int) := by omega
        have m3 : ¬ c = q := by omega
        have m4 : ¬ (c : Int) = (q : Int) := by omega
        clear h' hl hqy hdr htk hu heq hy hc1 hc2 hc3 hcf hfk hs hk
        go_wp2_with fail
        refine DEC.out.mono ?_
        rintro e w' ⟨rfl, hb'⟩
        have SC : Hid (Sl .u8 w' (some ⟨b, off + q, none⟩) (q + k - q) (c - q) (enc ch)) := Lib.hid (by rw [Nat.add_sub_cancel_left]; exact HSC.out.below (hbw.out.trans (hb'.mono hsz)))
        have OE := Lib.hid (Wd.Own.below hoo.out hb' (fun g hg' => (hoo.out.lt hg').2))
        have BE := Lib.hid (hbw.out.trans (hb'.mono hsz))
        have hs' := hb'.size
        clear hb'
        go_wp2_with (at_builtin; refine wp_app rfl _ _ _ rfl w.heap.size Try.underlying27 hi hz0 hz1 hz2 rfl rfl OE.out rfl SC.out (by omega) (by unfold maxLen; omega) (by omega) ?_; intro v3 w3 ho3 hb3 _; have HO3 := Lib.hid ho3; have HB3 := Lib.hid (BE.out.trans hb3); clear ho3 hb3)
        exact ⟨⟨q + k, o ++ enc ch, by go_num, by omega, hkn, by rw [List.length_append, HKL.out]; omega, Lib.hid (own_isB (e := 0) (w := w) (B := 0) (v := .bool true) hio.out IE.out), HO3, HB3, HU⟩, by simp [intOf]; omega⟩
  · have hE := Lib.hid (show uq l (p : Int) = ([], 0, 80) from uq_bad (by omega) (s := []) (k := 0) (by rw [e0]; exact unq_no h34) (by decide))
    clear hcell e0
    go_enter Try.func15, Try.ntmps15
    go_wp2
    go_ret3
    unfold UP; rw [hE.out]; exact ⟨rfl, Below.refl _ _⟩
end Em
end Go.Proofs.Ytjkaccmhpilojaa
