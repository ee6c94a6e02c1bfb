/-
  The walk of FrameReads.
-/
import Derived.Test.YtigiiofiajhnlaaGreatDoorGa
import Derived.Test.YtigiiofiajhnlaaGreatDoorFx
import Derived.Test.YtigiiofiajhnlaaGreatDoorWp
import Derived.Test.YtigiiofiajhnlaaGreatDoorWh
import Derived.Deep.RegionHeld3
import Derived.Deep.DeepCutAuto
namespace Go.Proofs.YtigiiofiajhnlaaGreatDoor
set_option linter.unusedVariables false
set_option linter.unusedSimpArgs false
open Go.RowKit Go.ChangeShapes Go.WideShapes
open Wd We Dm Dc Dd Hm Hb He Fm Fa

/-- two readers, the program's and the document's, that stand alike and lie apart -/
structure Fa.Two7 (w : World) (B P Q : Nat) (s : St) (g h : Option Nat) : Prop where
  m : RdM w B P s g
  d : RdD w B Q s h
  ne : P < Q
  gh : ∀ k, g = some k → h ≠ some k
  gQ : ∀ k, g = some k → k ≠ Q
  hP : ∀ k, h = some k → k ≠ P
theorem Fa.Two7.stay {S : Nat → Prop} {w w' : World} {B P Q : Nat} {s : St} {g h : Option Nat} (t : Fa.Two7 w B P Q s g h) (hb : Stay S w w') (h1 : ¬ S P) (h2 : ¬ S Q) (h3 : ∀ k, g = some k → ¬ S k) (h4 : ∀ k, h = some k → ¬ S k) : Fa.Two7 w' B P Q s g h :=
  ⟨t.m.stay hb h1 h3, t.d.stay hb h2 h4, t.ne, t.gh, t.gQ, t.hP⟩

theorem Fa.wrt_isB {s : St} {p : List Int} (hs : IsB (lft s)) (hp : IsB p) : ∀ l ∈ (wrt s p).1, IsB l := by
  cases s with
  | none => rw [wrt_none]; simp
  | some l =>
    have h := (frs_isB (IsB.append (l := l) hs hp)).1
    by_cases hb : brk (frs (l ++ p)).2 = 0
    · rw [wrt_ok (xs := (frs (l ++ p)).1) (t := (frs (l ++ p)).2) rfl hb]; exact h
    · rw [wrt_bad (xs := (frs (l ++ p)).1) (t := (frs (l ++ p)).2) rfl hb]; exact h

set_option maxRecDepth 100000 in
set_option maxHeartbeats 8000000 in
theorem core_FrameReads (A0 : Option Addr) (n0 c0 : Nat) (l0 : List (List Int)) (w : World) (s0 : LL w A0 n0 c0 l0) (b0 : ∀ l ∈ l0, IsB l) (z0 : ∀ l ∈ l0, l.length ≤ 140737488351232) (env : Env w) :
    Calls Tryz.prog 8 #[.slice A0 n0 c0] w fun e w' => e = .returned (.bool true) ∧ Below w.heap.size w w' := by
  obtain ⟨i0, hi, hz0, hz1, hz2⟩ := info_parts u8_info
  have hlen := s0.len
  have hmx : n0 ≤ 9223372036854775807 := by have := s0.le; have := s0.max; unfold maxLen at *; omega
  have S0 := Lib.hid s0
  have B0 := Lib.hid b0
  have Z0 := Lib.hid z0
  have E := Lib.hid env
  clear s0 b0 z0 env
  go_enter Tryz.func8, Tryz.ntmps8
  go_wp2_with fail
  refine (new_any _).mono ?_
  rintro e w1 ⟨rfl, r1, b1⟩
  go_wp2_with fail
  refine (rnew_rd _).mono ?_
  rintro e w2 ⟨rfl, r2, b2⟩
  have hP1 := r1.lt
  have T2 : Fa.Two7 w2 w.heap.size w.heap.size w1.heap.size (some []) none none := ⟨r1.below b2, ⟨by omega, (by obtain ⟨v, q1, q2, q3⟩ := r2.rd; exact ⟨v, q1, q2.mono (by omega), q3⟩), r2.wt, r2.ib⟩, hP1, (fun k e => by cases e), (fun k e => by cases e), (fun k e => by cases e)⟩
  have HT := Lib.hid T2
  have H2 := Lib.hid (ext_trans b1 b2)
  generalize hQ : w1.heap.size = Q at *
  clear r1 b1 r2 b2 T2 hQ hP1
  go_wp2
  go_loopw [5] (fun ix wr => ∃ (k : Nat) (s : St) (g h : Option Nat), ix = .int .i64 k ∧ k ≤ n0 ∧ k ≤ 40 ∧ Hid (Fa.Two7 wr w.heap.size w.heap.size Q s g h) ∧ Hid (Below w.heap.size w wr)) (fun ix _ => 40 - (intOf ix).toNat)
  case atStart => exact ⟨0, _, _, _, rfl, Nat.zero_le _, by omega, HT, H2⟩
  case round =>
    obtain ⟨k, s, g, h, rfl, hk, hk40, ht, hb⟩ := hrel
    have hsB := hb.out.size
    by_cases hgo : k < n0 ∧ k < 40
    · obtain ⟨hkn, hk40'⟩ := hgo
      have i1 : (k : Int) < (n0 : Int) := by omega
      have i2 : (k : Int) < 40 := by omega
      obtain ⟨bb, off, X, m, cc, p, rfl, hp, hc0, sx, hbb⟩ := S0.out.look hkn
      have hpm := List.mem_of_getElem? hp
      have hpl : m ≤ 140737488351232 := by rw [← sx.len]; exact Z0.out p hpm
      have hc : wr.cell? ⟨bb, off + k, none⟩ = some (.slice X m cc) := (hb.out.cell (p := ⟨bb, off + k, none⟩) hbb).trans hc0
      have IP := Lib.hid (B0.out p hpm)
      have SX := Lib.hid sx
      have HC := Lib.hid hc0
      clear sx hp hpm
      go_wp2_with fail
      refine (copy_wide _ _ _ _ wr (SX.out.below hb.out) (by omega)).mono ?_
      rintro e w3 ⟨vin, rfl, o3, b3⟩
      have T3 := ht.out.stay (Stay.of_below (fun _ => False) b3) id id (fun _ _ c => c) (fun _ _ c => c)
      have H3 := ext_trans hb.out b3
      have hpm : p.length = m := SX.out.len
      have hPl := ht.out.m.lt
      have hQl := ht.out.d.lt
      have hgl := ht.out.m.g_lt
      have hhl := ht.out.d.g_lt
      have hPQ := ht.out.ne
      have hs3 := b3.size
      obtain ⟨Ai, ci, rfl, s3, _⟩ := o3.sl
      rw [hpm] at o3 s3
      have W4 := Lib.hid (write_any w w3 w.heap.size w.heap.size s g Ai m ci p E.out H3 (Nat.le_refl _) (by omega) T3.m s3 IP.out (by omega))
      obtain ⟨xs, er, s2, hw⟩ : ∃ xs er s2, wrt s p = (xs, er, s2) := ⟨_, _, _, rfl⟩
      rw [hw] at W4
      have HW := Lib.hid hw
      have O3 := Lib.hid o3
      have HT3 := Lib.hid T3
      have HH3 := Lib.hid H3
      have HGL := Lib.hid hgl
      have HHL := Lib.hid hhl
      clear o3 b3 T3 H3 s3 hw hgl hhl
      go_wp2_with fail
      refine W4.out.mono ?_
      rintro e w4 ⟨va, g2, rfl, oa, r4, hg2, st4⟩
      dsimp only at oa r4
      have D4 := HT3.out.d.stay st4 (fun c => by rcases c with c | c; omega; exact HT3.out.gQ _ c rfl) (fun q hq c => by rcases c with c | c; exact HT3.out.hP q hq c; exact HT3.out.gh q c hq)
      have I4 := O3.out.stay st4 (fun q hq c => by have := (O3.out.lt hq).1; rcases c with c | c; omega; have := (HGL.out q c).2.1; omega)
      have H4 := HH3.out.trans (st4.below (by omega) (fun q c => by rcases c with c | c; omega; exact (HGL.out q c).1))
      have W5 := Lib.hid (rwrite_any w4 w.heap.size Q s h X m cc p (by have := H4.size; omega) D4 (SX.out.below H4) IP.out (by omega))
      rw [HW.out] at W5
      dsimp only
      have hs4 := st4.size
      have hc4 : w4.cell? ⟨bb, off + k, none⟩ = some (.slice X m cc) := (H4.cell (p := ⟨bb, off + k, none⟩) hbb).trans HC.out
      have hg2Q : ∀ q, g2 = some q → q ≠ Q := fun q hq c => by
        rcases hg2 with e | e
        · exact HT3.out.gQ q (e ▸ hq) c
        · have := e q hq; omega
      have hg2h : ∀ q, g2 = some q → h ≠ some q := fun q hq c => by
        rcases hg2 with e | e
        · exact HT3.out.gh q (e ▸ hq) c
        · have := e q hq; have := (HHL.out q c).2.1; omega
      have hin2 : ∀ q, (Value.slice Ai m ci).ownBlock = some q → g2 ≠ some q ∧ wr.heap.size ≤ q ∧ q < w3.heap.size := fun q hq => by
        have h1 := O3.out.lt hq
        refine ⟨fun c => ?_, h1.1, h1.2⟩
        rcases hg2 with e | e
        · have := (HGL.out q (e ▸ c)).2.1; omega
        · have := e q c; omega
      have HG2Q := Lib.hid hg2Q
      have HG2H := Lib.hid hg2h
      have HIN2 := Lib.hid hin2
      have OA := Lib.hid oa
      have R4 := Lib.hid r4
      have HI4 := Lib.hid I4
      have HH4 := Lib.hid H4
      clear oa r4 hg2 st4 D4 I4 H4 hg2Q hg2h hin2 hc
      go_wp2_with fail
      refine W5.out.mono ?_
      rintro e w5 ⟨vb, h2, rfl, ob, r5, hh2, st5⟩
      dsimp only at ob r5
      have hs5 := st5.size
      have M5 := R4.out.stay st5 (fun c => by omega) (fun q hq c => HG2Q.out q hq c)
      have A5 := OL.stay (OL.bound OA.out) st5 (fun q hq c => by have := (OL.lt OA.out q hq).1; omega) (fun q hq _ _ c => by omega)
      have I5 := HI4.out.stay st5 (fun q hq c => by have := (HIN2.out q hq).2.1; omega)
      have H5 := HH4.out.trans (st5.below (by omega) (fun q c => by omega))
      have hhP : ∀ q, h2 = some q → q ≠ w.heap.size := fun q hq c => by
        rcases hh2 with e | e
        · exact HT3.out.hP q (e ▸ hq) c
        · have := e q hq; omega
      have hgh2 : ∀ q, g2 = some q → h2 ≠ some q := fun q hq c => by
        rcases hh2 with e | e
        · exact HG2H.out q hq (e ▸ c)
        · have h1 := e q c; have h2 := (R4.out.g_lt q hq).2.1; omega
      have hh2h : ∀ q, h2 = some q → (q < wr.heap.size ∨ w4.heap.size ≤ q) := fun q hq => by
        rcases hh2 with e | e
        · exact .inl (HHL.out q (e ▸ hq)).2.1
        · exact .inr (e q hq)
      have T5 : Fa.Two7 w5 w.heap.size w.heap.size Q s2 g2 h2 := ⟨M5, r5, hPQ, hgh2, HG2Q.out, hhP⟩
      have A5b := id A5
      obtain ⟨Aa, ca, rfl, la, _⟩ := A5.ll
      obtain ⟨Ab, cb, rfl, lb, _⟩ := ob.ll
      obtain ⟨vd, d1, _, _⟩ := id r5.rd
      have cd := d1.at1
      have hQ5 := r5.lt
      have hc5 := (H5.cell (p := ⟨bb, off + k, none⟩) hbb).trans HC.out
      have hbb5 : bb < w5.heap.size := Nat.lt_of_lt_of_le hbb H5.size
      have HS : Hid (∀ w', Below w5.heap.size w5 w' → w'.cell? ⟨Q, 1, none⟩ = some (.bool s2.isNone) ∧ w'.cell? ⟨bb, off + k, none⟩ = some (.slice X m cc) ∧ Below w5.heap.size w5 w') := fun w' h => ⟨(h.cell (p := ⟨Q, 1, none⟩) hQ5).trans cd, (h.cell (p := ⟨bb, off + k, none⟩) hbb5).trans hc5, h⟩
      have SAME : Hid (∀ V, Below w5.heap.size w5 V → Calls Tryz.prog 20 #[.slice Aa xs.length ca, .slice Ab xs.length cb] V fun e w' => e = .returned (.bool true) ∧ Below w5.heap.size w5 w') := fun V hV => (same_any _ _ _ _ _ _ _ _ V (la.below hV) (lb.below hV)).mono (by
        rintro e w' ⟨rfl, q, rfl⟩; exact ⟨by simp, Wd.below_drewN hV q⟩)
      have LEFTM : Hid (∀ V, Below w5.heap.size w5 V → Calls Tryz.prog 5 #[.pointer (some ⟨w.heap.size, 0, none⟩)] V fun e w' => e = .returned (.int .i64 ((lft s2).length : Nat)) ∧ Below w5.heap.size w5 w') := fun V hV => (left_any V _ _ _ _ (M5.below hV)).mono (by
        rintro e w' ⟨rfl, rfl⟩; exact ⟨rfl, hV⟩)
      have LEFTD : Hid (∀ V, Below w5.heap.size w5 V → Calls Tryz.prog 21 #[.pointer (some ⟨Q, 0, none⟩)] V fun e w' => e = .returned (.int .i64 ((lft s2).length : Nat)) ∧ Below w5.heap.size w5 w') := fun V hV => (rleft_any V _ _ _ _ (r5.below hV)).mono (by
        rintro e w' ⟨rfl, rfl⟩; exact ⟨rfl, hV⟩)
      have CLOSED : Hid (∀ V, Below w5.heap.size w5 V → Calls Tryz.prog 6 #[.pointer (some ⟨w.heap.size, 0, none⟩)] V fun e w' => e = .returned (.bool s2.isNone) ∧ Below w5.heap.size w5 w') := fun V hV => (closed_any V _ _ _ _ (M5.below hV)).mono (by
        rintro e w' ⟨rfl, rfl⟩; exact ⟨rfl, hV⟩)
      obtain ⟨_, _, hvi, si, _⟩ := I5.sl
      injection hvi with hv1 hv2 hv3
      subst hv1; subst hv3
      rw [hpm] at si
      have EQ : Hid (∀ V, Below w5.heap.size w5 V → Calls Tryz.prog 22 #[.slice Ai m ci, .slice X m cc] V fun e w' => e = .returned (.bool true) ∧ Below w5.heap.size w5 w') := fun V hV => (eq_any _ _ _ _ _ _ p p V ((si.below hV).row) (((SX.out.below H5).below hV).row) (by unfold maxLen; omega)).mono (by
        rintro e w' ⟨rfl, q, rfl⟩; exact ⟨by simp, Wd.below_drewN hV q⟩)
      have HT5 := Lib.hid T5
      have HA5 := Lib.hid A5b
      have HI5 := Lib.hid I5
      have HH5 := Lib.hid H5
      have HHH := Lib.hid hh2h
      have qe : (er != er) = false := by simp
      have ql : (((lft s2).length : Int) != ((lft s2).length : Int)) = false := by simp
      have qc : (s2.isNone != s2.isNone) = false := by simp
      clear M5 r5 A5 A5b I5 H5 hhP hgh2 hh2h T5 la lb d1 cd hQ5 hc5 hbb5 ob hh2 st5 si hc4 hv2 W4 W5
      generalize hLF : (lft s2).length = LF at *
      generalize hCL : s2.isNone = CL at *
      go_wp2_with fail
      go_region_held3 (fun w' => w'.cell? ⟨Q, 1, none⟩ = some (.bool CL) ∧ w'.cell? ⟨bb, off + k, none⟩ = some (.slice X m cc) ∧ Below w5.heap.size w5 w') (exact HS.out _ (by repeat (first | assumption | exact Below.refl _ _ | refine below_drew' ?_)))
          (first
            | (go_at_call 20; refine (SAME.out _ (by repeat (first | assumption | exact Below.refl _ _ | refine below_drew' ?_))).mono ?_; rintro e w9 ⟨rfl, hb3⟩)
            | (go_at_call 5; refine (LEFTM.out _ (by repeat (first | assumption | exact Below.refl _ _ | refine below_drew' ?_))).mono ?_; rintro e w9 ⟨rfl, hb3⟩)
            | (go_at_call 21; refine (LEFTD.out _ (by repeat (first | assumption | exact Below.refl _ _ | refine below_drew' ?_))).mono ?_; rintro e w9 ⟨rfl, hb3⟩)
            | (go_at_call 6; refine (CLOSED.out _ (by repeat (first | assumption | exact Below.refl _ _ | refine below_drew' ?_))).mono ?_; rintro e w9 ⟨rfl, hb3⟩)
            | (go_at_call 22; refine (EQ.out _ (by repeat (first | assumption | exact Below.refl _ _ | refine below_drew' ?_))).mono ?_; rintro e w9 ⟨rfl, hb3⟩))
      have T9 := Lib.hid (HT5.out.stay (Stay.of_below (fun _ => False) hb3) id id (fun _ _ c => c) (fun _ _ c => c))
      have A9 := Lib.hid (OL.below HA5.out hb3)
      have I9 := Lib.hid (HI5.out.below hb3 (fun q hq => (HI5.out.lt hq).2))
      have H9 := Lib.hid (ext_trans HH5.out hb3)
      have hs9 := hb3.size
      clear hb3 HS SAME LEFTM LEFTD CLOSED EQ HT5 HA5 HI5 HH5 qe ql qc
      go_wp2
      go_loopw [11] (fun ix wx => ∃ (j : Nat) (l' : List Int), ix = .int .i64 j ∧ j ≤ m ∧ l'.length = m ∧ Hid (IsB l') ∧ Hid (Wd.Own .u8 5 wx wr.heap.size (.slice Ai m ci) l') ∧ Hid (Stay (fun q => (Value.slice Ai m ci).ownBlock = some q) w9 wx)) (fun ix _ => m - (intOf ix).toNat)
      case atStart => exact ⟨0, p, rfl, Nat.zero_le _, hpm, IP, I9, Lib.hid (Stay.refl _ _)⟩
      case round =>
        obtain ⟨j, l', rfl, hj, hl', hil, hio, hst⟩ := hrel
        by_cases hjm : j < m
        · have j1 : (j : Int) < (m : Int) := by omega
          obtain ⟨g0, rfl, hg0, hfz, hcell⟩ := Own.byte hio.out (show j < l'.length by omega)
          obtain ⟨x, hx⟩ : ∃ x, l'[j]'(by omega) = x := ⟨_, rfl⟩
          have hxb : 0 ≤ x ∧ x ≤ 255 := by rw [← hx]; exact hil.out _ (List.getElem_mem _)
          rw [hx] at hcell
          have HXB := Lib.hid hxb
          clear hx hxb
          go_wp2_with fail
          have hy := xor_byte HXB.out
          obtain ⟨l2, e1, e2, e3⟩ := Wd.Own.put hio.out g0 j hy hil.out
          refine ⟨⟨j + 1, l2, by go_num, by omega, by omega, Lib.hid e2, Lib.hid e3, Lib.hid (hst.out.trans (Stay.set _ (p := ⟨g0, j, none⟩) _ rfl))⟩, by simp [intOf]; omega⟩
        · obtain rfl : j = m := by omega
          have j1 : ¬ (j : Int) < (j : Int) := by omega
          go_wp2_with fail
          have Ta := T9.out.stay hst.out (fun c => by have := (HIN2.out _ c).2.1; omega) (fun c => by have := (HIN2.out _ c).2.1; omega) (fun q hq c => (HIN2.out _ c).1 hq) (fun q hq c => by have h1 := (HIN2.out _ c).2; rcases HHH.out q hq with h | h <;> omega)
          have Aa' := OL.stay A9.out hst.out (fun q hq c => by have h1 := (HIN2.out _ c).2.2; have := (OL.lt A9.out q hq).1; omega) (fun q hq _ _ c => by have h1 := (HIN2.out _ c).2.2; omega)
          have Ha := H9.out.trans (hst.out.below (B := w.heap.size) (by have := H9.out.size; omega) (fun q c => by have h1 := (HIN2.out _ c).2.1; omega))
          have HTa := Lib.hid Ta
          have HAa := Lib.hid Aa'
          have HHa := Lib.hid Ha
          have HXI : Hid (∀ l ∈ xs, IsB l) := Lib.hid (by
            have := Fa.wrt_isB ht.out.m.ib IP.out
            rw [HW.out] at this
            exact this)
          obtain ⟨Va, hVa⟩ : ∃ V, wr = V := ⟨_, rfl⟩
          rw [hVa] at HTa HAa HHa ⊢
          clear Ta Aa' Ha hst hio T9 A9 I9 H9 hVa
          go_loopw [12] (fun ix wy => ∃ (i : Nat) (ls : List (List Int)), ix = .int .i64 i ∧ i ≤ xs.length ∧ ls.length = xs.length ∧ Hid (∀ l ∈ ls, IsB l) ∧ Hid (OL 27 5 wy w3.heap.size (fun q => g2 ≠ some q ∧ w3.heap.size ≤ q ∧ q < w4.heap.size) (.slice Aa xs.length ca) ls) ∧ Hid (Stay (fun q => g2 ≠ some q ∧ w3.heap.size ≤ q ∧ q < w4.heap.size) Va wy)) (fun ix _ => xs.length - (intOf ix).toNat)
          case atStart => exact ⟨0, xs, rfl, Nat.zero_le _, rfl, HXI, HAa, Lib.hid (Stay.refl _ _)⟩
          case round =>
            obtain ⟨i, ls, rfl, hi, hls, hlb, hlo, hst⟩ := hrel
            by_cases hix : i < xs.length
            · have j2 : (i : Int) < (xs.length : Int) := by omega
              obtain ⟨L, hL⟩ : ∃ L, (ls[i]'(by omega)).length = L := ⟨_, rfl⟩
              have hLm : ∀ ls2 : List (List Int), ls2.map List.length = ls.map List.length → ∀ l, ls2[i]? = some l → l.length = L := fun ls2 h l hl => by
                have := congrArg (fun z => z[i]?) h
                simp [hl, show i < ls.length by omega] at this
                omega
              have HLM := Lib.hid hLm
              clear hLm hL
              go_wp2
              go_loopw [13] (fun jx wz => ∃ (jj : Nat) (ls2 : List (List Int)), jx = .int .i64 jj ∧ jj ≤ L ∧ ls2.length = xs.length ∧ Hid (ls2.map List.length = ls.map List.length) ∧ Hid (∀ l ∈ ls2, IsB l) ∧ Hid (OL 27 5 wz w3.heap.size (fun q => g2 ≠ some q ∧ w3.heap.size ≤ q ∧ q < w4.heap.size) (.slice Aa xs.length ca) ls2) ∧ Hid (Stay (fun q => g2 ≠ some q ∧ w3.heap.size ≤ q ∧ q < w4.heap.size) Va wz)) (fun jx _ => L - (intOf jx).toNat)
              case atStart => exact ⟨0, ls, rfl, Nat.zero_le _, hls, Lib.hid rfl, hlb, hlo, hst⟩
              case round =>
                obtain ⟨jj, ls2, rfl, hjj, hls2, hml, hlb2, hlo2, hst2⟩ := hrel
                have ix4 : (xs.length : Int) ≤ 9223372036854775807 := by
                  obtain ⟨_, _, _, lx, _⟩ := OL.ll hlo2.out
                  have h1 := lx.le; have h2 := lx.max; unfold maxLen at h2; omega
                obtain ⟨g1, c1, x1, l1, hv, hB1, hlt1, hl1, hcell1, ho1, hX1⟩ := OL.look hlo2.out (show i < ls2.length by omega)
                injection hv with hv1 hv2 hv3
                subst hv1
                have hl1L := HLM.out _ hml.out _ hl1
                obtain ⟨A3, c3, rfl, s3, _⟩ := ho1.sl
                have i4 : (L : Int) ≤ 9223372036854775807 := by have h1 := s3.le; have h2 := s3.max; unfold maxLen at h2; omega
                have hne : ∀ q, (Value.slice A3 l1.length c3).ownBlock = some q → g1 ≠ q := fun q hq e => by
                  obtain ⟨vs, hrow, _⟩ := hlo2.out
                  exact row_ne hrow ho1 (by decide) g1 rfl (by rw [hq, e])
                rw [hl1L] at hcell1 ho1 hX1 hne
                by_cases hjL : jj < L
                · have j3 : (jj : Int) < (L : Int) := by omega
                  obtain ⟨g3, rfl, hg3, hfz, hcell⟩ := Own.byte ho1 (show jj < l1.length by omega)
                  have hxb : 0 ≤ l1[jj]'(by omega) ∧ l1[jj]'(by omega) ≤ 255 := hlb2.out l1 (List.mem_of_getElem? hl1) _ (List.getElem_mem _)
                  obtain ⟨x, hx⟩ : ∃ x, l1[jj]'(by omega) = x := ⟨_, rfl⟩
                  rw [hx] at hcell hxb
                  have HX1 := Lib.hid (hX1 g3 rfl)
                  have HNE := Lib.hid (hne g3 rfl)
                  have HXB := Lib.hid hxb
                  clear ho1 hX1 hne hx hxb s3 hl1 hl1L hv2 hv3
                  go_upto_region 20 with fail
                  have HSS : wr.drew.cell? ⟨g1, i, none⟩ = some (.slice (some ⟨g3, 0, none⟩) L c3) ∧ wr.drew.cell? ⟨g3, jj, none⟩ = some (.int .u8 x) := ⟨hcell1, hcell⟩
                  have fz : wr.drew.frozen? ⟨g3, jj, none⟩ = false := hfz
                  have cl : wr.drew.cell? ⟨g3, jj, none⟩ = some (.int .u8 x) := hcell
                  refine region_calm (fun w' => w'.cell? ⟨g1, i, none⟩ = some (.slice (some ⟨g3, 0, none⟩) L c3) ∧ w'.cell? ⟨g3, jj, none⟩ = some (.int .u8 x)) [0, 1, 2, 3, 4, 5, 6, 7, 8, 9, 10, 11, 12, 13] (by kernel_rfl) ?_
                  refine any_takeD 0 109 (.slice (some ⟨g1, 0, none⟩) xs.length ca) rfl rfl (by kernel_rfl) (by kernel_rfl) (by kernel_rfl) (by kernel_rfl) (fun _ _ _ h => h) (by rfl) ?_ HSS ?_
                  · rintro w' ⟨q1, q2⟩; go_simp
                  simp only [Act.put, List.setIfInBounds_toArray, List.set_cons_zero, List.set_cons_succ]
                  refine any_takeD 1 110 (.int .i64 (i : Int)) rfl rfl (by kernel_rfl) (by kernel_rfl) (by kernel_rfl) (by kernel_rfl) (fun _ _ _ h => h) (by rfl) ?_ HSS ?_
                  · rintro w' ⟨q1, q2⟩; go_simp
                  simp only [Act.put, List.setIfInBounds_toArray, List.set_cons_zero, List.set_cons_succ]
                  refine any_takeD 2 111 (.pointer (some ⟨g1, i, none⟩)) rfl rfl (by kernel_rfl) (by kernel_rfl) (by kernel_rfl) (by kernel_rfl) (fun _ _ _ h => h) (by rfl) ?_ HSS ?_
                  · rintro w' ⟨q1, q2⟩; go_simp
                  simp only [Act.put, List.setIfInBounds_toArray, List.set_cons_zero, List.set_cons_succ]
                  refine any_takeD 3 112 (.slice (some ⟨g3, 0, none⟩) L c3) rfl rfl (by kernel_rfl) (by kernel_rfl) (by kernel_rfl) (by kernel_rfl) (fun _ _ _ h => h) (by rfl) ?_ HSS ?_
                  · rintro w' ⟨q1, q2⟩; go_simp
                  simp only [Act.put, List.setIfInBounds_toArray, List.set_cons_zero, List.set_cons_succ]
                  refine any_takeD 4 113 (.int .i64 (jj : Int)) rfl rfl (by kernel_rfl) (by kernel_rfl) (by kernel_rfl) (by kernel_rfl) (fun _ _ _ h => h) (by rfl) ?_ HSS ?_
                  · rintro w' ⟨q1, q2⟩; go_simp
                  simp only [Act.put, List.setIfInBounds_toArray, List.set_cons_zero, List.set_cons_succ]
                  refine any_takeD 5 114 (.slice (some ⟨g1, 0, none⟩) xs.length ca) rfl rfl (by kernel_rfl) (by kernel_rfl) (by kernel_rfl) (by kernel_rfl) (fun _ _ _ h => h) (by rfl) ?_ HSS ?_
                  · rintro w' ⟨q1, q2⟩; go_simp
                  simp only [Act.put, List.setIfInBounds_toArray, List.set_cons_zero, List.set_cons_succ]
                  refine any_takeD 6 115 (.int .i64 (i : Int)) rfl rfl (by kernel_rfl) (by kernel_rfl) (by kernel_rfl) (by kernel_rfl) (fun _ _ _ h => h) (by rfl) ?_ HSS ?_
                  · rintro w' ⟨q1, q2⟩; go_simp
                  simp only [Act.put, List.setIfInBounds_toArray, List.set_cons_zero, List.set_cons_succ]
                  refine any_takeD 7 116 (.pointer (some ⟨g1, i, none⟩)) rfl rfl (by kernel_rfl) (by kernel_rfl) (by kernel_rfl) (by kernel_rfl) (fun _ _ _ h => h) (by rfl) ?_ HSS ?_
                  · rintro w' ⟨q1, q2⟩; go_simp
                  simp only [Act.put, List.setIfInBounds_toArray, List.set_cons_zero, List.set_cons_succ]
                  refine any_takeD 8 117 (.slice (some ⟨g3, 0, none⟩) L c3) rfl rfl (by kernel_rfl) (by kernel_rfl) (by kernel_rfl) (by kernel_rfl) (fun _ _ _ h => h) (by rfl) ?_ HSS ?_
                  · rintro w' ⟨q1, q2⟩; go_simp
                  simp only [Act.put, List.setIfInBounds_toArray, List.set_cons_zero, List.set_cons_succ]
                  refine any_takeD 9 118 (.int .i64 (jj : Int)) rfl rfl (by kernel_rfl) (by kernel_rfl) (by kernel_rfl) (by kernel_rfl) (fun _ _ _ h => h) (by rfl) ?_ HSS ?_
                  · rintro w' ⟨q1, q2⟩; go_simp
                  simp only [Act.put, List.setIfInBounds_toArray, List.set_cons_zero, List.set_cons_succ]
                  refine any_takeD 10 119 (.pointer (some ⟨g3, jj, none⟩)) rfl rfl (by kernel_rfl) (by kernel_rfl) (by kernel_rfl) (by kernel_rfl) (fun _ _ _ h => h) (by rfl) ?_ HSS ?_
                  · rintro w' ⟨q1, q2⟩; go_simp
                  simp only [Act.put, List.setIfInBounds_toArray, List.set_cons_zero, List.set_cons_succ]
                  refine any_takeD 11 120 (.int .u8 x) rfl rfl (by kernel_rfl) (by kernel_rfl) (by kernel_rfl) (by kernel_rfl) (fun _ _ _ h => h) (by rfl) ?_ HSS ?_
                  · rintro w' ⟨q1, q2⟩; go_simp
                  simp only [Act.put, List.setIfInBounds_toArray, List.set_cons_zero, List.set_cons_succ]
                  refine any_takeD 12 121 (.int .u8 (bits .xor .u8 x 90)) rfl rfl (by kernel_rfl) (by kernel_rfl) (by kernel_rfl) (by kernel_rfl) (fun _ _ _ h => h) (by rfl) ?_ HSS ?_
                  · rintro w' ⟨q1, q2⟩; go_simp
                  simp only [Act.put, List.setIfInBounds_toArray, List.set_cons_zero, List.set_cons_succ]
                  refine any_takeD 13 122 (.pointer (some ⟨g3, jj, none⟩)) rfl rfl (by kernel_rfl) (by kernel_rfl) (by kernel_rfl) (by kernel_rfl) (fun _ _ _ h => h) (by rfl) ?_ HSS ?_
                  · rintro w' ⟨q1, q2⟩; go_simp
                  simp only [Act.put, List.setIfInBounds_toArray, List.set_cons_zero, List.set_cons_succ]
                  refine any_run0 14 (wr.drew.setCell ⟨g3, jj, none⟩ (.int .u8 (bits .xor .u8 x 90))) (by kernel_rfl) rfl rfl (by rfl) ?_ (.inl (late_of (by kernel_rfl))) ?_
                  · go_simp
                  refine any_done (by kernel_rfl) ?_ _
                  refine calm_normal ?_
                  have hlod := Lib.hid (OL.below hlo2.out (below_drew' (Below.refl wr.heap.size wr)))
                  have hgg : (Value.slice (some ⟨g1, 0, none⟩) xs.length ca).ownBlock ≠ some g3 := fun c => HNE.out (by simpa [Value.ownBlock] using c)
                  obtain ⟨ls3, e1, e2, e3⟩ := OL.put hlod.out g3 jj (xor_byte HXB.out) hgg hlb2.out
                  have st3 := (hst2.out.trans (Stay.of_below _ (below_drew' (Below.refl wr.heap.size wr)))).trans (Stay.set wr.drew (S := fun q => g2 ≠ some q ∧ w3.heap.size ≤ q ∧ q < w4.heap.size) (p := ⟨g3, jj, none⟩) (.int .u8 (bits .xor .u8 x 90)) HX1.out)
                  have HE1 := Lib.hid (e1.trans hml.out)
                  have HE2 := Lib.hid e2
                  have HE3 := Lib.hid e3
                  have HE4 := Lib.hid st3
                  have hls3 : ls3.length = xs.length := by have := congrArg List.length e1; simp at this; omega
                  clear e1 e2 e3 st3 HSS fz cl hcell hcell1 hfz hlod
                  generalize wr.drew.setCell ⟨g3, jj, none⟩ (.int .u8 (bits .xor .u8 x 90)) = wz at *
                  go_wp2_with fail
                  exact ⟨⟨jj + 1, ls3, by go_num, by omega, hls3, HE1, HE2, HE3, HE4⟩, by simp [intOf]; omega⟩
                · obtain rfl : jj = L := by omega
                  have j3 : ¬ (jj : Int) < (jj : Int) := by omega
                  clear ho1 hX1 hne s3 hl1 hl1L hv2 hv3
                  go_wp2_with fail
                  exact ⟨⟨i + 1, ls2, by go_num, by omega, hls2, hlb2, hlo2, hst2⟩, by simp [intOf]; omega⟩
            · have j2 : ¬ (i : Int) < (xs.length : Int) := by omega
              go_wp2_with fail
              have Te := HTa.out.stay hst.out (fun c => by omega) (fun c => by omega) (fun q hq c => c.1 hq) (fun q hq c => by rcases HHH.out q hq with h | h <;> omega)
              have He := HHa.out.trans (hst.out.below (B := w.heap.size) (by have := HHa.out.size; omega) (fun q c => by omega))
              exact ⟨⟨k + 1, s2, g2, h2, by go_num, by omega, by omega, Lib.hid Te, Lib.hid He⟩, by simp [intOf]; omega⟩
    · obtain hx : ¬ (k : Int) < (n0 : Int) ∨ ((k : Int) < (n0 : Int) ∧ ¬ (k : Int) < 40) := by omega
      have hE := hb.out
      have AW := Lib.hid (awake7 _ (E.out.below hE))
      rcases hx with x1 | ⟨x1, x2⟩
      all_goals
        go_wp2_with fail
        refine AW.out.mono ?_
        rintro e w9 ⟨rfl, hb9⟩
        have HB9 := Lib.hid (ext_trans hb.out hb9)
        go_wp2
        go_ret
        exact ⟨rfl, HB9.out⟩

theorem walk_FrameReads (A0 : Option Addr) (n0 c0 : Nat) (ls0 : List (List Int)) (w : World) (s0 : LL w A0 n0 c0 ls0) (b0 : ∀ l ∈ ls0, IsB l) (z0 : ∀ l ∈ ls0, l.length ≤ 140737488351232) (tab : It.Tab w) (env : Hb.Env w) :
    Calls Tryz.prog 8 #[.slice A0 n0 c0] w fun e w' => e = .returned (.bool true) ∧ Below w.heap.size w w' := by
  exact core_FrameReads A0 n0 c0 ls0 w s0 b0 z0 env
end Go.Proofs.YtigiiofiajhnlaaGreatDoor
