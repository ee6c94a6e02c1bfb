/-
  The program's scan of layer 9: take, run.
-/
import Derived.Test.YtjgkaccmfdjffaaDoorSb
import Derived.Test.YtjgkaccmfdjffaaDoorNq
import Derived.BigQuiet
namespace Go.Proofs.YtjgkaccmfdjffaaDoor
set_option linter.unusedVariables false
set_option linter.unusedSimpArgs false
open Go.RowKit
namespace Nu
open Wd We Es
open Dm (Ds vl decs)

/-- does one of such bytes stand there? -/
def hx (X : Int → Bool) : List Int → Bool
  | [] => false
  | a :: _ => X a
theorem hx_hdd (l : List Int) : hx dg l = hdd l := by cases l <;> rfl
theorem hx_hd1 (x y : Int) (l : List Int) : hx (fun a => decide (a = x ∨ a = y)) l = hd1 x y l := by cases l <;> rfl
theorem byte_all9 {P : Int → Prop} (h : ∀ n : Fin 256, P (n : Nat)) {c : Int} (h0 : 0 ≤ c) (h1 : c ≤ 255) : P c := by
  obtain ⟨k, rfl⟩ := Int.eq_ofNat_of_zero_le h0
  exact h ⟨k, by omega⟩
/-- of is the string of these bytes -/
def Off (s : ByteArray) (X : Int → Bool) : Prop := ∀ c : Int, 0 ≤ c → c ≤ 255 → decide (Lib.indexByte s.data.toList c.toNat.toUInt8 < 0) = !X c
theorem off_minus : Off ⟨#[45]⟩ (fun a => decide (a = 45 ∨ a = 45)) := fun c h0 h1 => byte_all9 (P := fun c => decide (Lib.indexByte [45] c.toNat.toUInt8 < 0) = !decide (c = 45 ∨ c = 45)) (by decide +kernel) h0 h1
theorem off_nought : Off ⟨#[48]⟩ (fun a => decide (a = 48 ∨ a = 48)) := fun c h0 h1 => byte_all9 (P := fun c => decide (Lib.indexByte [48] c.toNat.toUInt8 < 0) = !decide (c = 48 ∨ c = 48)) (by decide +kernel) h0 h1
theorem off_point : Off ⟨#[46]⟩ (fun a => decide (a = 46 ∨ a = 46)) := fun c h0 h1 => byte_all9 (P := fun c => decide (Lib.indexByte [46] c.toNat.toUInt8 < 0) = !decide (c = 46 ∨ c = 46)) (by decide +kernel) h0 h1
theorem off_letters : Off ⟨#[101, 69]⟩ (fun a => decide (a = 101 ∨ a = 69)) := fun c h0 h1 => byte_all9 (P := fun c => decide (Lib.indexByte [101, 69] c.toNat.toUInt8 < 0) = !decide (c = 101 ∨ c = 69)) (by decide +kernel) h0 h1
theorem off_signs : Off ⟨#[43, 45]⟩ (fun a => decide (a = 43 ∨ a = 45)) := fun c h0 h1 => byte_all9 (P := fun c => decide (Lib.indexByte [43, 45] c.toNat.toUInt8 < 0) = !decide (c = 43 ∨ c = 45)) (by decide +kernel) h0 h1
theorem off_digits : Off ⟨#[48, 49, 50, 51, 52, 53, 54, 55, 56, 57]⟩ dg := fun c h0 h1 => byte_all9 (P := fun c => decide (Lib.indexByte [48, 49, 50, 51, 52, 53, 54, 55, 56, 57] c.toNat.toUInt8 < 0) = !dg c) (by decide +kernel) h0 h1

/-- a scan in memory: bytes, and a place -/
def Sc (w : World) (P : Nat) (A : Option Addr) (n c : Nat) (p : Nat) : Prop := w.heap[P]? = some (.cells #[.slice A n c, .int .i64 (p : Int)] 47 (0, 0))
theorem Sc.c0 {w : World} {P : Nat} {A : Option Addr} {n c p : Nat} (h : Sc w P A n c p) : w.cell? ⟨P, 0, none⟩ = some (.slice A n c) := by unfold Sc at h; simp only [World.cell?, h]; rfl
theorem Sc.c1 {w : World} {P : Nat} {A : Option Addr} {n c p : Nat} (h : Sc w P A n c p) : w.cell? ⟨P, 1, none⟩ = some (.int .i64 (p : Int)) := by unfold Sc at h; simp only [World.cell?, h]; rfl
theorem Sc.fz {w : World} {P : Nat} {A : Option Addr} {n c p : Nat} (h : Sc w P A n c p) (j : Nat) : w.frozen? ⟨P, j, none⟩ = false := by unfold Sc at h; simp [World.frozen?, h]
theorem Sc.set {w : World} {P : Nat} {A : Option Addr} {n c p : Nat} (h : Sc w P A n c p) (q : Nat) : Sc (w.setCell ⟨P, 1, none⟩ (.int .i64 (q : Int))) P A n c q := by
  unfold Sc at h ⊢; simp [World.setCell, Array.getElem?_modify, h]
theorem Sc.drewN {w : World} {P : Nat} {A : Option Addr} {n c p : Nat} (h : Sc w P A n c p) (k : Nat) : Sc (w.drewN k) P A n c p := h
theorem Sc.lt {w : World} {P : Nat} {A : Option Addr} {n c p : Nat} (h : Sc w P A n c p) : P < w.heap.size := (Array.getElem?_eq_some_iff.1 h).1

set_option maxRecDepth 100000 in
set_option maxHeartbeats 4000000 in
theorem take_any {w0 wr : World} {P : Nat} {A : Option Addr} {n c p : Nat} {l : List Int} {s : ByteArray} {X : Int → Bool} (S : Sl .u8 w0 A n c l) (hb : IsB l) (hP : w0.heap.size = P) (hs : Sc wr P A n c p) (hw : Below P w0 wr) (hp : p ≤ n) (hn : n ≤ 140737488355000) (hX : Off s X) :
    Calls Tryd.prog 39 #[.pointer (some ⟨P, 0, none⟩), .string s] wr fun e w' => e = .returned (.bool (hx X (l.drop p))) ∧ Sc w' P A n c (if hx X (l.drop p) then p + 1 else p) ∧ Below P w0 w' := by
  have hlen := S.len
  have c0 := hs.c0
  have c1 := hs.c1
  have f1 := hs.fz 1
  have HS := Lib.hid hs
  have HW := Lib.hid hw
  have hcn := S.le
  by_cases hpn : p = n
  · subst hpn
    have hd : l.drop p = [] := List.drop_of_length_le (by omega)
    rw [hd]
    have g0 : decide ((p : Int) = (p : Int)) = true := by simp
    clear hs hw hd S
    go_enter Tryd.func39, Tryd.ntmps39
    go_wp2
    go_quiet (fail)
    go_wp2
    go_ret
    exact ⟨rfl, HS.out.drewN _, Wd.below_drewN HW.out _⟩
  · have hpl : p < l.length := by omega
    obtain ⟨x, hx⟩ : ∃ x, l[p]'hpl = x := ⟨_, rfl⟩
    have hxs : l[p]? = some x := by rw [List.getElem?_eq_getElem hpl, hx]
    have hd : l.drop p = x :: l.drop (p + 1) := by rw [List.drop_eq_getElem_cons hpl, hx]
    rw [hd]
    have hxb := hb.at_ hxs
    obtain ⟨b2, off2, hA, hc⟩ := S.row.2 (fun e => by rw [e] at hpl; exact absurd hpl (by simp))
    subst hA
    have cx := (hw.cell (p := ⟨b2, off2 + p, none⟩) (by rw [← hP]; exact lt_of_cell (hc p x hxs))).trans (hc p x hxs)
    have g0 : ((p : Int) == (n : Int)) = false := beq_eq_false_iff_ne.2 (by omega)
    have i1 : (p : Int) < (n : Int) := by omega
    have CON := Lib.hid (fun w' => Any.strings_IndexByte Sb.byte_lays s x w')
    have HX := hX x hxb.1 hxb.2
    obtain ⟨I, hI⟩ : ∃ I, Lib.indexByte s.data.toList x.toNat.toUInt8 = I := ⟨_, rfl⟩
    rw [hI] at CON HX
    show Calls _ _ _ _ (fun e w' => e = .returned (.bool (X x)) ∧ Sc w' P _ n c (if X x = true then p + 1 else p) ∧ _)
    obtain ⟨z, hz⟩ : ∃ z, X x = z := ⟨_, rfl⟩
    rw [hz] at HX ⊢
    clear hs hw hd hx hxs hxb hc hpl S hb hI hz hX
    cases z with
    | false =>
      have hneg : decide (I < 0) = true := HX
      go_enter Tryd.func39, Tryd.ntmps39
      go_wp2
      go_quiet ((go_at_call 52; exact (CON.out _).mono (fun _ _ ⟨he, hw⟩ => ⟨he, _, hw⟩)))
      go_wp2
      go_ret
      exact ⟨rfl, HS.out.drewN _, Wd.below_drewN HW.out _⟩
    | true =>
      have hneg : decide (I < 0) = false := HX
      go_enter Tryd.func39, Tryd.ntmps39
      go_wp2
      go_quiet ((go_at_call 52; exact (CON.out _).mono (fun _ _ ⟨he, hw⟩ => ⟨he, _, hw⟩)))
      go_wp2
      go_ret
      exact ⟨rfl, (HS.out.drewN nq).set (p + 1), (Wd.below_drewN HW.out nq).setCell (p := ⟨P, 1, none⟩) (Nat.le_refl _) _⟩
/-- what the program's run tells -/
def RP (l : List Int) (p : Nat) (w0 : World) (P : Nat) (A : Option Addr) (n c : Nat) (e : Ending) (w' : World) : Prop :=
  e = .returned (.int .i64 (if hdd (l.drop p) then 0 else sho (l.drop p))) ∧ Sc w' P A n c (p + rn (l.drop p)) ∧ Below P w0 w'
set_option maxRecDepth 100000 in
set_option maxHeartbeats 4000000 in
theorem run_any {w0 wr : World} {P : Nat} {A : Option Addr} {n c p : Nat} {l : List Int} (S : Sl .u8 w0 A n c l) (hb : IsB l) (hP : w0.heap.size = P) (hs : Sc wr P A n c p) (hw : Below P w0 wr) (hp : p ≤ n) (hn : n ≤ 140737488355000) :
    Calls Tryd.prog 40 #[.pointer (some ⟨P, 0, none⟩)] wr (RP l p w0 P A n c) := by
  have hlen := S.len
  have c1 := hs.c1
  have HS := Lib.hid hs
  have HW := Lib.hid hw
  have TK := Lib.hid (fun (q : Nat) (wx : World) (h : Sc wx P A n c q) (hw : Below P w0 wx) (hq : q ≤ n) => take_any S hb hP h hw hq hn off_digits)
  have hrn := rn_to (l := l) (p := p) (by omega)
  clear hs hw S hb hP
  go_enter Tryd.func40, Tryd.ntmps40
  go_wp2
  go_loopw [8, 9] (fun _ _ wx => ∃ q : Nat, p ≤ q ∧ q ≤ n ∧ Hid (q + rn (l.drop q) = p + rn (l.drop p)) ∧ Hid (Sc wx P A n c q) ∧ Hid (Below P w0 wx)) (fun _ _ wx => n - (intOf ((wx.cell? ⟨P, 1, none⟩).getD .nilIface)).toNat)
  case atStart => exact ⟨p, Nat.le_refl _, hp, Lib.hid rfl, HS, HW⟩
  case round =>
    obtain ⟨q, hpq, hqn, HR, HQ, HB⟩ := hrel
    have CT := Lib.hid (TK.out q _ HQ.out HB.out hqn)
    have cq := HQ.out.c1
    cases hh : hdd (l.drop q) with
    | true =>
      have hx1 : hx dg (l.drop q) = true := by rw [hx_hdd, hh]
      rw [hx1] at CT
      have hlt := hdd_lt hh
      have HR2 := Lib.hid (show q + 1 + rn (l.drop (q + 1)) = p + rn (l.drop p) by
        have h := HR.out
        rw [rn_step hh, List.drop_drop] at h
        omega)
      clear hh hx1
      go_wp2_with fail
      refine CT.out.mono ?_
      rintro e w1 ⟨rfl, h1, h2⟩
      have H1 := Lib.hid (show Sc w1 P A n c (q + 1) from h1)
      have c12 := H1.out.c1
      have H2 := Lib.hid h2
      clear h1 h2
      go_wp2_with fail
      exact ⟨⟨q + 1, by omega, by omega, HR2, H1, H2⟩, by rw [c12, cq]; simp [intOf]; omega⟩
    | false =>
      have hx1 : hx dg (l.drop q) = false := by rw [hx_hdd, hh]
      rw [hx1] at CT
      have hr0 := rn_zero hh
      have hqe : q = p + rn (l.drop p) := by have := HR.out; omega
      clear hh hx1 hr0
      go_wp2_with fail
      refine CT.out.mono ?_
      rintro e w1 ⟨rfl, h1, h2⟩
      have H1 := Lib.hid (show Sc w1 P A n c q from h1)
      have c12 := H1.out.c1
      have c02 := H1.out.c0
      have H2 := Lib.hid h2
      clear h1 h2
      cases h0 : hdd (l.drop p) with
      | true =>
        have hpos : 1 ≤ rn (l.drop p) := rn_pos h0
        have hgt : (p : Int) < (q : Int) := by omega
        have HE := Lib.hid (show RP l p w0 P A n c (.returned (.int .i64 0)) w1 from ⟨by rw [h0]; rfl, by rw [← hqe]; exact H1.out, H2.out⟩)
        clear h0 hqe hrn hpos
        go_wp2_with fail
        go_ret
        exact HE.out
      | false =>
        have hz : rn (l.drop p) = 0 := rn_zero h0
        obtain rfl : q = p := by omega
        have hgt : ¬ (q : Int) < (q : Int) := by omega
        have HE : Hid (∀ k, RP l q w0 P A n c (.returned (.int .i64 (sho (l.drop q)))) (w1.drewN k)) := Lib.hid (fun k => ⟨by rw [h0]; rfl, by rw [hz]; exact H1.out.drewN k, Wd.below_drewN H2.out k⟩)
        by_cases hqn2 : q = n
        · have hd : sho (l.drop q) = 3 := by unfold sho; rw [if_pos (List.drop_of_length_le (by omega))]
          rw [hd] at HE
          have g0 : ((q : Int) == (n : Int)) = true := by simp; omega
          clear h0 hqe hrn hz hd
          go_wp2_with fail
          go_quiet (fail)
          go_wp2
          go_ret
          exact HE.out _
        · have hd : sho (l.drop q) = 90 := by
            unfold sho; rw [if_neg]
            intro g
            have := congrArg List.length g
            rw [List.length_drop] at this
            simp only [List.length_nil] at this; omega
          rw [hd] at HE
          have g0 : ((q : Int) == (n : Int)) = false := beq_eq_false_iff_ne.2 (by omega)
          clear h0 hqe hrn hz hd
          go_wp2_with fail
          go_quiet (fail)
          go_wp2
          go_ret
          exact HE.out _
end Nu
end Go.Proofs.YtjgkaccmfdjffaaDoor
