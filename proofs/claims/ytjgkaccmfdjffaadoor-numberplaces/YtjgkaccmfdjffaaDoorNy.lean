/-
  The program's read of layer 9.
-/
import Derived.Test.YtjgkaccmfdjffaaDoorNx
namespace Go.Proofs.YtjgkaccmfdjffaaDoor
set_option linter.unusedVariables false
set_option linter.unusedSimpArgs false
open Go.RowKit
namespace Nu
open Wd We Es Bu
open Dm (Ds vl decs vl_pos vl_lt)

theorem le_no (n : Nat) (x : Int) : ((0, x) : Nat × Int).1 ≤ n := Nat.zero_le _
theorem ckP_le (n : Nat) (l : List Int) : (ckP n l).1 ≤ n + l.length := by
  unfold ckP
  by_cases h : hdd l = true
  · rw [if_pos h]; have := rn_le l; show n + rn l ≤ _; omega
  · rw [if_neg h]; exact le_no _ _
theorem ckE_le (n : Nat) (l : List Int) : (ckE n l).1 ≤ n + l.length := by
  unfold ckE
  by_cases h : hd1 101 69 l = true
  · rw [if_pos h]
    have hl : 1 ≤ l.length := by obtain ⟨a, t, rfl, _⟩ := hd1_some h; simp
    by_cases g : hd1 43 45 (l.drop 1) = true
    · rw [if_pos g]
      have hl2 : 1 ≤ (l.drop 1).length := by obtain ⟨a, t, ht, _⟩ := hd1_some g; rw [ht]; simp
      rw [List.length_drop] at hl2
      have := ckP_le (n + 2) (l.drop 2)
      rw [List.length_drop] at this; omega
    · rw [if_neg g]
      have := ckP_le (n + 1) (l.drop 1)
      rw [List.length_drop] at this; omega
  · rw [if_neg h]; show n ≤ _; omega
theorem ckF_le (n : Nat) (l : List Int) : (ckF n l).1 ≤ n + l.length := by
  unfold ckF
  by_cases h : hd1 46 46 l = true
  · rw [if_pos h]
    have hl : 1 ≤ l.length := by obtain ⟨a, t, rfl, _⟩ := hd1_some h; simp
    by_cases g : hdd (l.drop 1) = true
    · rw [if_pos g]
      have := ckE_le (n + 1 + rn (l.drop 1)) (l.drop (1 + rn (l.drop 1)))
      have hr := rn_le (l.drop 1)
      rw [List.length_drop] at this hr; omega
    · rw [if_neg g]; exact le_no _ _
  · rw [if_neg h]; exact ckE_le _ _
theorem ckI_le (n : Nat) (l : List Int) : (ckI n l).1 ≤ n + l.length := by
  unfold ckI
  by_cases h : hdd l = true
  · rw [if_pos h]
    have hl : 1 ≤ l.length := by obtain ⟨a, t, rfl, _⟩ := hdd_some h; simp
    by_cases g : hd1 48 48 l = true
    · rw [if_pos g]
      have := ckF_le (n + 1) (l.drop 1)
      rw [List.length_drop] at this; omega
    · rw [if_neg g]
      have := ckF_le (n + rn l) (l.drop (rn l))
      have hr := rn_le l
      rw [List.length_drop] at this; omega
  · rw [if_neg h]; exact le_no _ _
theorem ck_le (n : Nat) (l : List Int) : (ck n l).1 ≤ n + l.length := by
  unfold ck
  by_cases h : hd1 45 45 l = true
  · rw [if_pos h]
    have hl : 1 ≤ l.length := by obtain ⟨a, t, rfl, _⟩ := hd1_some h; simp
    have := ckI_le (n + 1) (l.drop 1)
    rw [List.length_drop] at this; omega
  · rw [if_neg h]; exact ckI_le _ _

/-- what stands ahead of a number's power, and behind its letter -/
def bdy (l : List Int) : List Int := l.takeWhile nl
def pwr (l : List Int) : List Int := (l.dropWhile nl).drop 1
theorem map_lo {l : List Int} (h : ∀ x ∈ l, x < 65) : l.map lo9 = l := by
  induction l with
  | nil => rfl
  | cons a l ih =>
    have ha := h a (by simp)
    rw [List.map_cons, ih (fun x hx => h x (by simp [hx]))]
    congr 1
    unfold lo9; rw [if_neg (by omega)]
theorem pl_hd {b : Bool} {ip fd : List Int} (hi : Ds ip) (hf : Ds fd) : Pl (hd b ip fd) := by
  intro x hx
  unfold hd at hx
  rcases List.mem_append.1 hx with h | h
  · cases b with
    | false => cases h
    | true => left; simpa [sg] using h
  · rcases List.mem_append.1 h with h | h
    · exact .inr (.inr (hi x h))
    · unfold fp at h
      split at h
      · cases h
      · rcases List.mem_cons.1 h with h | h
        · exact .inr (.inl h)
        · exact .inr (.inr (hf x h))
theorem any_hd {b : Bool} {ip fd : List Int} (hi : Ds ip) (hf : Ds fd) : (hd b ip fd).any (fun x => decide (x = 45)) = b := by
  have h1 : (ip ++ fp fd).any (fun x => decide (x = 45)) = false := by
    rw [List.any_eq_false]
    intro x hx
    rcases List.mem_append.1 hx with h | h
    · have := hi x h; simp; omega
    · unfold fp at h
      split at h
      · cases h
      · rcases List.mem_cons.1 h with h | h
        · simp; omega
        · have := hf x h; simp; omega
  unfold hd
  rw [List.any_append, h1, Bool.or_false]
  cases b <;> rfl
/-- the parts of a number -/
theorem parts {l : List Int} (h : ck 0 l = (l.length, 0)) : Pl (bdy l) ∧ bdy l ≠ [] ∧ mj (bdy l) (bdy l).length = hd1 45 45 l ∧ (∀ x ∈ l, 0 ≤ x ∧ x < 128) ∧
    ((l.map lo9 = bdy l ∧ l.dropWhile nl = [] ∧ pwr l = []) ∨ (l.map lo9 = bdy l ++ 101 :: pwr l ∧ l.dropWhile nl ≠ [])) := by
  obtain ⟨b, ip, fd, ex, hi, hf, he, rfl⟩ := form_of h
  have e1 : bdy (mk b ip fd ex) = hd b ip fd := by unfold bdy; rw [mk_eq, takeWhile_app (hd_nl hi.1 hf), (ex_take he).1, List.append_nil]
  have e2 : (mk b ip fd ex).dropWhile nl = ex := by rw [mk_eq, dropWhile_app (hd_nl hi.1 hf), (ex_take he).2]
  have hp := pl_hd (b := b) hi.1 hf
  have hlo : (hd b ip fd).map lo9 = hd b ip fd := map_lo (fun x hx => by have := hp x hx; omega)
  refine ⟨by rw [e1]; exact hp, ?_, ?_, ?_, ?_⟩
  · rw [e1]
    intro g
    have := congrArg List.length g
    unfold hd at this
    rw [List.length_append, List.length_append] at this
    have hn := List.length_pos_iff.2 hi.2.1
    simp only [List.length_nil] at this
    omega
  · rw [mk_sign hi, e1]
    unfold mj
    rw [List.take_length]
    exact any_hd hi.1 hf
  · intro x hx
    rw [mk_eq] at hx
    rcases List.mem_append.1 hx with g | g
    · have := hp x g; omega
    · rcases he with _ | ⟨c, s, ed, hc, hs, hd, hn⟩
      · cases g
      · rcases List.mem_cons.1 g with rfl | g
        · omega
        · rcases List.mem_append.1 g with g | g
          · rcases hs with rfl | rfl | rfl
            · cases g
            · have : x = 43 := by simpa using g
              omega
            · have : x = 45 := by simpa using g
              omega
          · have := hd x g; omega
  · unfold pwr
    rw [e1, e2, mk_eq, List.map_append, hlo]
    rcases he with _ | ⟨c, s, ed, hc, hs, hd, hn⟩
    · left; exact ⟨by simp, rfl, rfl⟩
    · right
      refine ⟨?_, by simp⟩
      congr 1
      show lo9 c :: (s ++ ed).map lo9 = 101 :: (s ++ ed)
      rw [map_lo (l := s ++ ed) (fun x hx => by
        rcases List.mem_append.1 hx with g | g
        · rcases hs with rfl | rfl | rfl
          · cases g
          · have : x = 43 := by simpa using g
            omega
          · have : x = 45 := by simpa using g
            omega
        · have := hd x g; omega)]
      congr 1
      unfold lo9
      rcases hc with rfl | rfl <;> rfl
theorem pl_val {l : List Int} (h : ck 0 l = (l.length, 0)) : pl (bdy l) = if nz (dgs l) = [] then (false, [], 0) else (hd1 45 45 l, ez (nz (dgs l)), - (frc l : Int) + (tz (nz (dgs l)) : Int)) := by
  rw [← (parts h).2.2.1]; rfl
theorem xpo_pwr (l : List Int) : xpo l = pw (pwr l) := by
  unfold xpo pwr
  by_cases h : l.dropWhile nl = []
  · rw [if_pos h, h]; rfl
  · rw [if_neg h]
/-- what read tells -/
def rd (l : List Int) : (Bool × List Int × Int) × Bool := match val l with
  | none => ((false, [], 0), false)
  | some x => (x, true)
end Nu
end Go.Proofs.YtjgkaccmfdjffaaDoor
