/-
  What the document's answer 'joined' of layer 1 computes.
-/
import Derived.Test.YtjkaccmhpilojaaWf
namespace Go.Proofs.Ytjkaccmhpilojaa
set_option linter.unusedVariables false
set_option linter.unusedSimpArgs false
open Go.RowKit
namespace Wf
open Utf Wd Wr We Wi

def md : Nat → Int
  | 2 => 32
  | 3 => 16
  | 4 => 8
  | _ => 256
/-- the number that m bytes would have -/
def jn (l : List Int) (m : Nat) : Int := cv ((l.headD 0) % md m) ((l.drop 1).take (m - 1))

theorem cv_le {c : Int} (h0 : 0 ≤ c) (h1 : c < 256) (l : List Int) (hl : l.length ≤ 3) : 0 ≤ cv c l ∧ cv c l < 67108864 := by
  match l, hl with
  | [], _ => simp [cv]; omega
  | [a], _ => simp [cv]; omega
  | [a, b], _ => simp [cv]; omega
  | [a, b, d], _ => simp [cv]; omega

theorem take_step {l : List Int} {k : Nat} {y : Int} (c : Int) (hk : 1 ≤ k) (h : l[k]? = some y) : cv c ((l.drop 1).take (k + 1 - 1)) = cv c ((l.drop 1).take (k - 1)) * 64 + y % 64 := by
  have e : k + 1 - 1 = (k - 1) + 1 := by omega
  rw [e]
  refine cv_step c ?_
  rw [List.getElem?_drop, show 1 + (k - 1) = k by omega]; exact h

set_option maxHeartbeats 1600000 in
theorem joined_any (A : Option Addr) (n c m : Nat) (l : List Int) (w : World) (h : Row .u8 w A n l) (hb : IsB l) (h1 : 1 ≤ m) (h4 : m ≤ 4) (hn : m ≤ n) :
    Calls Try.prog 44 #[.slice A n c, .int .i64 m] w fun e w' => e = .returned (.int .i64 (jn l m)) ∧ w = w' := by
  obtain ⟨b, off, x, rfl, hx, hc, _⟩ := h.look (j := 0) (by omega)
  have hxb := hb.at_ hx
  rw [Nat.add_zero] at hc
  have hhd : l.headD 0 = x := by cases l with
    | nil => simp at hx
    | cons a r => simp at hx; simp [hx]
  have hj : jn l m = cv (x % md m) ((l.drop 1).take (m - 1)) := by unfold jn; rw [hhd]
  have HJ := Lib.hid hj
  have HR := Lib.hid h
  have HB := Lib.hid hb
  have i0 : (0 : Int) < (n : Int) := by omega
  clear h hb hx hhd hj
  rcases (by omega : m = 1 ∨ m = 2 ∨ m = 3 ∨ m = 4) with rfl | rfl | rfl | rfl
  · have hz : 0 ≤ x % md 1 ∧ x % md 1 < 256 := by simp only [md]; omega
    have hv : ∀ k, 0 ≤ cv (x % md 1) (((l.drop 1).take (1 - 1)).take k) ∧ cv (x % md 1) (((l.drop 1).take (1 - 1)).take k) < 67108864 := fun k => cv_le hz.1 hz.2 _ (by rw [List.length_take, List.length_take]; omega)
    have HV := Lib.hid hv
    clear hv
    go_enter Try.func44, Try.ntmps44
    go_wp2
    rw [show x = x % md 1 from by simp only [md]; omega]
    generalize hg : x % md 1 = C0 at *
    have HG := Lib.hid hg
    clear hg
    go_loop [5, 6] (fun cc ix => ∃ k : Nat, 1 ≤ k ∧ k ≤ 1 ∧ ix = .int .i64 k ∧ cc = .int .i64 (cv C0 ((l.drop 1).take (k - 1)))) (fun _ ix => 1 - (intOf ix).toNat)
    case atStart => exact ⟨1, by omega, by omega, rfl, rfl⟩
    case round =>
      obtain ⟨k, hk1, hk2, rfl, rfl⟩ := hrel
      have hv : 0 ≤ cv C0 ((l.drop 1).take (k - 1)) ∧ cv C0 ((l.drop 1).take (k - 1)) < 67108864 := cv_le hz.1 hz.2 _ (by rw [List.length_take]; omega)
      by_cases hlt : k < 1
      · exact absurd hlt (by omega)
      · obtain rfl : k = 1 := by omega
        go_wp2
        go_ret
        exact ⟨ret1 (by rw [HJ.out]; simp), rfl⟩
  · have hz : 0 ≤ x % md 2 ∧ x % md 2 < 256 := by simp only [md]; omega
    have hv : ∀ k, 0 ≤ cv (x % md 2) (((l.drop 1).take (2 - 1)).take k) ∧ cv (x % md 2) (((l.drop 1).take (2 - 1)).take k) < 67108864 := fun k => cv_le hz.1 hz.2 _ (by rw [List.length_take, List.length_take]; omega)
    have HV := Lib.hid hv
    clear hv
    go_enter Try.func44, Try.ntmps44
    go_wp2
    rw [show x % 32 = x % md 2 from rfl]
    generalize hg : x % md 2 = C0 at *
    have HG := Lib.hid hg
    clear hg
    go_loop [5, 6] (fun cc ix => ∃ k : Nat, 1 ≤ k ∧ k ≤ 2 ∧ ix = .int .i64 k ∧ cc = .int .i64 (cv C0 ((l.drop 1).take (k - 1)))) (fun _ ix => 2 - (intOf ix).toNat)
    case atStart => exact ⟨1, by omega, by omega, rfl, rfl⟩
    case round =>
      obtain ⟨k, hk1, hk2, rfl, rfl⟩ := hrel
      have hv : 0 ≤ cv C0 ((l.drop 1).take (k - 1)) ∧ cv C0 ((l.drop 1).take (k - 1)) < 67108864 := cv_le hz.1 hz.2 _ (by rw [List.length_take]; omega)
      by_cases hlt : k < 2
      · obtain ⟨b', off', y, e, hy, hcy, _⟩ := HR.out.look (j := k) (by omega)
        obtain ⟨rfl, rfl⟩ : b = b' ∧ off = off' := by injection e with e; injection e with e1 e2; exact ⟨e1, e2⟩
        clear e
        have hyb := HB.out.at_ hy
        have HS := Lib.hid (take_step C0 hk1 hy)
        clear hy
        have i1 : (k : Int) < (n : Int) := by omega
        generalize cv C0 ((l.drop 1).take (k - 1)) = C at *
        go_wp2
        go_round
        case rel => exact ⟨k + 1, by omega, by omega, by go_num, by rw [HS.out]⟩
        case measure => simp [intOf]; omega
      · obtain rfl : k = 2 := by omega
        go_wp2
        go_ret
        exact ⟨ret1 (by rw [HJ.out]; simp), rfl⟩
  · have hz : 0 ≤ x % md 3 ∧ x % md 3 < 256 := by simp only [md]; omega
    have hv : ∀ k, 0 ≤ cv (x % md 3) (((l.drop 1).take (3 - 1)).take k) ∧ cv (x % md 3) (((l.drop 1).take (3 - 1)).take k) < 67108864 := fun k => cv_le hz.1 hz.2 _ (by rw [List.length_take, List.length_take]; omega)
    have HV := Lib.hid hv
    clear hv
    go_enter Try.func44, Try.ntmps44
    go_wp2
    rw [show x % 16 = x % md 3 from rfl]
    generalize hg : x % md 3 = C0 at *
    have HG := Lib.hid hg
    clear hg
    go_loop [5, 6] (fun cc ix => ∃ k : Nat, 1 ≤ k ∧ k ≤ 3 ∧ ix = .int .i64 k ∧ cc = .int .i64 (cv C0 ((l.drop 1).take (k - 1)))) (fun _ ix => 3 - (intOf ix).toNat)
    case atStart => exact ⟨1, by omega, by omega, rfl, rfl⟩
    case round =>
      obtain ⟨k, hk1, hk2, rfl, rfl⟩ := hrel
      have hv : 0 ≤ cv C0 ((l.drop 1).take (k - 1)) ∧ cv C0 ((l.drop 1).take (k - 1)) < 67108864 := cv_le hz.1 hz.2 _ (by rw [List.length_take]; omega)
      by_cases hlt : k < 3
      · obtain ⟨b', off', y, e, hy, hcy, _⟩ := HR.out.look (j := k) (by omega)
        obtain ⟨rfl, rfl⟩ : b = b' ∧ off = off' := by injection e with e; injection e with e1 e2; exact ⟨e1, e2⟩
        clear e
        have hyb := HB.out.at_ hy
        have HS := Lib.hid (take_step C0 hk1 hy)
        clear hy
        have i1 : (k : Int) < (n : Int) := by omega
        generalize cv C0 ((l.drop 1).take (k - 1)) = C at *
        go_wp2
        go_round
        case rel => exact ⟨k + 1, by omega, by omega, by go_num, by rw [HS.out]⟩
        case measure => simp [intOf]; omega
      · obtain rfl : k = 3 := by omega
        go_wp2
        go_ret
        exact ⟨ret1 (by rw [HJ.out]; simp), rfl⟩
  · have hz : 0 ≤ x % md 4 ∧ x % md 4 < 256 := by simp only [md]; omega
    have hv : ∀ k, 0 ≤ cv (x % md 4) (((l.drop 1).take (4 - 1)).take k) ∧ cv (x % md 4) (((l.drop 1).take (4 - 1)).take k) < 67108864 := fun k => cv_le hz.1 hz.2 _ (by rw [List.length_take, List.length_take]; omega)
    have HV := Lib.hid hv
    clear hv
    go_enter Try.func44, Try.ntmps44
    go_wp2
    rw [show x % 8 = x % md 4 from rfl]
    generalize hg : x % md 4 = C0 at *
    have HG := Lib.hid hg
    clear hg
    go_loop [5, 6] (fun cc ix => ∃ k : Nat, 1 ≤ k ∧ k ≤ 4 ∧ ix = .int .i64 k ∧ cc = .int .i64 (cv C0 ((l.drop 1).take (k - 1)))) (fun _ ix => 4 - (intOf ix).toNat)
    case atStart => exact ⟨1, by omega, by omega, rfl, rfl⟩
    case round =>
      obtain ⟨k, hk1, hk2, rfl, rfl⟩ := hrel
      have hv : 0 ≤ cv C0 ((l.drop 1).take (k - 1)) ∧ cv C0 ((l.drop 1).take (k - 1)) < 67108864 := cv_le hz.1 hz.2 _ (by rw [List.length_take]; omega)
      by_cases hlt : k < 4
      · obtain ⟨b', off', y, e, hy, hcy, _⟩ := HR.out.look (j := k) (by omega)
        obtain ⟨rfl, rfl⟩ : b = b' ∧ off = off' := by injection e with e; injection e with e1 e2; exact ⟨e1, e2⟩
        clear e
        have hyb := HB.out.at_ hy
        have HS := Lib.hid (take_step C0 hk1 hy)
        clear hy
        have i1 : (k : Int) < (n : Int) := by omega
        generalize cv C0 ((l.drop 1).take (k - 1)) = C at *
        go_wp2
        go_round
        case rel => exact ⟨k + 1, by omega, by omega, by go_num, by rw [HS.out]⟩
        case measure => simp [intOf]; omega
      · obtain rfl : k = 4 := by omega
        go_wp2
        go_ret
        exact ⟨ret1 (by rw [HJ.out]; simp), rfl⟩
end Wf
end Go.Proofs.Ytjkaccmhpilojaa
