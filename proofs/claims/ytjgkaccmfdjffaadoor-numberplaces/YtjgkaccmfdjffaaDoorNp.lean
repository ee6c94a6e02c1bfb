/-
  The statements' digits, noughts, text and part of layer 9; what is asked of the program's Check, Same and Int; the statements' ends, fails, whole, none and awake, where they are so.
-/
import Derived.Test.YtjgkaccmfdjffaaDoorNo
import Derived.KernelRfl
import Derived.Deep.RegionWith
namespace Go.Proofs.YtjgkaccmfdjffaaDoor
set_option linter.unusedVariables false
set_option linter.unusedSimpArgs false
open Go.RowKit
namespace Nu
open Wd We Es
open Dm (Ds vl decs)

/-- the digits of bytes, 30 at most -/
def dgt (l : List Int) : List Int := (l.take 30).map (fun x => 48 + x % 10)
theorem dgt_ds (l : List Int) : Ds (dgt l) := fun x hx => by
  obtain ⟨y, _, rfl⟩ := List.mem_map.1 hx
  omega
theorem dgt_len (l : List Int) : (dgt l).length ≤ 30 := by unfold dgt; rw [List.length_map, List.length_take]; omega
theorem ds_byte {l : List Int} (h : Ds l) : IsB l := fun x hx => by have := h x hx; omega

set_option maxRecDepth 100000 in
set_option maxHeartbeats 4000000 in
theorem digits_any (A : Option Addr) (n c : Nat) (l : List Int) (w : World) (s : Sl .u8 w A n c l) (hb : IsB l) :
    Calls Tryd.prog 22 #[.slice A n c] w fun e w' => e = .returned (.string (Dm.bs (dgt l))) ∧ Below w.heap.size w w' := by
  obtain ⟨i0, hi, hz0, hz1, hz2⟩ := info_parts u8_info
  have hlen := s.len
  have hmx : n ≤ 9223372036854775807 := by have := s.le; have := s.max; unfold maxLen at *; omega
  have S := Lib.hid s
  have HB := Lib.hid hb
  clear s hb
  go_enter Tryd.func22, Tryd.ntmps22
  go_wp2
  go_loopw [3, 4] (fun ov iv wr => ∃ k : Nat, iv = .int .i64 k ∧ k ≤ n ∧ k ≤ 30 ∧ Hid (Wd.Own .u8 5 wr w.heap.size ov ((l.take k).map (fun x => 48 + x % 10))) ∧ Hid (Below w.heap.size w wr)) (fun _ iv _ => n - (intOf iv).toNat)
  case atStart => exact ⟨0, rfl, Nat.zero_le _, by omega, Lib.hid Wd.Own.nil, Lib.hid (Below.refl _ _)⟩
  case round =>
    obtain ⟨k, rfl, hk, hk60, hoo, hbw⟩ := hrel
    have hsz := hbw.out.size
    have hlk : ((l.take k).map (fun x => 48 + x % 10)).length ≤ 30 := by rw [List.length_map, List.length_take]; omega
    by_cases hgo : k < n ∧ k < 30
    · obtain ⟨hkn, hk6⟩ := hgo
      have i1 : (k : Int) < (n : Int) := by omega
      have i2 : (k : Int) < 30 := by omega
      obtain ⟨b, off, x, rfl, hx, hc, _⟩ := S.out.row.look hkn
      have hc' := (hbw.out.cell (p := ⟨b, off + k, none⟩) (lt_of_cell hc)).trans hc
      have hxb := HB.out.at_ hx
      have x0 : 0 ≤ x := hxb.1
      have x1 : x ≤ 255 := hxb.2
      have HNX : Hid ((l.take (k + 1)).map (fun x => 48 + x % 10) = (l.take k).map (fun x => 48 + x % 10) ++ [48 + x % 10]) := Lib.hid (by rw [List.take_add_one, hx]; simp)
      have SN := Lib.hid (show Sl .u8 (wr.alloc (.cells #[.int .u8 (48 + x % 10)] 5)) (some ⟨wr.heap.size, 0, none⟩) 1 1 [48 + x % 10] from Sl.new wr [48 + x % 10] 5 .u8 (by unfold maxLen; simp))
      have OE := Lib.hid (Wd.Own.below hoo.out (below_alloc9 wr (.cells #[.int .u8 (48 + x % 10)] 5)) (fun g hg' => (hoo.out.lt hg').2))
      have BE := Lib.hid (hbw.out.trans ((below_alloc9 wr (.cells #[.int .u8 (48 + x % 10)] 5)).mono hsz))
      have m0 : 0 ≤ x % 10 := by omega
      have m1 : x % 10 < 10 := by omega
      clear hx hc hxb hoo
      go_wp2_with (at_builtin; refine wp_app rfl _ _ _ rfl w.heap.size Tryd.underlying22 hi hz0 hz1 hz2 rfl rfl OE.out rfl SN.out (by omega) (by unfold maxLen; omega) (by first | omega | (simp; omega)) ?_; intro v3 w3 ho3 hb3 _; have HO3 := Lib.hid ho3; have HB3 := Lib.hid (BE.out.trans hb3); clear ho3 hb3)
      exact ⟨⟨k + 1, by go_num, by omega, by omega, Lib.hid (by rw [HNX.out]; exact HO3.out), HB3⟩, by simp [intOf]; omega⟩
    · have hfin : (l.take k).map (fun x => 48 + x % 10) = dgt l := by
        unfold dgt
        by_cases h : k = 30
        · rw [h]
        · rw [List.take_of_length_le (by omega), List.take_of_length_le (by omega)]
      rw [hfin] at hoo
      generalize hE : dgt l = O9 at *
      obtain ⟨Ao, co, rfl, so, _⟩ := hoo.out.sl
      have kb := conv_bs so
      have hb9 := Lib.hid hbw.out
      clear so hoo hfin
      rcases (show ¬ (k : Int) < (n : Int) ∨ ((k : Int) < (n : Int) ∧ ¬ (k : Int) < 30) by omega) with x1 | ⟨x1, x2⟩
      all_goals
        go_wp2
        go_ret
        exact ⟨rfl, hb9.out⟩

theorem bs_snoc (l : List Int) (x : Int) : Dm.bs l ++ Dm.bs [x] = Dm.bs (l ++ [x]) := by
  apply ByteArray.ext
  rw [ByteArray.data_append]
  unfold Dm.bs
  simp
theorem bs_app (l m : List Int) : Dm.bs l ++ Dm.bs m = Dm.bs (l ++ m) := by
  apply ByteArray.ext
  rw [ByteArray.data_append]
  unfold Dm.bs
  simp

set_option maxRecDepth 100000 in
set_option maxHeartbeats 1600000 in
theorem noughts_any (n : Nat) (hn : n ≤ 1000000) (w : World) :
    Calls Tryd.prog 24 #[.int .i64 n] w fun e w' => e = .returned (.string (Dm.bs (List.replicate n 48))) ∧ w' = w := by
  go_enter Tryd.func24, Tryd.ntmps24
  go_wp2
  go_loopw [3, 4] (fun sv iv wr => ∃ k : Nat, sv = .string (Dm.bs (List.replicate k 48)) ∧ iv = .int .i64 k ∧ k ≤ n ∧ wr = w) (fun _ iv _ => n - (intOf iv).toNat)
  case atStart => exact ⟨0, rfl, rfl, Nat.zero_le _, rfl⟩
  case round =>
    obtain ⟨k, rfl, rfl, hk, rfl⟩ := hrel
    have hsz : (Dm.bs (List.replicate k (48 : Int))).size = k := by rw [Dm.bs_size, List.length_replicate]
    have HN := Lib.hid (show Dm.bs (List.replicate (k + 1) 48) = Dm.bs (List.replicate k 48) ++ ⟨#[48]⟩ by rw [List.replicate_succ', ← bs_snoc]; rfl)
    obtain ⟨S, hS⟩ : ∃ S, Dm.bs (List.replicate k (48 : Int)) = S := ⟨_, rfl⟩
    rw [hS] at HN hsz ⊢
    have HS := Lib.hid hS
    clear hS
    by_cases hkn : k < n
    · have i1 : (k : Int) < (n : Int) := by omega
      go_wp2
      exact ⟨⟨k + 1, by rw [HN.out], by go_num, by omega, by trivial⟩, by simp [intOf]; omega⟩
    · obtain rfl : k = n := by omega
      go_wp2
      go_ret
      exact ⟨by rw [HS.out]; rfl, rfl⟩

set_option maxRecDepth 100000 in
set_option maxHeartbeats 1600000 in
theorem text_any : ∀ (n : Nat) (hn : n < 9223372036854775807) (w : World),
    Calls Tryd.prog 23 #[.int .i64 n] w fun e w' => e = .returned (.string (Dm.bs (decs n))) ∧ Below w.heap.size w w' := by
  intro n
  induction n using Nat.strongRecOn with
  | _ n ih =>
    intro hn w
    by_cases h : n < 10
    · have h' : (n : Int) < 10 := by omega
      have hd : decs n = [48 + (n : Int)] := Dm.decs_one h
      have SE : Sl .u8 (w.alloc (.cells #[.int .u8 (48 + (n : Int))] 5)) (some ⟨w.heap.size, 0, none⟩) 1 1 [48 + (n : Int)] := Sl.new w [48 + (n : Int)] 5 .u8 (by unfold maxLen; simp)
      have kb := conv_bs SE
      rw [hd]
      clear SE hd ih
      go_enter Tryd.func23, Tryd.ntmps23
      go_wp2
      go_ret
      exact ⟨rfl, below_alloc9 _ _⟩
    · have h' : ¬ (n : Int) < 10 := by omega
      have IH := Lib.hid (fun w' => ih (n / 10) (by omega) (by omega) w')
      have HD := Lib.hid (Dm.decs_more (n := n) (by omega))
      have hq : (n : Int) / 10 = ((n / 10 : Nat) : Int) := by omega
      have hr : (n : Int) % 10 = ((n % 10 : Nat) : Int) := by omega
      have hr2 : n % 10 < 10 := by omega
      have ht : (n : Int).tmod 10 = ((n % 10 : Nat) : Int) := by rw [Int.tmod_eq_emod_of_nonneg (by omega)]; omega
      obtain ⟨q, hq'⟩ : ∃ q, n / 10 = q := ⟨_, rfl⟩
      obtain ⟨r, hr'⟩ : ∃ r, n % 10 = r := ⟨_, rfl⟩
      rw [hq'] at hq IH HD
      rw [hr'] at hr hr2 HD ht
      have hqn : q ≤ n := by omega
      have hw1 : IntKind.i64.wrap (q : Int) = (q : Int) := by rw [IntKind.wrap_i64]; omega
      have hw2 : IntKind.i64.wrap (r : Int) = (r : Int) := by rw [IntKind.wrap_i64]; omega
      have hw3 : IntKind.i64.wrap (48 + (r : Int)) = 48 + (r : Int) := by rw [IntKind.wrap_i64]; omega
      have hw4 : IntKind.u8.wrap (48 + (r : Int)) = 48 + (r : Int) := by simp [IntKind.wrap, IntKind.signed, IntKind.bits]; omega
      have kb : ∀ w' : World, (convert 22 9 (.slice (some ⟨w'.heap.size, 0, none⟩) 1 1)).run Tryd.prog (w'.alloc (.cells #[.int .u8 (48 + (r : Int))] 5)) = .ok (.string (Dm.bs [48 + (r : Int)])) (w'.alloc (.cells #[.int .u8 (48 + (r : Int))] 5)) := fun w' =>
        conv_bs (Sl.new w' [48 + (r : Int)] 5 .u8 (by unfold maxLen; simp))
      have kd : ∀ w8 : World, Below (w.drew.alloc (.cells #[.int .u8 (48 + (r : Int))] 5)).heap.size (w.drew.alloc (.cells #[.int .u8 (48 + (r : Int))] 5)) w8 → (convert 22 9 (.slice (some ⟨w.heap.size, 0, none⟩) 1 1)).run Tryd.prog w8 = .ok (.string (Dm.bs [48 + (r : Int)])) w8 := fun w8 h =>
        conv_bs ((show Sl .u8 (w.drew.alloc (.cells #[.int .u8 (48 + (r : Int))] 5)) (some ⟨w.drew.heap.size, 0, none⟩) 1 1 [48 + (r : Int)] from Sl.new w.drew [48 + (r : Int)] 5 .u8 (by unfold maxLen; simp)).below h)
      have KD := Lib.hid kd
      have HBD : Hid (Below w.heap.size w w.drew) := Lib.hid (Wd.below_drewN (Below.refl _ _) 1)
      have HBA := Lib.hid (HBD.out.alloc (Nat.le_refl _) (.cells #[.int .u8 (48 + (r : Int))] 5))
      have ke := conv_bs ((show Sl .u8 (w.alloc (.cells #[.int .u8 (48 + (r : Int))] 5)) (some ⟨w.heap.size, 0, none⟩) 1 1 [48 + (r : Int)] from Sl.new w [48 + (r : Int)] 5 .u8 (by unfold maxLen; simp)).drew)
      clear kd
      have hZs : (Dm.bs (decs q)).size ≤ 19 := by rw [Dm.bs_size]; exact Dm.decs_length_le (by omega)
      have hYs : (Dm.bs [48 + (r : Int)]).size = 1 := Dm.bs_size _
      have HR := Lib.hid (show Dm.bs (decs n) = Dm.bs (decs q) ++ Dm.bs [48 + (r : Int)] by rw [bs_snoc, HD.out])
      obtain ⟨Z, hZ⟩ : ∃ Z, Dm.bs (decs q) = Z := ⟨_, rfl⟩
      obtain ⟨Y, hY⟩ : ∃ Y, Dm.bs [48 + (r : Int)] = Y := ⟨_, rfl⟩
      rw [hZ] at hZs IH HR
      rw [hY] at hYs kb HR KD ke
      rw [HR.out]
      clear ih hq' hr' hZ hY HD
      go_enter Tryd.func23, Tryd.ntmps23
      go_wp2_with fail
      go_region_with (first
        | (go_at_call 23; refine (IH.out _).mono ?_; rintro e w8 ⟨rfl, hb8⟩; try (have kd8 := KD.out _ hb8)))
      all_goals
        go_wp2
        go_ret
        refine ⟨rfl, ?_⟩
        first
          | exact (HBD.out.trans hb8).alloc hb8.size _
          | exact HBA.out.trans (hb8.mono HBA.out.size)
end Nu
end Go.Proofs.YtjgkaccmfdjffaaDoor
