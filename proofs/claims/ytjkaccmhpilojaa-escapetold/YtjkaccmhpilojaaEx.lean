/-
  strings.IndexRune of a character beyond ASCII in a text of ASCII: there is none.
-/
import Derived.Test.YtjkaccmhpilojaaSb
import Derived.Test.YtjkaccmhpilojaaWe
import Derived.Test.YtjkaccmhpilojaaWo
import Derived.Test.YtjkaccmhpilojaaUtf
import Derived.BigQuiet
import Derived.Lib.OthersKept
namespace Go.Proofs.Ytjkaccmhpilojaa
set_option linter.unusedVariables false
set_option linter.unusedSimpArgs false
open Go.RowKit
namespace Em
open Utf

def Asc (s : ByteArray) : Prop := ∀ (i : Nat) (h : i < s.size), (s[i]'h).toNat < 128
theorem ib_none : ∀ (l : List UInt8) (x : UInt8), (∀ b ∈ l, b.toNat < 128) → 128 ≤ x.toNat → Lib.indexByte l x = -1
  | [], _, _, _ => rfl
  | b :: l, x, h, hx => by
    have ih := ib_none l x (fun c hc => h c (by simp [hc])) hx
    have hb := h b (by simp)
    have hne : (b == x) = false := by
      rw [beq_eq_false_iff_ne]
      rintro rfl; omega
    simp [Lib.indexByte, hne, ih]
theorem asc_mem {s : ByteArray} (h : Asc s) : ∀ b ∈ s.data.toList, b.toNat < 128 := fun b hb => by
  obtain ⟨i, hi, rfl⟩ := List.getElem_of_mem hb
  exact h i (by simpa using hi)
theorem asc_extract {s : ByteArray} (h : Asc s) (i j : Nat) : ∀ b ∈ (s.extract i j).data.toList, b.toNat < 128 := fun b hb => by
  apply asc_mem h
  have : (s.extract i j).data.toList = (s.data.extract i j).toList := by simp
  rw [this, Array.toList_extract] at hb
  first | exact List.mem_of_mem_drop (List.mem_of_mem_take hb) | exact List.mem_of_mem_take (List.mem_of_mem_drop hb)

set_option maxHeartbeats 800000 in
theorem valid_yes (r : Int) (h : (0 ≤ r ∧ r < 55296) ∨ (57343 < r ∧ r ≤ 1114111)) (w : World) : Calls Try.prog 40 #[.int .i32 r] w fun e w' => e = .returned (.bool true) ∧ w = w' := by
  rcases h with ⟨h0, h1⟩ | ⟨h0, h1⟩
  · go_enter Try.func40, Try.ntmps40
    go_wp2
    go_ret
    exact ⟨rfl, rfl⟩
  · have h2 : ¬ r < 55296 := by omega
    have h3 : 0 ≤ r := by omega
    go_enter Try.func40, Try.ntmps40
    go_wp2
    go_ret
    exact ⟨rfl, rfl⟩

set_option maxRecDepth 100000 in
set_option maxHeartbeats 1600000 in
theorem rune_error (s : ByteArray) (w : World) (hs : Asc s) (hn : s.size ≤ 1000) :
    Calls Try.prog 26 #[.string s, .int .i32 65533] w fun e w' => e = .returned (.int .i64 (-1)) ∧ Below w.heap.size w w' := by
  have H := Lib.hid hs
  clear hs
  go_enter Try.func26, Try.ntmps26
  go_wp2
  go_loopw [] (fun wr => ∃ pos : Nat, wr.heap[w.heap.size]? = some (.stringIter s pos) ∧ Below w.heap.size w wr) (fun wr => s.size - wr.iterPos w.heap.size)
  case atStart => exact ⟨0, by simpa using World.iter_heap w s 0, (Below.refl _ w).alloc (Nat.le_refl _) _⟩
  case round =>
    obtain ⟨pos, hit, hb⟩ := hrel
    by_cases hp : pos < s.size
    · have ha := H.out pos hp
      have hnx : ∀ ty, (Instr.next (.pointer (some ⟨w.heap.size, 0, none⟩)) true ty).run Try.prog wr = _ := fun ty => Lib.run_next_ascii_at wr w.heap.size s pos ty hit hp ha
      have hit2 := Lib.iterAt_heap wr w.heap.size s pos (pos + 1) hit
      have hb2 := Lib.below_iterAt hb (k := w.heap.size) (Nat.le_refl _) s (pos + 1)
      obtain ⟨z, hz⟩ : ∃ z, (s[pos]'hp).toNat = z := ⟨_, rfl⟩
      rw [hz] at hnx ha
      have hne : ¬ (z : Int) = 65533 := by omega
      have HM : (wr.iterAt w.heap.size s (pos + 1)).iterPos w.heap.size = pos + 1 := by simp only [World.iterPos, hit2]
      have HM0 : wr.iterPos w.heap.size = pos := by simp only [World.iterPos, hit]
      have HMM := Lib.hid HM
      have HMM0 := Lib.hid HM0
      clear hz HM HM0
      go_wp2
      exact ⟨⟨pos + 1, hit2, hb2⟩, by rw [HMM.out, HMM0.out]; omega⟩
    · have hnx : ∀ ty, (Instr.next (.pointer (some ⟨w.heap.size, 0, none⟩)) true ty).run Try.prog wr = _ := fun ty => Lib.run_next_end_at wr w.heap.size s pos ty hit hp
      go_wp2
      go_ret
      exact ⟨rfl, hb⟩

set_option maxRecDepth 100000 in
set_option maxHeartbeats 1600000 in
theorem rune_2 (s R : ByteArray) (r : Int) (w : World) (hs : Asc s) (hn : s.size ≤ 1000) (h0 : 128 ≤ r) (hv : r < 55296 ∨ (57343 < r ∧ r ≤ 1114111)) (hne : ¬ r = 65533) (hR : Utf8.encode r = R) (hm : R.size = 2) (hx : ∀ h, 128 ≤ (R[1]'h).toNat) :
    Calls Try.prog 26 #[.string s, .int .i32 r] w fun e w' => e = .returned (.int .i64 (-1)) ∧ Below w.heap.size w w' := by
  have V := Lib.hid (valid_yes r (by omega) w)
  have h1 : ¬ r < 128 := by omega
  have h2 : 0 ≤ r := by omega
  have H := Lib.hid hs
  have HX := Lib.hid hx
  clear hs hv hx
  go_enter Try.func26, Try.ntmps26
  go_wp2_with fail
  refine V.out.mono ?_
  rintro e w' ⟨rfl, rfl⟩
  go_wp2_with fail
  go_step3
  go_wp2
  go_loopw [9, 10] (fun iv fv wr => iv = .int .i64 1 ∧ fv = .int .i64 0 ∧ wr = w) (fun _ _ _ => 0)
  case atStart => exact ⟨rfl, rfl, rfl⟩
  case round =>
    obtain ⟨rfl, rfl, rfl⟩ := hrel
    by_cases hl : 1 < s.size
    · have hl' : (1 : Int) < (s.size : Int) := by omega
      have hl2 : (2 : Int) ≤ (s.size : Int) := by omega
      have hl3 : 2 ≤ s.size := by omega
      have hlr : 1 < R.size := by omega
      have ha := H.out 1 hl
      have hb := HX.out hlr
      have hq : ¬ ((s[1]'hl).toNat : Int) = ((R[1]'hlr).toNat : Int) := by omega
      have CON : Hid (∀ w', Calls Try.prog 39 #[.string (s.extract 2 s.size), .int .u8 ((R[1]'hlr).toNat : Int)] w' fun e w'' => e = .returned (.int .i64 (-1)) ∧ w'' = w') := Lib.hid (fun w' => by
        refine (Any.strings_IndexByte Sb.byte_lays _ _ w').mono ?_
        rintro e w'' ⟨rfl, rfl⟩
        rw [ib_none _ _ (asc_extract H.out _ _) (by simpa using hb)]
        exact ⟨rfl, rfl⟩)
      go_wp2
      go_step3
      go_wp2
      go_quiet (fail)
      go_wp2
      go_quiet ((go_at_call 39; exact (CON.out _).mono (fun _ _ ⟨he, hw⟩ => ⟨he, _, hw⟩)))
      go_wp2
      rw [Exit.noGoto_ret]
      dsimp (config := { zetaDelta := true }) only [Exit.inBlock, Exit.then, Exit.noGoto]
      go_ret
      exact ⟨rfl, Wd.below_drewN (Below.refl _ _) _⟩
    · have hl' : ¬ (1 : Int) < (s.size : Int) := by omega
      go_wp2
      go_ret
      exact ⟨rfl, Below.refl _ _⟩

set_option maxRecDepth 100000 in
set_option maxHeartbeats 1600000 in
theorem rune_3 (s R : ByteArray) (r : Int) (w : World) (hs : Asc s) (hn : s.size ≤ 1000) (h0 : 128 ≤ r) (hv : r < 55296 ∨ (57343 < r ∧ r ≤ 1114111)) (hne : ¬ r = 65533) (hR : Utf8.encode r = R) (hm : R.size = 3) (hx : ∀ h, 128 ≤ (R[2]'h).toNat) :
    Calls Try.prog 26 #[.string s, .int .i32 r] w fun e w' => e = .returned (.int .i64 (-1)) ∧ Below w.heap.size w w' := by
  have V := Lib.hid (valid_yes r (by omega) w)
  have h1 : ¬ r < 128 := by omega
  have h2 : 0 ≤ r := by omega
  have H := Lib.hid hs
  have HX := Lib.hid hx
  clear hs hv hx
  go_enter Try.func26, Try.ntmps26
  go_wp2_with fail
  refine V.out.mono ?_
  rintro e w' ⟨rfl, rfl⟩
  go_wp2_with fail
  go_step3
  go_wp2
  go_loopw [9, 10] (fun iv fv wr => iv = .int .i64 2 ∧ fv = .int .i64 0 ∧ wr = w) (fun _ _ _ => 0)
  case atStart => exact ⟨rfl, rfl, rfl⟩
  case round =>
    obtain ⟨rfl, rfl, rfl⟩ := hrel
    by_cases hl : 2 < s.size
    · have hl' : (2 : Int) < (s.size : Int) := by omega
      have hl2 : (3 : Int) ≤ (s.size : Int) := by omega
      have hl3 : 3 ≤ s.size := by omega
      have hlr : 2 < R.size := by omega
      have ha := H.out 2 hl
      have hb := HX.out hlr
      have hq : ¬ ((s[2]'hl).toNat : Int) = ((R[2]'hlr).toNat : Int) := by omega
      have CON : Hid (∀ w', Calls Try.prog 39 #[.string (s.extract 3 s.size), .int .u8 ((R[2]'hlr).toNat : Int)] w' fun e w'' => e = .returned (.int .i64 (-1)) ∧ w'' = w') := Lib.hid (fun w' => by
        refine (Any.strings_IndexByte Sb.byte_lays _ _ w').mono ?_
        rintro e w'' ⟨rfl, rfl⟩
        rw [ib_none _ _ (asc_extract H.out _ _) (by simpa using hb)]
        exact ⟨rfl, rfl⟩)
      go_wp2
      go_step3
      go_wp2
      go_quiet (fail)
      go_wp2
      go_quiet ((go_at_call 39; exact (CON.out _).mono (fun _ _ ⟨he, hw⟩ => ⟨he, _, hw⟩)))
      go_wp2
      rw [Exit.noGoto_ret]
      dsimp (config := { zetaDelta := true }) only [Exit.inBlock, Exit.then, Exit.noGoto]
      go_ret
      exact ⟨rfl, Wd.below_drewN (Below.refl _ _) _⟩
    · have hl' : ¬ (2 : Int) < (s.size : Int) := by omega
      go_wp2
      go_ret
      exact ⟨rfl, Below.refl _ _⟩

set_option maxRecDepth 100000 in
set_option maxHeartbeats 1600000 in
theorem rune_4 (s R : ByteArray) (r : Int) (w : World) (hs : Asc s) (hn : s.size ≤ 1000) (h0 : 128 ≤ r) (hv : r < 55296 ∨ (57343 < r ∧ r ≤ 1114111)) (hne : ¬ r = 65533) (hR : Utf8.encode r = R) (hm : R.size = 4) (hx : ∀ h, 128 ≤ (R[3]'h).toNat) :
    Calls Try.prog 26 #[.string s, .int .i32 r] w fun e w' => e = .returned (.int .i64 (-1)) ∧ Below w.heap.size w w' := by
  have V := Lib.hid (valid_yes r (by omega) w)
  have h1 : ¬ r < 128 := by omega
  have h2 : 0 ≤ r := by omega
  have H := Lib.hid hs
  have HX := Lib.hid hx
  clear hs hv hx
  go_enter Try.func26, Try.ntmps26
  go_wp2_with fail
  refine V.out.mono ?_
  rintro e w' ⟨rfl, rfl⟩
  go_wp2_with fail
  go_step3
  go_wp2
  go_loopw [9, 10] (fun iv fv wr => iv = .int .i64 3 ∧ fv = .int .i64 0 ∧ wr = w) (fun _ _ _ => 0)
  case atStart => exact ⟨rfl, rfl, rfl⟩
  case round =>
    obtain ⟨rfl, rfl, rfl⟩ := hrel
    by_cases hl : 3 < s.size
    · have hl' : (3 : Int) < (s.size : Int) := by omega
      have hl2 : (4 : Int) ≤ (s.size : Int) := by omega
      have hl3 : 4 ≤ s.size := by omega
      have hlr : 3 < R.size := by omega
      have ha := H.out 3 hl
      have hb := HX.out hlr
      have hq : ¬ ((s[3]'hl).toNat : Int) = ((R[3]'hlr).toNat : Int) := by omega
      have CON : Hid (∀ w', Calls Try.prog 39 #[.string (s.extract 4 s.size), .int .u8 ((R[3]'hlr).toNat : Int)] w' fun e w'' => e = .returned (.int .i64 (-1)) ∧ w'' = w') := Lib.hid (fun w' => by
        refine (Any.strings_IndexByte Sb.byte_lays _ _ w').mono ?_
        rintro e w'' ⟨rfl, rfl⟩
        rw [ib_none _ _ (asc_extract H.out _ _) (by simpa using hb)]
        exact ⟨rfl, rfl⟩)
      go_wp2
      go_step3
      go_wp2
      go_quiet (fail)
      go_wp2
      go_quiet ((go_at_call 39; exact (CON.out _).mono (fun _ _ ⟨he, hw⟩ => ⟨he, _, hw⟩)))
      go_wp2
      rw [Exit.noGoto_ret]
      dsimp (config := { zetaDelta := true }) only [Exit.inBlock, Exit.then, Exit.noGoto]
      go_ret
      exact ⟨rfl, Wd.below_drewN (Below.refl _ _) _⟩
    · have hl' : ¬ (3 : Int) < (s.size : Int) := by omega
      go_wp2
      go_ret
      exact ⟨rfl, Below.refl _ _⟩

/-- a number's UTF-8, its bytes -/
theorem encode_2 {r : Int} (h0 : 128 ≤ r) (h1 : r ≤ 2047) : (Utf8.encode r).size = 2 ∧ ∀ h, 128 ≤ ((Utf8.encode r)[1]'h).toNat := by
  obtain ⟨n, rfl⟩ := Int.eq_ofNat_of_zero_le (a := r) (by omega)
  have hv : Utf8.valid (n : Int) = true := by simp [Utf8.valid]; omega
  have e : Utf8.encode (n : Int) = ⟨#[UInt8.ofNat (192 + n / 64), UInt8.ofNat (128 + n % 64)]⟩ := by
    simp only [Utf8.encode, hv, if_true, Int.toNat_natCast, if_neg (show ¬ n < 128 by omega), if_pos (show n < 2048 by omega)]
  rw [e]
  refine ⟨rfl, fun h => ?_⟩
  show 128 ≤ (UInt8.ofNat (128 + n % 64)).toNat
  rw [UInt8.toNat_ofNat']; omega
theorem encode_3 {r : Int} (h0 : 2048 ≤ r) (h1 : r ≤ 65535) (hv' : r < 55296 ∨ 57343 < r) : (Utf8.encode r).size = 3 ∧ ∀ h, 128 ≤ ((Utf8.encode r)[2]'h).toNat := by
  obtain ⟨n, rfl⟩ := Int.eq_ofNat_of_zero_le (a := r) (by omega)
  have hv : Utf8.valid (n : Int) = true := by simp [Utf8.valid]; omega
  have e : Utf8.encode (n : Int) = ⟨#[UInt8.ofNat (224 + n / 4096), UInt8.ofNat (128 + n / 64 % 64), UInt8.ofNat (128 + n % 64)]⟩ := by
    simp only [Utf8.encode, hv, if_true, Int.toNat_natCast, if_neg (show ¬ n < 128 by omega), if_neg (show ¬ n < 2048 by omega), if_pos (show n < 65536 by omega)]
  rw [e]
  refine ⟨rfl, fun h => ?_⟩
  show 128 ≤ (UInt8.ofNat (128 + n % 64)).toNat
  rw [UInt8.toNat_ofNat']; omega
theorem encode_4 {r : Int} (h0 : 65536 ≤ r) (h1 : r ≤ 1114111) : (Utf8.encode r).size = 4 ∧ ∀ h, 128 ≤ ((Utf8.encode r)[3]'h).toNat := by
  obtain ⟨n, rfl⟩ := Int.eq_ofNat_of_zero_le (a := r) (by omega)
  have hv : Utf8.valid (n : Int) = true := by simp [Utf8.valid]; omega
  have e : Utf8.encode (n : Int) = ⟨#[UInt8.ofNat (240 + n / 262144), UInt8.ofNat (128 + n / 4096 % 64), UInt8.ofNat (128 + n / 64 % 64), UInt8.ofNat (128 + n % 64)]⟩ := by
    simp only [Utf8.encode, hv, if_true, Int.toNat_natCast, if_neg (show ¬ n < 128 by omega), if_neg (show ¬ n < 2048 by omega), if_neg (show ¬ n < 65536 by omega)]
  rw [e]
  refine ⟨rfl, fun h => ?_⟩
  show 128 ≤ (UInt8.ofNat (128 + n % 64)).toNat
  rw [UInt8.toNat_ofNat']; omega
theorem rune_none (s : ByteArray) (r : Int) (w : World) (hs : Asc s) (hn : s.size ≤ 1000) (h0 : 128 ≤ r) (hf : form r ≠ 0) :
    Calls Try.prog 26 #[.string s, .int .i32 r] w fun e w' => e = .returned (.int .i64 (-1)) ∧ Below w.heap.size w w' := by
  by_cases hne : r = 65533
  · subst hne; exact rune_error s w hs hn
  rcases form_cases r with k | k | k | k | k
  · exact absurd k.1 hf
  · omega
  · have e := encode_2 (r := r) (by omega) (by omega)
    exact rune_2 s _ r w hs hn h0 (by omega) hne rfl e.1 e.2
  · have e := encode_3 (r := r) (by omega) (by omega) (by omega)
    exact rune_3 s _ r w hs hn h0 (by omega) hne rfl e.1 e.2
  · have e := encode_4 (r := r) (by omega) (by omega)
    exact rune_4 s _ r w hs hn h0 (by omega) hne rfl e.1 e.2
end Em
end Go.Proofs.Ytjkaccmhpilojaa
