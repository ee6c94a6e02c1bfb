/-
  What the program's escaped, wide and read of layer 8 compute.
-/
import Derived.Test.YtjkaccmhpilojaaEr
import Derived.Test.YtjkaccmhpilojaaSb
import Derived.Test.YtjkaccmhpilojaaEs
import Derived.Test.YtjkaccmhpilojaaWx
import Derived.Lib.SlBytesConst
import Derived.KernelRfl
namespace Go.Proofs.Ytjkaccmhpilojaa
set_option linter.unusedVariables false
set_option linter.unusedSimpArgs false
open Go.RowKit
namespace Em
open Wd We Utf Es

theorem bin8 {w : World} {A : Option Addr} {n c : Nat} {l : List Int} (s : Sl .u8 w A n c l) : Lib.BytesIn w A n l := by
  intro hn
  obtain ⟨b, off, e, hc⟩ := s.row.2 (by rintro rfl; have := s.len; simp at this; omega)
  refine ⟨b, off, e, fun i hi => ?_⟩
  have hl : i < l.length := by rw [s.len]; exact hi
  have hx : l[i]? = some l[i] := List.getElem?_eq_getElem hl
  rw [hc i _ hx]; simp [List.getD, hx]
theorem byte_eq8 {a b : Int} (ha : 0 ≤ a ∧ a ≤ 255) (hb : 0 ≤ b ∧ b ≤ 255) : UInt8.ofNat a.toNat = UInt8.ofNat b.toNat ↔ a = b := by
  constructor
  · intro h
    have h2 := congrArg UInt8.toNat h
    simp only [UInt8.toNat_ofNat'] at h2
    omega
  · intro h; rw [h]
theorem pre_bytes8 : ∀ {p l : List Int}, IsB p → IsB l → (Lib.bytesOf p).isPrefixOf (Lib.bytesOf l) = p.isPrefixOf l
  | [], l, _, _ => by simp [Lib.bytesOf]
  | a :: p, [], _, _ => by simp [Lib.bytesOf]
  | a :: p, b :: l, hp, hl => by
    have ih := pre_bytes8 (p := p) (l := l) (fun x hx => hp x (by simp [hx])) (fun x hx => hl x (by simp [hx]))
    show (UInt8.ofNat a.toNat == UInt8.ofNat b.toNat && (Lib.bytesOf p).isPrefixOf (Lib.bytesOf l)) = (a == b && p.isPrefixOf l)
    rw [ih]
    congr 1
    have := byte_eq8 (hp a (by simp)) (hl b (by simp))
    rw [Bool.eq_iff_iff, beq_iff_eq, beq_iff_eq, this]
theorem hasPrefix8 (A B : Option Addr) (n c m d : Nat) (l p : List Int) (w : World) (s : Sl .u8 w A n c l) (t : Sl .u8 w B m d p) (hl : IsB l) (hp : IsB p) :
    Calls Try.prog 62 #[.slice A n c, .slice B m d] w fun e w' => e = .returned (.bool (p.isPrefixOf l)) ∧ w = w' := by
  refine (Any.bytes_HasPrefix_all Sb.pre_lays A B n c m d l p w s.len t.len s.le (bin8 s) (bin8 t)).mono ?_
  rintro e w' ⟨rfl, rfl⟩
  exact ⟨by unfold Lib.hasPrefix; rw [pre_bytes8 hp hl], rfl⟩
theorem Sl.fromV8 {k : IntKind} {w : World} {A : Option Addr} {n c : Nat} {l : List Int} (s : Sl k w A n c l) (j : Nat) (hj : j ≤ n) : Sl k w (if c = j then A else A.map (fun x => x.add j)) (n - j) (c - j) (l.drop j) := by
  have hr := s.row.cut j (n - j) (by omega)
  have e : (l.drop j).take (n - j) = l.drop j := List.take_of_length_le (by rw [List.length_drop, s.len]; omega)
  rw [e] at hr
  have hle := s.le
  by_cases h : c = j
  · rw [if_pos h]
    have h0 : l.drop j = [] := List.drop_of_length_le (by rw [s.len]; omega)
    have h1 : n - j = 0 := by omega
    rw [h0, h1]
    exact ⟨Row.nil, by omega, by have := s.max; omega, fun e => by have := s.nil e; omega⟩
  · rw [if_neg h]
    exact ⟨hr, by omega, by have := s.max; omega, fun e => by cases A with | none => have := s.nil rfl; omega | some a => cases e⟩

theorem below_alloc8 (w : World) (o : Obj) : Below w.heap.size w (w.alloc o) := (Below.refl _ _).alloc (Nat.le_refl _) o
/-- what is told of an escape, where new rows may be made -/
def EQ (l : List Int) (w : World) (e : Ending) (w' : World) : Prop := e = .returned (.tuple #[.int .i64 (esc l).1, .int .i64 ((esc l).2.1 : Nat), .int .i64 (esc l).2.2]) ∧ Below w.heap.size w w'

theorem pre_two {l : List Int} : ([92, 117] : List Int).isPrefixOf l = true → ∃ u, l = 92 :: 117 :: u := by
  intro h
  obtain ⟨u, hu⟩ := List.isPrefixOf_iff_prefix.1 h
  exact ⟨u, hu.symm⟩
theorem lo_not {l : List Int} (h : ([92, 117] : List Int).isPrefixOf l = false) : lo l = none := by
  rcases l with _ | ⟨a, _ | ⟨b, u⟩⟩
  · rfl
  · rfl
  · rw [lo_cons, if_neg]
    rintro ⟨rfl, rfl, _⟩
    simp at h
theorem f4_len {r : List Int} (h : (f4 4 0 r).2 = 0) : 4 ≤ r.length := by
  rcases f4_ways r with ⟨a, b, c, d, t, rfl, hd, e⟩ | ⟨e, _⟩ | e
  · simp
  · rw [e] at h; cases h
  · rw [e] at h; cases h

set_option maxRecDepth 100000 in
set_option maxHeartbeats 4000000 in
theorem wide_any (A : Option Addr) (n c : Nat) (x : Int) (r : List Int) (w : World) (s : Sl .u8 w A n c (x :: 117 :: r)) (hb : IsB (x :: 117 :: r)) (hn : n ≤ 140737488351232) :
    Calls Try.prog 56 #[.slice A n c] w (EQ (x :: 117 :: r) w) := by
  have hlen := s.len
  have hle := s.le
  have hmax : c ≤ 9223372036854775807 := by have := s.max; unfold maxLen at this; omega
  have hl2 : r.length + 2 = n := by rw [← hlen]; rfl
  have F := Lib.hid (number_any _ _ _ _ w s hb (by omega) (by omega))
  rw [show (x :: 117 :: r).drop 2 = r from rfl] at F
  obtain ⟨v, g, hf⟩ : ∃ v g, f4 4 0 r = (v, g) := ⟨_, _, rfl⟩
  rw [hf] at F
  have HF := Lib.hid hf
  have S := Lib.hid s
  have HB := Lib.hid hb
  have HL2 := Lib.hid hl2
  have hn2 : 2 ≤ n := by omega
  clear s hb hf hlen hl2
  by_cases hg : g = 0
  · subst hg
    have hvb := f4_bd (r := r) (by rw [HF.out])
    have hr4 := f4_len (r := r) (by rw [HF.out])
    have hn6 : 6 ≤ n := by have := HL2.out; omega
    clear hr4
    rw [HF.out] at hvb
    dsimp only at hvb
    by_cases hv : v < 55296 ∨ 57343 < v
    · have hE := Lib.hid (show esc (x :: 117 :: r) = (v, 6, 0) by rw [esc_u HF.out, if_pos hv])
      rcases hv with hv | hv
      · go_enter Try.func56, Try.ntmps56
        go_wp2_with fail
        refine F.out.mono ?_
        rintro e w' ⟨rfl, rfl⟩
        go_wp2_with fail
        go_ret3
        unfold EQ; rw [hE.out]; exact ⟨rfl, Below.refl _ _⟩
      · have hv' : ¬ v < 55296 := by omega
        have hv'' : 57344 ≤ v := by omega
        go_enter Try.func56, Try.ntmps56
        go_wp2_with fail
        refine F.out.mono ?_
        rintro e w' ⟨rfl, rfl⟩
        go_wp2_with fail
        go_ret3
        unfold EQ; rw [hE.out]; exact ⟨rfl, Below.refl _ _⟩
    · have q1 : ¬ v < 55296 := by omega
      have q2 : ¬ 57344 ≤ v := by omega
      have no : (if v ≤ 56319 then lo (r.drop 4) else none) = none → esc (x :: 117 :: r) = (65533, 6, 0) := fun h => by rw [esc_u HF.out, if_neg (by omega), h]
      have yes : ∀ m, (if v ≤ 56319 then lo (r.drop 4) else none) = some m → esc (x :: 117 :: r) = (65536 + 1024 * (v - 55296) + m - 56320, 12, 0) := fun m h => by rw [esc_u HF.out, if_neg (by omega), h]
      by_cases hv2 : v < 56320
      · rw [if_pos (by omega)] at no yes
        have kc := fun (w : World) (C : Array Value) (n c : Nat) => Lib.run_convert_bytes_const (P := Try.prog) w 27 5 C n c Try.underlying27 Try.underlying5
        have HB1 := Lib.hid (below_alloc8 w (.cells #[.int .u8 92, .int .u8 117] 5 (2, 3)))
        have t1 : Sl .u8 (w.alloc (.cells #[.int .u8 92, .int .u8 117] 5 (2, 3))) (some ⟨w.heap.size, 0, none⟩) 2 2 [92, 117] := Sl.mark w [92, 117] 5 (2, 3) (by decide)
        by_cases hc6 : c = 6
        · have hn : n = 6 := by omega
          have hdn : r.drop 4 = [] := List.drop_of_length_le (by have := HL2.out; omega)
          have hE := Lib.hid (no (by rw [hdn]; rfl))
          have s1 : Sl .u8 (w.alloc (.cells #[.int .u8 92, .int .u8 117] 5 (2, 3))) A 0 0 [] := ⟨Row.nil, by omega, by unfold maxLen; omega, fun _ => rfl⟩
          have HC := Lib.hid (hasPrefix8 _ _ _ _ _ _ _ _ _ s1 t1 (isB_all (by decide)) (isB_all (by decide)))
          have HX := Lib.hid (show IsB (x :: 117 :: r) from HB.out)
          clear s1 t1 no yes hdn HL2 S
          subst hc6; subst hn
          go_enter Try.func56, Try.ntmps56
          go_wp2_with fail
          refine F.out.mono ?_
          rintro e w' ⟨rfl, rfl⟩
          go_wp2_with fail
          refine HC.out.mono ?_
          rintro e w' ⟨rfl, rfl⟩
          go_wp2_with fail
          go_ret3
          unfold EQ; rw [hE.out]; exact ⟨rfl, HB1.out⟩
        have s0 := Sl.fromV8 S.out 6 (by omega)
        rw [show (x :: 117 :: r).drop 6 = r.drop 4 from rfl, if_neg hc6] at s0
        have ir : IsB (r.drop 4) := (HB.out.drop 2).drop 4
        have s1 := s0.alloc (.cells #[.int .u8 92, .int .u8 117] 5 (2, 3))
        have CON := hasPrefix8 _ _ _ _ _ _ _ _ _ s1 t1 ir (isB_all (by decide))
        cases hpre : ([92, 117] : List Int).isPrefixOf (r.drop 4) with
        | false =>
          have hE := Lib.hid (no (lo_not hpre))
          rw [hpre] at CON
          have HC := Lib.hid CON
          clear CON s0 s1 t1 ir no yes hpre
          go_enter Try.func56, Try.ntmps56
          go_wp2_with fail
          refine F.out.mono ?_
          rintro e w' ⟨rfl, rfl⟩
          go_wp2_with fail
          refine HC.out.mono ?_
          rintro e w' ⟨rfl, rfl⟩
          go_wp2_with fail
          go_ret3
          unfold EQ; rw [hE.out]; exact ⟨rfl, HB1.out⟩
        | true =>
          rw [hpre] at CON
          have HC := Lib.hid CON
          obtain ⟨u, hu⟩ := pre_two hpre
          have hlu : n - 6 = u.length + 2 := by have := s0.len; rw [hu] at this; simp at this; omega
          have s2 := s1
          rw [hu] at s2 ir
          have F2 := number_any _ _ _ _ _ s2 ir (by omega) (by omega)
          rw [show (92 :: 117 :: u).drop 2 = u from rfl] at F2
          obtain ⟨m, g2, hf2⟩ : ∃ m g2, f4 4 0 u = (m, g2) := ⟨_, _, rfl⟩
          rw [hf2] at F2
          have FF := Lib.hid F2
          have hlo : lo (r.drop 4) = if g2 = 0 ∧ 56320 ≤ m ∧ m ≤ 57343 then some m else none := by
            rw [hu, lo_cons, hf2]; simp
          by_cases hp2 : g2 = 0 ∧ 56320 ≤ m ∧ m ≤ 57343
          · obtain ⟨rfl, m1, m2⟩ := hp2
            have m3 : m < 57344 := by omega
            have hE := Lib.hid (yes m (by rw [hlo, if_pos ⟨rfl, m1, m2⟩]))
            clear CON s0 s1 t1 ir no yes hpre hu hlu s2 F2 hf2 hlo
            go_enter Try.func56, Try.ntmps56
            go_wp2_with fail
            refine F.out.mono ?_
            rintro e w' ⟨rfl, rfl⟩
            go_wp2_with fail
            refine HC.out.mono ?_
            rintro e w' ⟨rfl, rfl⟩
            go_wp2_with fail
            refine FF.out.mono ?_
            rintro e w' ⟨rfl, rfl⟩
            go_wp2_with fail
            go_ret3
            unfold EQ; rw [hE.out]; exact ⟨by first | rfl | (congr 4; done) | (congr 4; go_num), HB1.out⟩
          · have hE := Lib.hid (no (by rw [hlo, if_neg hp2]))
            have hw : g2 ≠ 0 ∨ (g2 = 0 ∧ m < 56320) ∨ (g2 = 0 ∧ 56320 ≤ m ∧ 57344 ≤ m) := by omega
            clear CON s0 s1 t1 ir no yes hpre hu hlu s2 F2 hf2 hlo hp2
            rcases hw with hg2 | ⟨rfl, hm1⟩ | ⟨rfl, hm1, hm2⟩
            all_goals
              go_enter Try.func56, Try.ntmps56
              go_wp2_with fail
              refine F.out.mono ?_
              rintro e w' ⟨rfl, rfl⟩
              go_wp2_with fail
              refine HC.out.mono ?_
              rintro e w' ⟨rfl, rfl⟩
              go_wp2_with fail
              refine FF.out.mono ?_
              rintro e w' ⟨rfl, rfl⟩
              go_wp2_with fail
              go_ret3
              unfold EQ; rw [hE.out]; exact ⟨rfl, HB1.out⟩
      · have hE := Lib.hid (no (if_neg (by omega)))
        clear no yes
        go_enter Try.func56, Try.ntmps56
        go_wp2_with fail
        refine F.out.mono ?_
        rintro e w' ⟨rfl, rfl⟩
        go_wp2_with fail
        go_ret3
        unfold EQ; rw [hE.out]; exact ⟨rfl, Below.refl _ _⟩
  · have hE := Lib.hid (show esc (x :: 117 :: r) = (0, 0, g) by rw [esc_u_bad HF.out hg])
    go_enter Try.func56, Try.ntmps56
    go_wp2_with fail
    refine F.out.mono ?_
    rintro e w' ⟨rfl, rfl⟩
    go_wp2_with fail
    go_ret3
    unfold EQ; rw [hE.out]; exact ⟨rfl, Below.refl _ _⟩
end Em
end Go.Proofs.Ytjkaccmhpilojaa
