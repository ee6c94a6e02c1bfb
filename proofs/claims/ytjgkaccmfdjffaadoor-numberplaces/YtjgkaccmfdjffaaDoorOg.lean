/-
  The walk of NumberPlaces, for any arguments.
-/
import Derived.Test.YtjgkaccmfdjffaaDoorOe
import Derived.Lib.AppendStr
namespace Go.Proofs.YtjgkaccmfdjffaaDoor
set_option linter.unusedVariables false
set_option linter.unusedSimpArgs false
open Go.RowKit
namespace Nu
open Wd We Es
open Dm (Ds vl decs)

theorem strCells9 {l : List Int} (hb : IsB l) : Lib.strCells (Dm.bs l) = l.map (Value.int .u8) := by
  have : (Dm.bs l).data.toList = l.map fun n => UInt8.ofNat n.toNat := by simp [Dm.bs]
  unfold Lib.strCells
  simp only [Array.toList_map, this, List.map_map]
  refine List.map_congr_left fun x hx => ?_
  show Value.int .u8 ((UInt8.ofNat x.toNat).toNat : Int) = _
  rw [Dm.byte_back (hb x hx)]
theorem own_str9 {e : TypeId} {w : World} {B n : Nat} {v : Value} {l E : List Int} {s : ByteArray} (hn : l.length = n) (h : w.ownsRow B e 1 v (n + s.size) (l.map (Value.int .u8) ++ Lib.strCells s)) (h1 : Lib.strCells s = E.map (Value.int .u8)) (h2 : s.size = E.length) : Wd.Own .u8 e w B v (l ++ E) := by
  unfold Wd.Own
  rw [List.length_append, List.map_append, ← h1, ← h2, hn]
  exact h
theorem sum_p (u v t : List Int) : (((((((⟨#[45, 49]⟩ : ByteArray) ++ Dm.bs u) ++ ⟨#[46]⟩) ++ Dm.bs v) ++ ⟨#[50, 101, 43]⟩) ++ Dm.bs t) ++ ⟨#[51]⟩) = Dm.bs (mp u v t) := by
  rw [lit46, show (⟨#[45, 49]⟩ : ByteArray) = Dm.bs [45, 49] from rfl, show (⟨#[50, 101, 43]⟩ : ByteArray) = Dm.bs [50, 101, 43] from rfl, show (⟨#[51]⟩ : ByteArray) = Dm.bs [51] from rfl]
  simp only [bs_app]
  congr 1
  unfold mp mk fp
  rw [if_neg (by simp)]
  simp [sg]
theorem mp_byte {u v t : List Int} (hu : Ds u) (hv : Ds v) (ht : Ds t) : IsB (mp u v t) := ex_byte (ip_49 hu) (hv.append (ds_one (by omega))) (mp_ex ht)
theorem mp_len {u v t : List Int} (hu : u.length ≤ 30) (hv : v.length ≤ 30) (ht : t.length ≤ 30) : (mp u v t).length ≤ 110 := by
  have h := mk_len true (49 :: u) (v ++ [50]) (101 :: ([43] ++ (t ++ [51])))
  unfold mp; simp only [List.length_cons, List.length_append, List.length_nil] at *; omega
theorem nth_byte {ls : List (List Int)} (h : ∀ l ∈ ls, IsB l) (i : Nat) : IsB (nth ls i) := by
  unfold nth
  cases hx : ls[i]? with
  | none => intro x hx; cases hx
  | some l => exact h l (List.mem_of_getElem? hx)

set_option maxRecDepth 100000 in
set_option maxHeartbeats 8000000 in
theorem core_NumberPlaces (H : NumOk) (A : Option Addr) (n c : Nat) (ls : List (List Int)) (B : Option Addr) (m d : Nat) (r : List Int) (x : Int) (w : World) (s : LL w A n c ls) (hb : ∀ l ∈ ls, IsB l) (t : Sl .u8 w B m d r) (hr : IsB r) (hm : m ≤ 140737488351232) (x0 : 0 ≤ x) (x1 : x ≤ 255) :
    Calls Tryd.prog 10 #[.slice A n c, .slice B m d, .int .u8 x] w fun e w' => e = .returned (.bool true) ∧ Below w.heap.size w w' := by
  obtain ⟨i0, hi, hz0, hz1, hz2⟩ := info_parts u8_info
  have hrl := t.len
  have P0 := Lib.hid (fun (w' : World) (h : Below w.heap.size w w') => part_any A n c ls 0 (by omega) w' (s.below h) hb)
  have P1 := Lib.hid (fun (w' : World) (h : Below w.heap.size w w') => part_any A n c ls 1 (by omega) w' (s.below h) hb)
  have P2 := Lib.hid (fun (w' : World) (h : Below w.heap.size w w') => part_any A n c ls 2 (by omega) w' (s.below h) hb)
  rw [show ((0 : Nat) : Int) = 0 from rfl] at P0
  rw [show ((1 : Nat) : Int) = 1 from rfl] at P1
  rw [show ((2 : Nat) : Int) = 2 from rfl] at P2
  have SP := sum_p (dgt (nth ls 0)) (dgt (nth ls 1)) (dgt (nth ls 2))
  have d0 := dgt_ds (nth ls 0)
  have d1 := dgt_ds (nth ls 1)
  have d2 := dgt_ds (nth ls 2)
  have QB := mp_byte d0 d1 d2
  have QL := mp_len (dgt_len (nth ls 0)) (dgt_len (nth ls 1)) (dgt_len (nth ls 2))
  have UA := places_all d0 d1 d2
  have z0 : (Dm.bs (dgt (nth ls 0))).size ≤ 30 := by rw [Dm.bs_size]; exact dgt_len _
  have z1 : (Dm.bs (dgt (nth ls 1))).size ≤ 30 := by rw [Dm.bs_size]; exact dgt_len _
  have z2 : (Dm.bs (dgt (nth ls 2))).size ≤ 30 := by rw [Dm.bs_size]; exact dgt_len _
  have UN : Hid (∀ a : List Int, ¬ (48 ≤ x ∧ x ≤ 57) → uc (a ++ (mp (dgt (nth ls 0)) (dgt (nth ls 1)) (dgt (nth ls 2)) ++ [x])) (a.length : Int) = (((a.length + (mp (dgt (nth ls 0)) (dgt (nth ls 1)) (dgt (nth ls 2))).length : Nat) : Int), 0)) := Lib.hid (fun a h => places_no d0 d1 d2 h)
  have UY : Hid (∀ a : List Int, (48 ≤ x ∧ x ≤ 57) → uc (a ++ (mp (dgt (nth ls 0)) (dgt (nth ls 1)) (dgt (nth ls 2)) ++ [x])) (a.length : Int) = (((a.length + (mp (dgt (nth ls 0)) (dgt (nth ls 1)) (dgt (nth ls 2))).length + 1 : Nat) : Int), 0)) := Lib.hid (fun a h => places_yes d0 d1 d2 h)
  obtain ⟨Q, hQ⟩ : ∃ Q, mp (dgt (nth ls 0)) (dgt (nth ls 1)) (dgt (nth ls 2)) = Q := ⟨_, rfl⟩
  rw [hQ] at SP QB QL UA UN UY
  obtain ⟨S0, hS0⟩ : ∃ S, Dm.bs (dgt (nth ls 0)) = S := ⟨_, rfl⟩
  obtain ⟨S1, hS1⟩ : ∃ S, Dm.bs (dgt (nth ls 1)) = S := ⟨_, rfl⟩
  obtain ⟨S2, hS2⟩ : ∃ S, Dm.bs (dgt (nth ls 2)) = S := ⟨_, rfl⟩
  obtain ⟨SQ, hSQ⟩ : ∃ S, Dm.bs Q = S := ⟨_, rfl⟩
  rw [hS0] at P0 SP z0
  rw [hS1] at P1 SP z1
  rw [hS2] at P2 SP z2
  rw [hSQ] at SP
  have HSZ := Lib.hid (show SQ.size = Q.length by rw [← hSQ, Dm.bs_size])
  have HSC := Lib.hid (show Lib.strCells SQ = Q.map (Value.int .u8) by rw [← hSQ]; exact strCells9 QB)
  have hsq : SQ.size ≤ 110 := by rw [HSZ.out]; exact QL
  have EN : Hid (∀ w' : World, Calls Tryd.prog 28 #[.string SQ, .int .i64 (SQ.size : Int)] w' fun e w'' => e = .returned (.bool true) ∧ Below w'.heap.size w' w'') := Lib.hid (fun w' => ends_any H SQ Q (SQ.size : Int) hSQ.symm QB (by omega) (by rw [HSZ.out]; exact UA) w')
  have CPY := Lib.hid (fun (w' : World) (h : Below w.heap.size w w') => copy_any B m d r w' (t.below h) (by omega))
  have HQB := Lib.hid QB
  have HRB := Lib.hid hr
  have B0 := Lib.hid (Below.refl w.heap.size w)
  clear s hb t hr hQ hS0 hS1 hS2 hSQ QB QL UA d0 d1 d2
  go_enter Tryd.func10, Tryd.ntmps10
  go_wp2_with fail
  refine (P0.out _ B0.out).mono ?_
  rintro e w1 ⟨rfl, h1⟩
  have B1 := Lib.hid (ext9 B0.out h1)
  clear h1
  go_wp2_with fail
  refine (P1.out _ B1.out).mono ?_
  rintro e w2 ⟨rfl, h2⟩
  have B2 := Lib.hid (ext9 B1.out h2)
  clear h2
  go_wp2_with fail
  refine (P2.out _ B2.out).mono ?_
  rintro e w3 ⟨rfl, h3⟩
  have B3 := Lib.hid (ext9 B2.out h3)
  clear h3
  go_wp2_with fail
  clear SP
  refine (CPY.out w3 B3.out).mono ?_
  rintro e w4 ⟨v4, rfl, o4, b4⟩
  have B4 := Lib.hid (ext9 B3.out b4)
  have hs4 := b4.size
  have hs3 := B3.out.size
  have X1 : m + SQ.size ≤ maxLen := by unfold maxLen; omega
  have X2 : m + SQ.size ≤ 140737488355328 := by omega
  have X3 : ((r ++ Q).length + 1) * 1 ≤ 140737488355328 := by rw [List.length_append]; have := HSZ.out; omega
  have X4 : (r ++ Q).length + 1 ≤ maxLen := by unfold maxLen; rw [List.length_append]; have := HSZ.out; omega
  have O4 := Lib.hid o4
  have hrow : w4.ownsRow w3.heap.size 5 1 v4 m (r.map (Value.int .u8)) := by have := o4; unfold Wd.Own at this; rw [hrl] at this; exact this
  have HROW := Lib.hid hrow
  clear o4 hrow b4
  go_wp2_with (first
    | (at_builtin; refine Lib.wpList_append_own_string _ rfl _ _ _ _ rfl w3.heap.size 5 i0 Tryd.underlying22 Tryd.underlying9 hi hz0 hz1 hz2 v4 m _ rfl HROW.out SQ rfl X1 X2 hs4 ?_; intro v5 w5 ho5 hg5 _; have o5 := own_str9 (l := r) (E := Q) hrl ho5 HSC.out HSZ.out; have b5 : Below w3.heap.size w4 w5 := (Below.refl _ _).grown hg5 hs4 (fun g hg => (O4.out.lt hg).1); have B5 := Lib.hid (B4.out.trans (b5.mono hs3)); have hs5 := b5.size; have OE5 := Lib.hid (Wd.Own.below o5 (below_alloc9 w5 (.cells #[.int .u8 x] 5)) (fun g hg => (o5.lt hg).2)); have SN5 := Lib.hid (show Sl .u8 (w5.alloc (.cells #[.int .u8 x] 5)) (some ⟨w5.heap.size, 0, none⟩) 1 1 [x] from Sl.new w5 [x] 5 .u8 (by unfold maxLen; simp)); have hs6 : w3.heap.size ≤ (w5.alloc (.cells #[.int .u8 x] 5)).heap.size := (by simp; omega); clear ho5 hg5 o5 b5)
    | (at_builtin; refine wp_app rfl _ _ _ rfl w3.heap.size Tryd.underlying22 hi hz0 hz1 hz2 rfl rfl OE5.out rfl SN5.out X3 X4 hs6 ?_; intro v7 w7 ho7 hb7 _; have HO7 := Lib.hid ho7; have B7 := Lib.hid (((B5.out.alloc (B5.out.size) (.cells #[.int .u8 x] 5))).trans (hb7.mono hs3)); clear ho7 hb7))
  obtain ⟨A8, c8, rfl, s8, _⟩ := HO7.out.sl
  have hwb : IsB (r ++ Q ++ [x]) := (HRB.out.append HQB.out).append (fun y hy => by have : y = x := by simpa using hy
                                                                                    omega)
  have hwl : (r ++ Q ++ [x]).length = m + SQ.size + 1 := by rw [List.length_append, List.length_append, hrl, HSZ.out]; rfl
  have hsm : m + SQ.size + 1 ≤ 140737488355000 := by omega
  rw [hwl] at s8 ⊢
  have e0 : (r.length : Int) = (m : Int) := by omega
  have CON := H.check _ _ _ _ (m : Int) w7 s8 hwb hsm (by omega) (by omega)
  have hlen8 : ((m + SQ.size + 1 : Nat) : Int) = (m : Int) + (SQ.size : Int) + 1 := by omega
  by_cases hx : 48 ≤ x ∧ x ≤ 57
  · have hu := UY.out r hx
    rw [← List.append_assoc, e0, hrl, ← HSZ.out, hlen8] at hu
    rw [hu] at CON
    dsimp only at CON
    have HC := Lib.hid CON
    obtain ⟨y0, y1⟩ := hx
    clear CON s8 hu hwb hwl HO7 UY UN O4 HROW X1 X2 X3 X4 e0
    go_wp2_with fail
    refine (HC.out).mono ?_
    rintro e v8 ⟨rfl, h8⟩
    have B8 := Lib.hid (ext9 B7.out h8)
    clear h8
    go_wp2_with fail
    refine (awake9 H _).mono ?_
    rintro e v9 ⟨rfl, h9⟩
    have B9 := Lib.hid (ext9 B8.out h9)
    clear h9
    go_wp2
    go_ret
    exact ⟨by first | rfl | (simp; done) | (simp; omega), B9.out⟩
  · have hu := UN.out r hx
    have e1 : ((m + SQ.size : Nat) : Int) = (m : Int) + (SQ.size : Int) := by omega
    rw [← List.append_assoc, e0, hrl, ← HSZ.out, e1] at hu
    rw [hu] at CON
    dsimp only at CON
    have HC := Lib.hid CON
    clear CON s8 hu hwb hwl HO7 UY UN O4 HROW X1 X2 X3 X4 e0 e1
    rcases (show ¬ 48 ≤ x ∨ 48 ≤ x ∧ ¬ x ≤ 57 by omega) with y0 | ⟨y0, y1⟩
    all_goals
      go_wp2_with fail
      refine (HC.out).mono ?_
      rintro e v8 ⟨rfl, h8⟩
      have B8 := Lib.hid (ext9 B7.out h8)
      clear h8
      go_wp2_with fail
      refine (EN.out _).mono ?_
      rintro e v9 ⟨rfl, h9⟩
      have B9 := Lib.hid (ext9 B8.out h9)
      clear h9
      go_wp2_with fail
      refine (awake9 H _).mono ?_
      rintro e v10 ⟨rfl, h10⟩
      have B10 := Lib.hid (ext9 B9.out h10)
      clear h10
      go_wp2
      go_ret
      exact ⟨by first | rfl | (simp; done) | (simp; omega), B10.out⟩
end Nu
end Go.Proofs.YtjgkaccmfdjffaaDoor
