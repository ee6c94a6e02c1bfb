/-
  The walk of NumberNoughts, for any arguments.
-/
import Derived.Test.YtjgkaccmfdjffaaDoorOb
namespace Go.Proofs.YtjgkaccmfdjffaaDoor
set_option linter.unusedVariables false
set_option linter.unusedSimpArgs false
open Go.RowKit
namespace Nu
open Wd We Es
open Dm (Ds vl decs)

def zx (m : Nat) (u : List Int) : List Int := mk true [48] (List.replicate m 48) (101 :: ([45] ++ (55 :: u)))
def zy (m : Nat) (o : List Int) : List Int := mk false [48] (List.replicate m 48 ++ (49 :: o)) []
theorem sum_zx (j : Nat) (u : List Int) : (((((⟨#[45, 48, 46]⟩ : ByteArray) ++ Dm.bs (List.replicate (1 + j) 48)) ++ ⟨#[101, 45]⟩) ++ ⟨#[55]⟩) ++ Dm.bs u) = Dm.bs (zx (1 + j) u) := by
  rw [show (⟨#[45, 48, 46]⟩ : ByteArray) = Dm.bs [45, 48, 46] from rfl, show (⟨#[101, 45]⟩ : ByteArray) = Dm.bs [101, 45] from rfl, show (⟨#[55]⟩ : ByteArray) = Dm.bs [55] from rfl]
  simp only [bs_app]
  congr 1
  unfold zx mk fp
  rw [if_neg (by rw [Nat.add_comm, List.replicate_succ]; simp)]
  simp [sg]
theorem sum_zy (j : Nat) (u : List Int) : ((((⟨#[48, 46]⟩ : ByteArray) ++ Dm.bs (List.replicate (1 + j) 48)) ++ ⟨#[49]⟩) ++ Dm.bs u) = Dm.bs (zy (1 + j) u) := by
  rw [show (⟨#[48, 46]⟩ : ByteArray) = Dm.bs [48, 46] from rfl, show (⟨#[49]⟩ : ByteArray) = Dm.bs [49] from rfl]
  simp only [bs_app]
  congr 1
  unfold zy mk fp
  rw [if_neg (by simp)]
  simp [sg]
/-- the facts on both -/
structure Nz0 (x y : List Int) : Prop where
  bx : IsB x
  bY : IsB y
  lx : x.length ≤ 1000
  lY : y.length ≤ 1000
  x0 : sam x [48] = true
  ox : sam [48] x = true
  ix : itg x = (0, true)
  xy : sam x y = false
  y0 : sam y [48] = false
  iy : itg y = (0, false)
theorem nz0 {j : Nat} {u o : List Int} (hu : Ds u) (ho : Ds o) (ul : u.length ≤ 30) (ol : o.length ≤ 30) (hj : j < 20) : Nz0 (zx (1 + j) u) (zy (1 + j) o) := by
  have hr : ∀ n, Ds (List.replicate n 48) := fun n x hx => by have := (List.mem_replicate.1 hx).2; omega
  have hx : Ex (101 :: ([45] ++ (55 :: u))) := Ex.some 101 [45] _ (.inl rfl) (.inr (.inr rfl)) (ds_cons (by omega) hu) (by simp)
  have h1 : Ds (List.replicate (1 + j) 48 ++ (49 :: o)) := (hr _).append (ds_cons (by omega) ho)
  have V1 : val (zx (1 + j) u) = some (false, [], 0) := val_nought hx
  obtain ⟨t, z, hz, V2⟩ := val_other (m := 1 + j) ho
  refine ⟨ex_byte ip_0 (hr _) hx, ex_byte ip_0 h1 Ex.none, ?_, ?_, sam_yes V1 val_0, sam_yes val_0 V1, itg_zero V1, sam_no V1 V2 (fun g => ?_), sam_no V2 val_0 (fun g => ?_), itg_below V2 ?_⟩
  · have h := mk_len true [48] (List.replicate (1 + j) 48) (101 :: ([45] ++ (55 :: u)))
    unfold zx; simp only [List.length_cons, List.length_append, List.length_nil, List.length_replicate] at *; omega
  · have h := mk_len false [48] (List.replicate (1 + j) 48 ++ (49 :: o)) []
    unfold zy; simp only [List.length_cons, List.length_append, List.length_nil, List.length_replicate] at *; omega
  · have := congrArg (fun x => x.2.1) g
    cases this
  · have := congrArg (fun x => x.2.1) g
    cases this
  · omega
set_option maxRecDepth 100000 in
set_option maxHeartbeats 8000000 in
theorem core_NumberNoughts (H : NumOk) (a0 : Int) (A : Option Addr) (n c : Nat) (l : List Int) (B : Option Addr) (m d : Nat) (r : List Int) (w : World) (h00 : -9223372036854775808 ≤ a0) (h01 : a0 ≤ 9223372036854775807) (s : Sl .u8 w A n c l) (hb : IsB l) (t : Sl .u8 w B m d r) (hr : IsB r) :
    Calls Tryd.prog 7 #[.int .i64 a0, .slice A n c, .slice B m d] w fun e w' => e = .returned (.bool true) ∧ Below w.heap.size w w' := by
  have BR := bring_any a0 20 (by omega) (by omega) h00 h01
  obtain ⟨j, hj⟩ := Int.eq_ofNat_of_zero_le (Int.emod_nonneg a0 (b := 20) (by omega))
  have hj2 := Int.emod_lt_of_pos a0 (b := 20) (by omega)
  rw [hj] at BR hj2
  have HBR := Lib.hid BR
  have hj3 : j < 20 := by omega
  have DA := Lib.hid (fun (w' : World) (h : Below w.heap.size w w') => digits_any A n c l w' (s.below h) hb)
  have DB := Lib.hid (fun (w' : World) (h : Below w.heap.size w w') => digits_any B m d r w' (t.below h) hr)
  have NF := Lib.hid (nz0 (dgt_ds l) (dgt_ds r) (dgt_len l) (dgt_len r) hj3)
  have NK : ∀ w', Calls Tryd.prog 24 #[.int .i64 (1 + (j : Int))] w' fun e w'' => e = .returned (.string (Dm.bs (List.replicate (1 + j) 48))) ∧ w'' = w' := fun w' => by
    have h := noughts_any (1 + j) (by omega) w'
    rw [show ((1 + j : Nat) : Int) = 1 + (j : Int) by omega] at h; exact h
  have SX := sum_zx j (dgt l)
  have SY := sum_zy j (dgt r)
  have l4 : (Dm.bs (List.replicate (1 + j) (48 : Int))).size ≤ 20 := by rw [Dm.bs_size, List.length_replicate]; omega
  have ds1 : (Dm.bs (dgt l)).size ≤ 30 := by rw [Dm.bs_size]; exact dgt_len l
  have es1 : (Dm.bs (dgt r)).size ≤ 30 := by rw [Dm.bs_size]; exact dgt_len r
  obtain ⟨DS, hDS⟩ : ∃ S, Dm.bs (dgt l) = S := ⟨_, rfl⟩
  obtain ⟨ES, hES⟩ : ∃ S, Dm.bs (dgt r) = S := ⟨_, rfl⟩
  obtain ⟨T4, hT4⟩ : ∃ S, Dm.bs (List.replicate (1 + j) (48 : Int)) = S := ⟨_, rfl⟩
  rw [hDS] at DA SX ds1
  rw [hES] at DB SY es1
  rw [hT4] at SX SY l4
  simp only [hT4] at NK
  have HNK := Lib.hid NK
  have HSX := Lib.hid SX
  have HSY := Lib.hid SY
  have h48 : (⟨#[48]⟩ : ByteArray) = Dm.bs [48] := rfl
  have C1 := Lib.hid (same_at H _ _ _ _ _ HSX.out h48 NF.out.bx (isB_all (by decide)) (by have := NF.out.lx; omega) (by decide) NF.out.x0)
  have C2 := Lib.hid (same_at H _ _ _ _ _ h48 HSX.out (isB_all (by decide)) NF.out.bx (by decide) (by have := NF.out.lx; omega) NF.out.ox)
  have C3 := Lib.hid (whole_any H _ _ 0 HSX.out NF.out.bx (by have := NF.out.lx; omega) NF.out.ix)
  have C4 := Lib.hid (same_at H _ _ _ _ _ HSX.out HSY.out NF.out.bx NF.out.bY (by have := NF.out.lx; omega) (by have := NF.out.lY; omega) NF.out.xy)
  have C5 := Lib.hid (same_at H _ _ _ _ _ HSY.out h48 NF.out.bY (isB_all (by decide)) (by have := NF.out.lY; omega) (by decide) NF.out.y0)
  have C6 := Lib.hid (none_any H _ _ HSY.out NF.out.bY (by have := NF.out.lY; omega) NF.out.iy)
  have B0 := Lib.hid (Below.refl w.heap.size w)
  clear BR hj hj2 h00 h01 s t hb hr NK SX SY hDS hES hT4 h48
  go_enter Tryd.func7, Tryd.ntmps7
  go_wp2_with fail
  refine (HBR.out _).mono ?_
  rintro e w0 ⟨rfl, rfl⟩
  go_wp2_with fail
  refine (HNK.out _).mono ?_
  rintro e w1 ⟨rfl, rfl⟩
  go_wp2_with fail
  refine (DA.out _ B0.out).mono ?_
  rintro e w2 ⟨rfl, h2⟩
  have B2 := Lib.hid (ext9 B0.out h2)
  clear h2
  go_wp2_with fail
  refine (HBR.out _).mono ?_
  rintro e w3 ⟨rfl, rfl⟩
  go_wp2_with fail
  refine (HNK.out _).mono ?_
  rintro e w4 ⟨rfl, rfl⟩
  go_wp2_with fail
  refine (DB.out _ B2.out).mono ?_
  rintro e w5 ⟨rfl, h5⟩
  have B5 := Lib.hid (ext9 B2.out h5)
  clear h5
  go_wp2_with fail
  refine (C1.out _).mono ?_
  rintro e v6 ⟨rfl, h6⟩
  have B6 := Lib.hid (ext9 B5.out h6)
  clear h6
  go_wp2_with fail
  refine (C2.out _).mono ?_
  rintro e v7 ⟨rfl, h7⟩
  have B7 := Lib.hid (ext9 B6.out h7)
  clear h7
  go_wp2_with fail
  refine (C3.out _).mono ?_
  rintro e v8 ⟨rfl, h8⟩
  have B8 := Lib.hid (ext9 B7.out h8)
  clear h8
  go_wp2_with fail
  refine (C4.out _).mono ?_
  rintro e v9 ⟨rfl, h9⟩
  have B9 := Lib.hid (ext9 B8.out h9)
  clear h9
  go_wp2_with fail
  refine (C5.out _).mono ?_
  rintro e v10 ⟨rfl, h10⟩
  have B10 := Lib.hid (ext9 B9.out h10)
  clear h10
  go_wp2_with fail
  refine (C6.out _).mono ?_
  rintro e v11 ⟨rfl, h11⟩
  have B11 := Lib.hid (ext9 B10.out h11)
  clear h11
  go_wp2_with fail
  refine (awake9 H _).mono ?_
  rintro e v12 ⟨rfl, h12⟩
  have B12 := Lib.hid (ext9 B11.out h12)
  clear h12
  go_wp2
  go_ret
  exact ⟨by first | rfl | simp, B12.out⟩
end Nu
end Go.Proofs.YtjgkaccmfdjffaaDoor
