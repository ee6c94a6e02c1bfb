/-
  The walk of NumberMoved, for any arguments.
-/
import Derived.Test.YtjgkaccmfdjffaaDoorOa
import Derived.BigQuiet
namespace Go.Proofs.YtjgkaccmfdjffaaDoor
set_option linter.unusedVariables false
set_option linter.unusedSimpArgs false
open Go.RowKit
namespace Nu
open Wd We Es
open Dm (Ds vl decs)

theorem ex_byte {b : Bool} {ip fd ex : List Int} (hi : Ip ip) (hf : Ds fd) (h : Ex ex) : IsB (mk b ip fd ex) := fun x hx => by
  have := (parts (ck_mk0 (b := b) hi hf h)).2.2.2.1 x hx
  omega
theorem fp_snoc (v : List Int) (x : Int) : fp (v ++ [x]) = 46 :: (v ++ [x]) := by unfold fp; rw [if_neg (by simp)]
theorem lit46 : (⟨#[46]⟩ : ByteArray) = Dm.bs [46] := rfl
theorem lit101 : (⟨#[101]⟩ : ByteArray) = Dm.bs [101] := rfl
theorem lit6945 : (⟨#[69, 45]⟩ : ByteArray) = Dm.bs [69, 45] := rfl
theorem litz : (⟨#[101, 43, 48, 48, 48]⟩ : ByteArray) = Dm.bs [101, 43, 48, 48, 48] := rfl
theorem litu : (⟨#[48, 46]⟩ : ByteArray) = Dm.bs [48, 46] := rfl
section
variable (b : Bool) (u v : List Int) (p k : Nat)
theorem sum_x : ((((Dm.bs (sg b) ++ Dm.bs (49 :: u)) ++ ⟨#[46]⟩) ++ Dm.bs (v ++ [53])) ++ ⟨#[101]⟩) ++ Dm.bs (decs p) = Dm.bs (mx b u v p) := by
  rw [lit46, lit101]
  simp only [bs_app]
  congr 1
  unfold mx mk
  rw [fp_snoc]
  simp
theorem sum_y : ((((Dm.bs (sg b) ++ Dm.bs (49 :: u)) ++ Dm.bs (v ++ [53])) ++ Dm.bs (List.replicate k 48)) ++ ⟨#[69, 45]⟩) ++ Dm.bs (decs ((v ++ [53]).length + k)) = Dm.bs (my b u v k) := by
  rw [lit6945]
  simp only [bs_app]
  congr 1
  unfold my mk fp
  simp
theorem sum_z : (((((Dm.bs (sg b) ++ Dm.bs (49 :: u)) ++ ⟨#[46]⟩) ++ Dm.bs (v ++ [53])) ++ Dm.bs (List.replicate k 48)) ++ ⟨#[101, 43, 48, 48, 48]⟩) ++ Dm.bs (decs p) = Dm.bs (mz b u v k p) := by
  rw [lit46, litz]
  simp only [bs_app]
  congr 1
  unfold mz mk fp
  rw [if_neg (by simp)]
  simp
theorem sum_u : ((((Dm.bs (sg b) ++ ⟨#[48, 46]⟩) ++ Dm.bs (49 :: u)) ++ Dm.bs (v ++ [53])) ++ ⟨#[101]⟩) ++ Dm.bs (decs (p + (49 :: u).length)) = Dm.bs (mu b u v p) := by
  rw [litu, lit101]
  simp only [bs_app]
  congr 1
  unfold mu mk fp
  rw [if_neg (by simp)]
  simp
end
theorem mk_len (b : Bool) (ip fd ex : List Int) : (mk b ip fd ex).length ≤ 2 + ip.length + fd.length + ex.length := by
  unfold mk fp
  have h1 : (sg b).length ≤ 1 := by cases b <;> decide
  rw [List.length_append, List.length_append, List.length_append]
  split
  · simp only [List.length_nil]; omega
  · rw [List.length_cons]; omega
/-- the facts on the four numbers -/
structure Mv (b : Bool) (u v : List Int) (p k : Nat) : Prop where
  bx : IsB (mx b u v p)
  bY : IsB (my b u v k)
  bz : IsB (mz b u v k p)
  bu : IsB (mu b u v p)
  lx : (mx b u v p).length ≤ 1000
  lY : (my b u v k).length ≤ 1000
  lz : (mz b u v k p).length ≤ 1000
  lu : (mu b u v p).length ≤ 1000
  xz : sam (mx b u v p) (mz b u v k p) = true
  xu : sam (mx b u v p) (mu b u v p) = true
  zu : sam (mz b u v k p) (mu b u v p) = true
  uz : sam (mu b u v p) (mz b u v k p) = true
  xy0 : p = 0 → sam (mx b u v p) (my b u v k) = true ∧ sam (my b u v k) (mx b u v p) = true ∧ sam (my b u v k) (mu b u v p) = true
  xy1 : p ≠ 0 → sam (mx b u v p) (my b u v k) = false
theorem mv {b : Bool} {u v : List Int} {p k : Nat} (hu : Ds u) (hv : Ds v) (ul : u.length ≤ 30) (vl' : v.length ≤ 30) (hp : p < 1000) (hk : k < 20) : Mv b u v p k := by
  have hvs : Ds (v ++ [53]) := hv.append (ds_one (by omega))
  have hvr : Ds ((v ++ [53]) ++ List.replicate k 48) := hvs.append (fun x hx => by have := (List.mem_replicate.1 hx).2; omega)
  have huv : Ds ((49 :: u) ++ (v ++ [53])) := (ip_49 hu).1.append hvs
  have hr : Ds (List.replicate k 48) := fun x hx => by have := (List.mem_replicate.1 hx).2; omega
  have huvr : Ip ((49 :: u) ++ (v ++ [53]) ++ List.replicate k 48) := ⟨huv.append hr, by simp, .inr (by simp)⟩
  have hlv : (v ++ [53]).length ≤ 31 := by simp; omega
  have hld : ∀ n : Nat, n < 10000 → (decs n).length ≤ 4 := fun n hn => decs_len (k := 4) (by omega) (by omega)
  have V1 := val_x (b := b) hu hv (p := p) (by omega)
  have V2 := val_y (b := b) hu hv (k := k) (by omega)
  have V3 := val_z (b := b) (k := k) hu hv (p := p) (by omega)
  have V4 := val_u (b := b) hu hv (p := p) (by rw [List.length_cons]; omega)
  have d3 : Ds ([48, 48, 48] ++ decs p) := Ds.append (fun x hx => by simp at hx; omega) (Dm.ds_decs p)
  refine ⟨?_, ?_, ?_, ?_, ?_, ?_, ?_, ?_, sam_yes V1 V3, sam_yes V1 V4, sam_yes V3 V4, sam_yes V4 V3, ?_, ?_⟩
  · exact ex_byte (ip_49 hu) hvs (ex_decs 101 (.inl rfl) [] (.inl rfl) p)
  · exact ex_byte huvr ds_nil (ex_decs 69 (.inr rfl) [45] (.inr (.inr rfl)) _)
  · exact ex_byte (ip_49 hu) hvr (Ex.some 101 [43] _ (.inl rfl) (.inr (.inl rfl)) d3 (by simp))
  · exact ex_byte ip_0 huv (ex_decs 101 (.inl rfl) [] (.inl rfl) _)
  · have h := mk_len b (49 :: u) (v ++ [53]) (101 :: ([] ++ decs p))
    have h2 := hld p (by omega)
    unfold mx; simp only [List.length_cons, List.length_append, List.length_nil] at *; omega
  · have h := mk_len b ((49 :: u) ++ (v ++ [53]) ++ List.replicate k 48) [] (69 :: ([45] ++ decs ((v ++ [53]).length + k)))
    have h2 := hld ((v ++ [53]).length + k) (by omega)
    unfold my; simp only [List.length_cons, List.length_append, List.length_nil, List.length_replicate] at *; omega
  · have h := mk_len b (49 :: u) ((v ++ [53]) ++ List.replicate k 48) (101 :: ([43] ++ ([48, 48, 48] ++ decs p)))
    have h2 := hld p (by omega)
    unfold mz; simp only [List.length_cons, List.length_append, List.length_nil, List.length_replicate] at *; omega
  · have h := mk_len b [48] ((49 :: u) ++ (v ++ [53])) (101 :: ([] ++ decs (p + (49 :: u).length)))
    have h2 := hld (p + (49 :: u).length) (by rw [List.length_cons]; omega)
    unfold mu; simp only [List.length_cons, List.length_append, List.length_nil] at *; omega
  · intro h0
    subst h0
    have e0 : ((0 : Nat) : Int) - ((v ++ [53]).length : Int) = - ((v ++ [53]).length : Int) := by omega
    rw [e0] at V1 V4
    exact ⟨sam_yes V1 V2, sam_yes V2 V1, sam_yes V2 V4⟩
  · intro h0
    refine sam_no V1 V2 (fun g => ?_)
    have g2 := congrArg (fun x => x.2.2) g
    simp only at g2
    omega
set_option maxRecDepth 100000 in
set_option maxHeartbeats 8000000 in
theorem core_NumberMoved (H : NumOk) (A : Option Addr) (n c : Nat) (l : List Int) (B : Option Addr) (m d : Nat) (r : List Int) (a0 a1 a2 : Int) (w : World) (s : Sl .u8 w A n c l) (hb : IsB l) (t : Sl .u8 w B m d r) (hr : IsB r)
    (h00 : -9223372036854775808 ≤ a0) (h01 : a0 ≤ 9223372036854775807) (h10 : -9223372036854775808 ≤ a1) (h11 : a1 ≤ 9223372036854775807) (h20 : -9223372036854775808 ≤ a2) (h21 : a2 ≤ 9223372036854775807) :
    Calls Tryd.prog 6 #[.slice A n c, .slice B m d, .agg #[.int .i64 a0, .int .i64 a1, .int .i64 a2]] w fun e w' => e = .returned (.bool true) ∧ Below w.heap.size w w' := by
  have BR2 := bring_any a2 2 (by omega) (by omega) h20 h21
  obtain ⟨p, hp⟩ := Int.eq_ofNat_of_zero_le (Int.emod_nonneg a0 (b := 1000) (by omega))
  obtain ⟨k, hk⟩ := Int.eq_ofNat_of_zero_le (Int.emod_nonneg a1 (b := 20) (by omega))
  have hp2 := Int.emod_lt_of_pos a0 (b := 1000) (by omega)
  have hk2 := Int.emod_lt_of_pos a1 (b := 20) (by omega)
  obtain ⟨b, hj⟩ : ∃ b : Bool, a2 % 2 = if b then 1 else 0 := by
    rcases (show a2 % 2 = 0 ∨ a2 % 2 = 1 by omega) with h | h
    · exact ⟨false, h⟩
    · exact ⟨true, h⟩
  rw [hp] at hp2
  rw [hk] at hk2
  rw [hj] at BR2
  have DA := Lib.hid (fun (w' : World) (h : Below w.heap.size w w') => digits_any A n c l w' (s.below h) hb)
  have DB := Lib.hid (fun (w' : World) (h : Below w.heap.size w w') => digits_any B m d r w' (t.below h) hr)
  have MV := Lib.hid (mv (b := b) (dgt_ds l) (dgt_ds r) (dgt_len l) (dgt_len r) (p := p) (k := k) (by omega) (by omega))
  have HBR2 := Lib.hid BR2
  have hp3 : p < 1000 := by omega
  have hk3 : k < 20 := by omega
  have B0 := Lib.hid (below_alloc9 w (.cells #[.int .i64 a0, .int .i64 a1, .int .i64 a2] 34))
  have hq : (w.alloc (.cells #[.int .i64 a0, .int .i64 a1, .int .i64 a2] 34)).heap[w.heap.size]? = some (.cells #[.int .i64 a0, .int .i64 a1, .int .i64 a2] 34 (0, 0)) := heap_alloc_new w _
  obtain ⟨W0, hW0⟩ : ∃ W0, w.alloc (.cells #[.int .i64 a0, .int .i64 a1, .int .i64 a2] 34) = W0 := ⟨_, rfl⟩
  obtain ⟨Q, hQ⟩ : ∃ Q, w.heap.size = Q := ⟨_, rfl⟩
  rw [hW0] at B0 hq
  rw [hQ] at hq
  have HW0 := Lib.hid hW0
  have HQ := Lib.hid hQ
  have c0 : W0.cell? ⟨Q, 0, none⟩ = some (.int .i64 a0) := by simp only [World.cell?, hq]; rfl
  have c1 : W0.cell? ⟨Q, 1, none⟩ = some (.int .i64 a1) := by simp only [World.cell?, hq]; rfl
  have HC2 := Lib.hid (show W0.cell? ⟨Q, 2, none⟩ = some (.int .i64 a2) by simp only [World.cell?, hq]; rfl)
  have HP := Lib.hid hp
  have HK := Lib.hid hk
  clear hp hk hj hp2 hk2 BR2 s t hb hr h20 h21 hq hW0 hQ
  go_enter Tryd.func6, Tryd.ntmps6
  go_wp2_with fail
  rw [HW0.out, HQ.out]
  clear HW0
  go_quiet ((go_at_call 21; exact (bring_any _ _ (by decide) (by decide) (by assumption) (by assumption) _).mono (fun _ _ ⟨he, hw⟩ => ⟨he, _, hw.symm⟩)))
  rw [HP.out, HK.out]
  clear h00 h01 h10 h11
  have B1 := Lib.hid (Wd.below_drewN B0.out nq)
  have C2 : Hid (∀ w', Below W0.heap.size (W0.drewN nq) w' → w'.cell? ⟨Q, 2, none⟩ = some (.int .i64 a2)) := Lib.hid (fun w' h => (h.cell (p := ⟨Q, 2, none⟩) (lt_of_cell HC2.out)).trans HC2.out)
  have hs0 : (W0.drewN nq).heap.size = W0.heap.size := rfl
  obtain ⟨W1, hW1⟩ : ∃ W1, W0.drewN nq = W1 := ⟨_, rfl⟩
  rw [hW1] at B1 C2 hs0 ⊢
  have HS0 := Lib.hid hs0
  clear hW1 hs0 c0 c1 HC2 B0
  obtain ⟨DS, hDS⟩ : ∃ S, Dm.bs (dgt l) = S := ⟨_, rfl⟩
  obtain ⟨ES, hES⟩ : ∃ S, Dm.bs (dgt r) = S := ⟨_, rfl⟩
  have ds1 : DS.size ≤ 30 := by rw [← hDS, Dm.bs_size]; exact dgt_len l
  have es1 : ES.size ≤ 30 := by rw [← hES, Dm.bs_size]; exact dgt_len r
  rw [hDS] at DA
  rw [hES] at DB
  obtain ⟨AS, hA⟩ : ∃ S, (⟨#[49]⟩ : ByteArray) ++ DS = S := ⟨_, rfl⟩
  obtain ⟨BS, hB⟩ : ∃ S, ES ++ (⟨#[53]⟩ : ByteArray) = S := ⟨_, rfl⟩
  have HAS := Lib.hid (show AS = Dm.bs (49 :: dgt l) by rw [← hA, ← hDS, show (⟨#[49]⟩ : ByteArray) = Dm.bs [49] from rfl, bs_app]; rfl)
  have HBS := Lib.hid (show BS = Dm.bs (dgt r ++ [53]) by rw [← hB, ← hES, show (⟨#[53]⟩ : ByteArray) = Dm.bs [53] from rfl, bs_app])
  have as1 : AS.size ≤ 31 := by rw [HAS.out, Dm.bs_size, List.length_cons]; have := dgt_len l; omega
  have bs1 : BS.size ≤ 31 := by rw [HBS.out, Dm.bs_size, List.length_append]; have := dgt_len r; simp only [List.length_cons, List.length_nil]; omega
  clear hDS hES
  go_wp2_with fail
  refine (DA.out W1 B1.out).mono ?_
  rintro e w2 ⟨rfl, h2⟩
  have B2 := Lib.hid (ext9 B1.out h2)
  have D2 := Lib.hid h2
  clear h2
  go_wp2_with fail
  refine (DB.out w2 B2.out).mono ?_
  rintro e w3 ⟨rfl, h3⟩
  have B3 := Lib.hid (ext9 B2.out h3)
  have D3 := Lib.hid (ext9 D2.out h3)
  clear h3
  have c2 := C2.out w3 (by have h := D3.out; rwa [HS0.out] at h)
  go_wp2_with fail
  refine (HBR2.out w3).mono ?_
  rintro e w4 ⟨rfl, rfl⟩
  obtain ⟨SG, hSG⟩ : ∃ S, Dm.bs (sg b) = S := ⟨_, rfl⟩
  have sg1 : SG.size ≤ 1 := by rw [← hSG, Dm.bs_size]; cases b <;> decide
  have HSG := Lib.hid hSG
  clear hSG
  go_upto_if 31 with fail
  go_cut [11] from 28 to 31 (fun sx wx => sx = .string SG ∧ Hid (Below w.heap.size w wx))
  case first =>
    cases b with
    | true =>
      obtain rfl : (⟨#[45]⟩ : ByteArray) = SG := HSG.out
      go_wp2_with fail
      go_meet
      exact ⟨rfl, B3⟩
    | false =>
      obtain rfl : (⟨#[]⟩ : ByteArray) = SG := HSG.out
      go_wp2_with fail
      go_meet
      exact ⟨rfl, B3⟩
  case rest =>
    obtain ⟨rfl, B4⟩ := hcut
    clear B1 B2 B3 D2 D3 C2 c2 hA hB HBR2
    have TP := Lib.hid (fun w' => text_any p (by omega) w')
    have NK := Lib.hid (fun w' => noughts_any k (by omega) w')
    have TY := Lib.hid (fun w' => text_any ((dgt r ++ [53]).length + k) (by rw [List.length_append]; have := dgt_len r; simp only [List.length_cons, List.length_nil]; omega) w')
    have TU := Lib.hid (fun w' => text_any (p + (49 :: dgt l).length) (by rw [List.length_cons]; have := dgt_len l; omega) w')
    have eb : BS.size = (dgt r ++ [53]).length := by rw [HBS.out, Dm.bs_size]
    have ea : AS.size = (49 :: dgt l).length := by rw [HAS.out, Dm.bs_size]
    have SX := sum_x b (dgt l) (dgt r) p
    have SY := sum_y b (dgt l) (dgt r) k
    have SZ := sum_z b (dgt l) (dgt r) p k
    have SU := sum_u b (dgt l) (dgt r) p
    rw [HSG.out, ← HAS.out, ← HBS.out] at SX SY SZ SU
    rw [← eb] at SY TY
    rw [← ea] at SU TU
    have hld : ∀ n : Nat, n < 10000 → (Dm.bs (decs n)).size ≤ 4 := fun n hn => by rw [Dm.bs_size]; exact decs_len (k := 4) (by omega) (by omega)
    have l1 := hld p (by omega)
    have l2 := hld (BS.size + k) (by omega)
    have l3 := hld (p + AS.size) (by omega)
    have l4 : (Dm.bs (List.replicate k (48 : Int))).size ≤ 20 := by rw [Dm.bs_size, List.length_replicate]; omega
    rw [Int.natCast_add] at TY TU
    obtain ⟨T1, hT1⟩ : ∃ S, Dm.bs (decs p) = S := ⟨_, rfl⟩
    obtain ⟨T2, hT2⟩ : ∃ S, Dm.bs (decs (BS.size + k)) = S := ⟨_, rfl⟩
    obtain ⟨T3, hT3⟩ : ∃ S, Dm.bs (decs (p + AS.size)) = S := ⟨_, rfl⟩
    obtain ⟨T4, hT4⟩ : ∃ S, Dm.bs (List.replicate k (48 : Int)) = S := ⟨_, rfl⟩
    rw [hT1] at TP SX SZ l1
    rw [hT2] at TY SY l2
    rw [hT3] at TU SU l3
    rw [hT4] at NK SY SZ l4
    have HSX := Lib.hid SX
    have HSY := Lib.hid SY
    have HSZ := Lib.hid SZ
    have HSU := Lib.hid SU
    clear SX SY SZ SU hT1 hT2 hT3 hT4 hld eb ea
    go_wp2_with fail
    refine (TP.out _).mono ?_
    rintro e w5 ⟨rfl, h5⟩
    have B5 := Lib.hid (ext9 B4.out h5)
    clear h5 B4
    go_wp2_with fail
    refine (NK.out _).mono ?_
    rintro e w6 ⟨rfl, rfl⟩
    go_wp2_with fail
    refine (TY.out _).mono ?_
    rintro e w7 ⟨rfl, h7⟩
    have B7 := Lib.hid (ext9 B5.out h7)
    clear h7
    go_wp2_with fail
    refine (NK.out _).mono ?_
    rintro e w8 ⟨rfl, rfl⟩
    go_wp2_with fail
    refine (TP.out _).mono ?_
    rintro e w9 ⟨rfl, h9⟩
    have B9 := Lib.hid (ext9 B7.out h9)
    clear h9
    go_wp2_with fail
    refine (TU.out _).mono ?_
    rintro e w10 ⟨rfl, h10⟩
    have B10 := Lib.hid (ext9 B9.out h10)
    clear h10
    by_cases hp0 : p = 0
    · have hpi : (p : Int) = 0 := by omega
      obtain ⟨y1, y2, y3⟩ := MV.out.xy0 hp0
      have CXY := Lib.hid (same_at H _ _ _ _ _ HSX.out HSY.out MV.out.bx MV.out.bY (by have := MV.out.lx; omega) (by have := MV.out.lY; omega) y1)
      have CYX := Lib.hid (same_at H _ _ _ _ _ HSY.out HSX.out MV.out.bY MV.out.bx (by have := MV.out.lY; omega) (by have := MV.out.lx; omega) y2)
      have CXZ := Lib.hid (same_at H _ _ _ _ _ HSX.out HSZ.out MV.out.bx MV.out.bz (by have := MV.out.lx; omega) (by have := MV.out.lz; omega) MV.out.xz)
      have CZU := Lib.hid (same_at H _ _ _ _ _ HSZ.out HSU.out MV.out.bz MV.out.bu (by have := MV.out.lz; omega) (by have := MV.out.lu; omega) MV.out.zu)
      have CYU := Lib.hid (same_at H _ _ _ _ _ HSY.out HSU.out MV.out.bY MV.out.bu (by have := MV.out.lY; omega) (by have := MV.out.lu; omega) y3)
      go_wp2_with fail
      refine (CXY.out _).mono ?_
      rintro e v11 ⟨rfl, h11⟩
      have B11 := Lib.hid (ext9 B10.out h11)
      clear h11
      go_wp2_with fail
      refine (CYX.out _).mono ?_
      rintro e v12 ⟨rfl, h12⟩
      have B12 := Lib.hid (ext9 B11.out h12)
      clear h12
      go_wp2_with fail
      refine (CXZ.out _).mono ?_
      rintro e v13 ⟨rfl, h13⟩
      have B13 := Lib.hid (ext9 B12.out h13)
      clear h13
      go_wp2_with fail
      refine (CZU.out _).mono ?_
      rintro e v14 ⟨rfl, h14⟩
      have B14 := Lib.hid (ext9 B13.out h14)
      clear h14
      go_wp2_with fail
      refine (CYU.out _).mono ?_
      rintro e v15 ⟨rfl, h15⟩
      have B15 := Lib.hid (ext9 B14.out h15)
      clear h15
      go_wp2_with fail
      refine (awake9 H _).mono ?_
      rintro e v16 ⟨rfl, h16⟩
      have B16 := Lib.hid (ext9 B15.out h16)
      clear h16
      go_wp2
      go_ret
      exact ⟨by first | rfl | simp, B16.out⟩
    · have hpi : ¬ (p : Int) = 0 := by omega
      have CXY := Lib.hid (same_at H _ _ _ _ _ HSX.out HSY.out MV.out.bx MV.out.bY (by have := MV.out.lx; omega) (by have := MV.out.lY; omega) (MV.out.xy1 hp0))
      have CXZ := Lib.hid (same_at H _ _ _ _ _ HSX.out HSZ.out MV.out.bx MV.out.bz (by have := MV.out.lx; omega) (by have := MV.out.lz; omega) MV.out.xz)
      have CXU := Lib.hid (same_at H _ _ _ _ _ HSX.out HSU.out MV.out.bx MV.out.bu (by have := MV.out.lx; omega) (by have := MV.out.lu; omega) MV.out.xu)
      have CUZ := Lib.hid (same_at H _ _ _ _ _ HSU.out HSZ.out MV.out.bu MV.out.bz (by have := MV.out.lu; omega) (by have := MV.out.lz; omega) MV.out.uz)
      go_wp2_with fail
      refine (CXY.out _).mono ?_
      rintro e v11 ⟨rfl, h11⟩
      have B11 := Lib.hid (ext9 B10.out h11)
      clear h11
      go_wp2_with fail
      refine (CXZ.out _).mono ?_
      rintro e v12 ⟨rfl, h12⟩
      have B12 := Lib.hid (ext9 B11.out h12)
      clear h12
      go_wp2_with fail
      refine (CXU.out _).mono ?_
      rintro e v13 ⟨rfl, h13⟩
      have B13 := Lib.hid (ext9 B12.out h13)
      clear h13
      go_wp2_with fail
      refine (CUZ.out _).mono ?_
      rintro e v14 ⟨rfl, h14⟩
      have B14 := Lib.hid (ext9 B13.out h14)
      clear h14
      go_wp2_with fail
      refine (awake9 H _).mono ?_
      rintro e v15 ⟨rfl, h15⟩
      have B15 := Lib.hid (ext9 B14.out h15)
      clear h15
      go_wp2
      go_ret
      exact ⟨by first | rfl | simp, B15.out⟩
end Nu
end Go.Proofs.YtjgkaccmfdjffaaDoor
