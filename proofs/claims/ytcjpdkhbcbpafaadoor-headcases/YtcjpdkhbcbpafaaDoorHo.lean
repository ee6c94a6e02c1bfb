/-
  Mathematics of HeadCases: the line that tells a number, however it is written, and the line of another name.
-/
import Derived.Test.YtcjpdkhbcbpafaaDoorHk
namespace Go.Proofs.YtcjpdkhbcbpafaaDoor
set_option linter.unusedVariables false
open Go.RowKit
namespace Ho
open Wd We Dm Da Dc Dd Hm Hb Hc Hd He Hg Hj Hk

/-- content-length, as the text has it -/
def clS : ByteArray := ⟨#[99, 111, 110, 116, 101, 110, 116, 45, 108, 101, 110, 103, 116, 104]⟩
theorem clS_lof : lof clS = cl := by decide
theorem clS_size : clS.size = 14 := rfl
/-- blanks, as the table has them -/
def blk : Nat → List Int
  | 0 => []
  | 1 => [32]
  | 2 => [9]
  | _ => [32, 9, 32]
theorem blk_len (j : Nat) : (blk j).length ≤ 3 := by unfold blk; split <;> simp
theorem blk_bl (j : Nat) : ∀ x ∈ blk j, isBl x = true := by
  unfold blk; split
  · exact List.all_eq_true.1 (by decide)
  · exact List.all_eq_true.1 (by decide)
  · exact List.all_eq_true.1 (by decide)
  · exact List.all_eq_true.1 (by decide)
theorem blk_isB (j : Nat) : IsB (blk j) := fun x hx => by
  have := blk_bl j x hx
  unfold isBl at this
  have := of_decide_eq_true this
  omega
theorem low_of {x y : Int} (h : MxR x y) (hx : 97 ≤ x ∧ x ≤ 122 ∨ x = 45) : low y = low x ∧ inN y = true ∧ 0 ≤ y ∧ y ≤ 255 := by
  unfold low inN
  rcases h with rfl | ⟨h1, h2, rfl⟩
  · refine ⟨rfl, decide_eq_true (by omega), by omega, by omega⟩
  · refine ⟨?_, decide_eq_true (by omega), by omega, by omega⟩
    rw [if_pos (by omega), if_neg (by omega)]; omega
theorem cl_mem : ∀ x ∈ cl, 97 ≤ x ∧ x ≤ 122 ∨ x = 45 := fun x hx => of_decide_eq_true (List.all_eq_true.1 (show cl.all (fun x => decide (97 ≤ x ∧ x ≤ 122 ∨ x = 45)) = true by decide) x hx)
theorem cl_low : cl.map low = cl := by decide
theorem mx_low {q : List Int} (h : Mx cl q) : q.map low = cl := by
  rw [← cl_low]
  refine List.ext_getElem? fun j => ?_
  rw [List.getElem?_map, List.getElem?_map]
  rcases Nat.lt_or_ge j cl.length with g | g
  · have g' : j < q.length := by rw [h.1]; exact g
    rw [List.getElem?_eq_getElem g, List.getElem?_eq_getElem g']
    have := low_of (h.2 j _ _ (List.getElem?_eq_getElem g) (List.getElem?_eq_getElem g')) (cl_mem _ (List.getElem_mem g))
    rw [Option.map_some, Option.map_some, this.1]
  · rw [List.getElem?_eq_none g, List.getElem?_eq_none (by rw [h.1]; exact g)]
theorem mx_inN {q : List Int} (h : Mx cl q) : ∀ a ∈ q, inN a = true := fun a ha => by
  obtain ⟨j, hj⟩ := List.mem_iff_getElem?.1 ha
  have g' := lt_of_some hj
  have g : j < cl.length := by rw [← h.1]; exact g'
  exact (low_of (h.2 j _ _ (List.getElem?_eq_getElem g) hj) (cl_mem _ (List.getElem_mem g))).2.1
theorem mx_len {q : List Int} (h : Mx cl q) : q.length = 14 := h.1
theorem mx_ne {q : List Int} (h : Mx cl q) : q ≠ [] := by
  intro e; have := h.1; rw [e] at this; cases this

/-- the line that tells v -/
def cline (q b1 : List Int) (v : Nat) (b2 : List Int) : List Int := q ++ (58 :: (b1 ++ (([48, 48] ++ decs v) ++ b2)))
theorem ds2 (v : Nat) : Ds ([48, 48] ++ decs v) := Ds.append (ds_noughts 2) (ds_decs v)
theorem vl2 (v : Nat) : vl ([48, 48] ++ decs v) = v := (vl_nought 2 (decs v)).trans (vl_decs v)
theorem cline_clean {q : List Int} (h : Mx cl q) (i j v : Nat) : Cl (cline q (blk i) v (blk j)) ∧ cline q (blk i) v (blk j) ≠ [] :=
  cl_line (mx_inN h) (inV_value (blk_bl i) (blk_bl j) (ds2 v))
theorem cline_tel {q : List Int} (h : Mx cl q) (i j : Nat) {v : Nat} (hv : v ≤ 65536) {told : Int} (ht : told = -1 ∨ told = v) : tel (cline q (blk i) v (blk j)) told = ((v : Int), 0) := by
  have hp : ps (trm (blk i ++ (([48, 48] ++ decs v) ++ blk j))) 65536 = ((v : Int), 0) := by
    rw [ps_value (blk_bl i) (blk_bl j) (ds2 v) (by simp) (by rw [vl2]; omega), vl2]
  unfold cline
  rw [tel_line told (mx_ne h) (mx_inN h) (inV_value (blk_bl i) (blk_bl j) (ds2 v)), fin_same (mx_low h) hp ht]
theorem cline_len {q : List Int} (h : Mx cl q) (i j : Nat) {v : Nat} (hv : v ≤ 65536) : (cline q (blk i) v (blk j)).length ≤ 42 := by
  have h1 := blk_len i
  have h2 := blk_len j
  have h3 := decs_five hv
  unfold cline
  simp [(mx_len h)]; omega
theorem lts_mem (l : List Int) : ∀ a ∈ lts l, 97 ≤ a ∧ a ≤ 122 := fun a ha => by
  obtain ⟨x, _, rfl⟩ := List.mem_map.1 ha
  omega
theorem lts_len (l : List Int) : (lts l).length ≤ 20 := by unfold lts; rw [List.length_map, List.length_take]; omega
theorem lts_inN (l : List Int) : ∀ a ∈ lts l, inN a = true := fun a ha => by
  have := lts_mem l a ha
  unfold inN; exact decide_eq_true (by omega)
theorem lts_inV (l : List Int) : ∀ a ∈ lts l, inV a = true := fun a ha => by
  have := lts_mem l a ha
  unfold inV; exact decide_eq_true (by omega)
theorem lts_isB (l : List Int) : IsB (lts l) := fun a ha => by have := lts_mem l a ha; omega

/-- the line of another name -/
def mline (o : List Int) : List Int := ([120, 45] ++ o) ++ (58 :: ([32] ++ o))
theorem mline_n (l : List Int) : ∀ a ∈ [120, 45] ++ lts l, inN a = true := fun a ha => by
  rcases List.mem_append.1 ha with g | g
  · exact List.all_eq_true.1 (show ([120, 45] : List Int).all inN = true by decide) a g
  · exact lts_inN l a g
theorem mline_v (l : List Int) : ∀ a ∈ [32] ++ lts l, inV a = true := fun a ha => by
  rcases List.mem_append.1 ha with g | g
  · exact List.all_eq_true.1 (show ([32] : List Int).all inV = true by decide) a g
  · exact lts_inV l a g
theorem mline_clean (l : List Int) : Cl (mline (lts l)) ∧ mline (lts l) ≠ [] := cl_line (mline_n l) (mline_v l)
theorem mline_tel (l : List Int) (told : Int) : tel (mline (lts l)) told = (told, 0) := by
  unfold mline
  rw [tel_line told (by simp) (mline_n l) (mline_v l)]
  unfold fin
  rw [if_neg]
  intro e
  have := congrArg List.head? e
  simp [cl, low] at this
theorem mline_len (l : List Int) : (mline (lts l)).length ≤ 44 := by
  have := lts_len l
  unfold mline; simp; omega

/-- the four headers -/
def four (L M : List Int) : Nat → List Int
  | 0 => L ++ [13, 10]
  | 1 => (M ++ L) ++ [13, 10]
  | 2 => (L ++ M) ++ [13, 10]
  | _ => ((L ++ L) ++ M) ++ [13, 10]
def lines (c m : List Int) : Nat → List (List Int)
  | 0 => [c]
  | 1 => [m, c]
  | 2 => [c, m]
  | _ => [c, c, m]
theorem four_eq (c m : List Int) (k : Nat) : four (wr [c]) (wr [m]) k = wr (lines c m k) ++ ([13, 10] ++ []) := by
  unfold four lines
  split <;> simp [wr]
theorem four_prs {c m : List Int} {v : Nat} (hc : Cl c ∧ c ≠ []) (hm : Cl m ∧ m ≠ []) (tc : ∀ told : Int, told = -1 ∨ told = (v : Int) → tel c told = ((v : Int), 0)) (tm : ∀ told, tel m told = (told, 0))
    (lc : c.length ≤ 42) (lm : m.length ≤ 44) (k : Nat) : prs (four (wr [c]) (wr [m]) k) = ((v : Int), ((four (wr [c]) (wr [m]) k).length : Int), 0) := by
  have hne : ¬ (v : Int) = -1 := by omega
  have hcl : ∀ z ∈ lines c m k, Cl z ∧ z ≠ [] := fun z hz => by
    have : z = c ∨ z = m := by
      unfold lines at hz
      split at hz <;> simp at hz
      · exact .inl hz
      · exact hz.symm
      · exact hz
      · exact hz
    rcases this with rfl | rfl
    · exact hc
    · exact hm
  have h0 : lines c m k ≠ [] := by unfold lines; split <;> simp
  have hl : (wr (lines c m k)).length + 2 ≤ 512 := by
    unfold lines
    split <;> simp [wr] <;> omega
  have eg : go (-1) (lines c m k) = ((v : Int), 0) := by
    unfold lines
    split
    · rw [go_on (tc _ (.inl rfl)), go_nil, if_neg hne]
    · rw [go_on (tm _), go_on (tc _ (.inl rfl)), go_nil, if_neg hne]
    · rw [go_on (tc _ (.inl rfl)), go_on (tm _), go_nil, if_neg hne]
    · rw [go_on (tc _ (.inl rfl)), go_on (tc _ (.inr rfl)), go_on (tm _), go_nil, if_neg hne]
  rw [four_eq, prs_wr [] h0 hcl hl, eg, if_pos rfl, List.length_append]
  rfl
theorem four_len {L M : List Int} (hL : L.length ≤ 44) (hM : M.length ≤ 46) (k : Nat) : (four L M k).length ≤ 200 := by
  unfold four
  split <;> simp <;> omega
theorem four_isB {L M : List Int} (hL : IsB L) (hM : IsB M) (k : Nat) : IsB (four L M k) := by
  have e : IsB [13, 10] := isB_all (by decide)
  unfold four
  split
  · exact hL.append e
  · exact (hM.append hL).append e
  · exact (hL.append hM).append e
  · exact ((hL.append hL).append hM).append e
theorem wr_one (x : List Int) : wr [x] = x ++ [13, 10] := by rw [wr_cons, wr_nil, List.append_nil]
theorem line_eq (q b1 : List Int) (v : Nat) (b2 : List Int) : (((((q ++ [58]) ++ b1) ++ [48, 48]) ++ decs v) ++ b2) ++ [13, 10] = wr [cline q b1 v b2] := by
  rw [wr_one]; unfold cline; simp
theorem more_eq (o : List Int) : ((([120, 45] ++ o) ++ [58, 32]) ++ o) ++ [13, 10] = wr [mline o] := by
  rw [wr_one]; unfold mline; simp
theorem cline_isB {q : List Int} (hq : IsB q) (i v j : Nat) : IsB (wr [cline q (blk i) v (blk j)]) := by
  rw [← line_eq]
  exact (((((hq.append (isB_all (by decide))).append (blk_isB i)).append (isB_all (by decide))).append (isB_decs v)).append (blk_isB j)).append (isB_all (by decide))
theorem mline_isB (l : List Int) : IsB (wr [mline (lts l)]) := by
  rw [← more_eq]
  have := lts_isB l
  exact ((((isB_all (by decide)).append this).append (isB_all (by decide))).append this).append (isB_all (by decide))
/-- the number's text, cut out of Make's header -/
theorem hd_text (v : Nat) : ((hd v).drop 16).take ((hd v).length - 20) = decs v := by
  have e : hd v = (CL ++ [58, 32]) ++ (decs v ++ ([13, 10] ++ [13, 10])) := by rw [hd_eq]; simp
  have e1 : (hd v).drop 16 = decs v ++ ([13, 10] ++ [13, 10]) := by rw [e]; exact List.drop_left' rfl
  rw [e1, hd_length, Nat.add_sub_cancel_left, List.take_left]

/-- what sums of strings are, with the sums between them left as letters -/
def SumS (a b c : ByteArray) : Prop := ∀ (P : Program) (w : World), (Op.stringOp .add a b).run P w = .ok (.string c) w
theorem sum_bs {l r : List Int} (h : l.length + r.length ≤ 100000) {a b : ByteArray} (ha : a = bs l) (hb : b = bs r) : SumS a b (bs (l ++ r)) := add_bs (by omega) ha hb
theorem line_sums {q : List Int} (h : Mx cl q) (i j : Nat) {v : Nat} (hv : v ≤ 65536) : ∃ s1 s2 s3 s4 s5,
    SumS (bs q) ⟨#[58]⟩ s1 ∧ SumS s1 (bs (blk i)) s2 ∧ SumS s2 ⟨#[48, 48]⟩ s3 ∧ SumS s3 (bs (decs v)) s4 ∧ SumS s4 (bs (blk j)) s5 ∧ SumS s5 ⟨#[13, 10]⟩ (bs (wr [cline q (blk i) v (blk j)])) := by
  have h1 := blk_len i
  have h2 := blk_len j
  have h3 := decs_five hv
  have h4 := mx_len h
  rw [← line_eq]
  exact ⟨_, _, _, _, _, sum_bs (by simp; omega) rfl rfl, sum_bs (by simp; omega) rfl rfl, sum_bs (by simp; omega) rfl rfl, sum_bs (by simp; omega) rfl rfl, sum_bs (by simp; omega) rfl rfl, sum_bs (by simp; omega) rfl rfl⟩
theorem more_sums (l : List Int) : ∃ s1 s2 s3,
    SumS ⟨#[120, 45]⟩ (bs (lts l)) s1 ∧ SumS s1 ⟨#[58, 32]⟩ s2 ∧ SumS s2 (bs (lts l)) s3 ∧ SumS s3 ⟨#[13, 10]⟩ (bs (wr [mline (lts l)])) := by
  have h1 := lts_len l
  rw [← more_eq]
  exact ⟨_, _, _, sum_bs (l := [120, 45]) (by simp; omega) rfl rfl, sum_bs (by simp; omega) rfl rfl, sum_bs (by simp; omega) rfl rfl, sum_bs (by simp; omega) rfl rfl⟩
theorem four_sums {L M : List Int} (hL : L.length ≤ 44) (hM : M.length ≤ 46) : ∃ s1 s2 s3 s4,
    SumS (bs L) ⟨#[13, 10]⟩ (bs (four L M 0)) ∧ SumS (bs M) (bs L) s1 ∧ SumS s1 ⟨#[13, 10]⟩ (bs (four L M 1)) ∧ SumS (bs L) (bs M) s2 ∧ SumS s2 ⟨#[13, 10]⟩ (bs (four L M 2)) ∧ SumS (bs L) (bs L) s3 ∧ SumS s3 (bs M) s4 ∧ SumS s4 ⟨#[13, 10]⟩ (bs (four L M 3)) :=
  ⟨_, _, _, _, sum_bs (by simp; omega) rfl rfl, sum_bs (by omega) rfl rfl, sum_bs (by simp; omega) rfl rfl, sum_bs (by omega) rfl rfl, sum_bs (by simp; omega) rfl rfl, sum_bs (by omega) rfl rfl, sum_bs (by simp; omega) rfl rfl, sum_bs (by simp; omega) rfl rfl⟩

/-- a table of strings in block X; three numbers in block X -/
def TbL (X : Nat) (F : Nat → List Int) (n : Nat) (w : World) : Prop := ∀ k < n, w.cell? ⟨X, k, none⟩ = some (.string (bs (F k)))
theorem TbL.ext {X : Nat} {F : Nat → List Int} {n : Nat} {w w' : World} (h : TbL X F n w) (hb : Below w.heap.size w w') : TbL X F n w' := fun k hk => by
  have hc := h k hk
  exact (hb.cell (lt_of_cell hc)).trans hc
theorem tbL_four (w : World) (F : Nat → List Int) (t : TypeId) {a b c d : ByteArray} (ha : a = bs (F 0)) (hb : b = bs (F 1)) (hc : c = bs (F 2)) (hd : d = bs (F 3)) : TbL w.heap.size F 4 (w.alloc (.cells #[.string a, .string b, .string c, .string d] t)) := fun k hk => by
  subst ha hb hc hd
  rw [cell_of_row _ _ _ _ _ _ (heap_alloc_new w _)]
  match k, hk with
  | 0, _ => rfl
  | 1, _ => rfl
  | 2, _ => rfl
  | 3, _ => rfl
structure How (X : Nat) (a b c : Int) (w : World) : Prop where
  lt : X < w.heap.size
  at0 : w.cell? ⟨X, 0, none⟩ = some (.int .i64 a)
  at1 : w.cell? ⟨X, 1, none⟩ = some (.int .i64 b)
  at2 : w.cell? ⟨X, 2, none⟩ = some (.int .i64 c)
theorem How.ext {X : Nat} {a b c : Int} {w w' : World} (h : How X a b c w) (hb : Below w.heap.size w w') : How X a b c w' :=
  ⟨Nat.lt_of_lt_of_le h.lt hb.size, (hb.cell (p := ⟨X, 0, none⟩) h.lt).trans h.at0, (hb.cell (p := ⟨X, 1, none⟩) h.lt).trans h.at1, (hb.cell (p := ⟨X, 2, none⟩) h.lt).trans h.at2⟩
theorem how_new (w : World) (a b c : Int) (t : TypeId) : How w.heap.size a b c (w.alloc (.cells #[.int .i64 a, .int .i64 b, .int .i64 c] t)) := by
  refine ⟨by simp, ?_, ?_, ?_⟩
  · rw [cell_of_row _ _ _ _ _ _ (heap_alloc_new w _)]; rfl
  · rw [cell_of_row _ _ _ _ _ _ (heap_alloc_new w _)]; rfl
  · rw [cell_of_row _ _ _ _ _ _ (heap_alloc_new w _)]; rfl
end Ho
end Go.Proofs.YtcjpdkhbcbpafaaDoor
