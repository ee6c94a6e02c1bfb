/-
  What Frame of package frame, and the document's Frame, compute.
-/
import Derived.Test.YtigiiofiajhnlaaGreatDoorHg
import Derived.Test.YtigiiofiajhnlaaGreatDoorFa
import Derived.ArgAppend
namespace Go.Proofs.YtigiiofiajhnlaaGreatDoor
set_option linter.unusedVariables false
open Go.RowKit
namespace Fa
open Wd We Dm Da Dc Dd It Hm Hb Hc Hd He Hg Fm

theorem below_drew {B : Nat} {a w : World} (h : Below B a w) : Below B a w.drew := ⟨h.os, h.tape, h.output, h.size, h.block⟩
/-- the block g: bytes that a conversion laid, with room behind them -/
def Hdr (e : TypeId) (w : World) (g n c : Nat) (l : List Int) : Prop := l.length = n ∧ n ≤ c ∧ c ≤ maxLen ∧ ∃ cur, w.heap[g]? = some (.cells cur e (c, c + 1)) ∧ cur.size = c ∧ cur.toList.take n = l.map (Value.int .u8)
theorem Hdr.lt {e : TypeId} {w : World} {g n c : Nat} {l : List Int} (h : Hdr e w g n c l) : g < w.heap.size := by
  obtain ⟨_, _, _, cur, h1, _⟩ := h
  exact (Array.getElem?_eq_some_iff.1 h1).1
theorem Hdr.cell {e : TypeId} {w : World} {g n c : Nat} {l : List Int} (h : Hdr e w g n c l) {j : Nat} {x : Int} (hx : l[j]? = some x) : w.cell? ⟨g, j, none⟩ = some (.int .u8 x) := by
  obtain ⟨h0, h1, h2, cur, h3, h4, h5⟩ := h
  have hj := lt_of_some hx
  have h6 : (cur.toList.take n)[j]? = some (.int .u8 x) := by rw [h5, List.getElem?_map, hx]; rfl
  rw [List.getElem?_take] at h6
  rw [cell_of_row _ _ _ _ _ _ h3]
  split at h6
  · simpa using h6
  · cases h6
theorem Hdr.sl {e : TypeId} {w : World} {g n c : Nat} {l : List Int} (h : Hdr e w g n c l) : Sl .u8 w (some ⟨g, 0, none⟩) n c l :=
  ⟨⟨h.1, fun _ => ⟨g, 0, rfl, fun j x hx => by rw [Nat.zero_add]; exact h.cell hx⟩⟩, h.2.1, h.2.2.1, fun e => by cases e⟩

theorem conv_row (w : World) {s : ByteArray} {l : List Int} (hs : s = bs l) (hb : IsB l) (hl : l.length ≤ maxLen) : ∃ c w',
    (convert 9 27 (.string s)).run Tryz.prog w = .ok (.slice (some ⟨w.heap.size, 0, none⟩) l.length c) w' ∧ Hdr 5 w' w.heap.size l.length c l ∧ Below w.heap.size w w' := by
  subst hs
  have hsz : (bs l).size = l.length := bs_size l
  have hc : (Lib.bytesCells w 5 (bs l)).size = grownCap w l.length 0 5 := by
    have := grownCap_ge w l.length 0 5
    simp only [Lib.bytesCells, Array.size_append, Array.size_map, Array.size_replicate, hsz]
    have h2 : (bs l).data.size = l.length := hsz
    rw [h2]; omega
  refine ⟨grownCap w l.length 0 5, _, ?_, ⟨rfl, grownCap_ge w _ 0 _, grownCap_le_maxLen w _ 0 _ hl, Lib.bytesCells w 5 (bs l), ?_, hc, ?_⟩, Lib.bytesWorld_below w 5 (bs l)⟩
  · rw [Lib.run_convert_string_bytes w 9 27 5 (bs l) Tryz.underlying9 Tryz.underlying27 Tryz.underlying5, bs_size]
  · rw [Lib.bytesWorld_at_new, hc]
  · have h1 : (Lib.bytesCells w 5 (bs l)).toList.take l.length = ((bs l).data.map fun b => Value.int .u8 b.toNat).toList := by
      simp only [Lib.bytesCells, Array.toList_append]
      rw [List.take_append_of_le_length (by simp; exact Nat.le_of_eq hsz.symm)]
      rw [List.take_of_length_le (by simp; exact Nat.le_of_eq hsz)]
    rw [h1]
    apply List.ext_getElem?
    intro j
    have : (bs l).data.toList = l.map fun n => UInt8.ofNat n.toNat := by simp [bs]
    simp only [Array.toList_map, this, List.map_map, List.getElem?_map]
    cases hx : l[j]? with
    | none => rfl
    | some x =>
      simp only [Option.map_some, Function.comp]
      congr 2
      exact byte_back (hb.at_ hx)

/-- append onto such a row -/
theorem wp_hdr {P : Program} {w : World} {ops : Array Oper} {rest : List Oper} {o : Oper} {a : Act} {Q : Exit → Act → World → Prop} (hgd : o.guard = none) (s x : Operand) (t : TypeId)
    (ho : o.op = .call { callee := .builtin .append, args := #[s, x], argTypes := #[t, t] })
    {e : TypeId} {i : TypeInfo} {z : Value} (ht : P.underlying t = some (.slice e)) (hi : P.info? e = some i) (hz : i.zero = some z) (hs1 : i.size = 1) (hby : i.bytes = 1) (hzc : z.cells.size = 1)
    {g n c0 : Nat} {l : List Int} (hs : a.eval s = .slice (some ⟨g, 0, none⟩) n c0) (hh : Hdr e w g n c0 l) {A : Option Addr} {m c : Nat} {r : List Int} (hx : a.eval x = .slice A m c) (hr : Sl .u8 w A m c r) (hb : n + m ≤ 1000000)
    (h : ∀ A' c' w', Sl .u8 w' A' (n + m) c' (l ++ r) → Below g w w' → wpList P ops Q rest (a.put o.dst (.slice A' (n + m) c')) w') : wpList P ops Q (o :: rest) a w := by
  have hl := hh.1
  have hrl : r.length = m := hr.len
  have hfin : ∀ {v : Value} {w' : World}, (Builtin.append_ #[t, t] o.type #[.slice (some ⟨g, 0, none⟩) n c0, .slice A m c]).run P w = .ok v w' → wpList P ops Q rest (a.put o.dst v) w' → wpList P ops Q (o :: rest) a w := fun hrun hk => by
    refine wpList_plain hgd fun K hK => ?_
    unfold Oper.wp execOp
    simp only [ho, resolve, invoke, builtin, Sem.run_bind, Sem.run_pure, Result.andThen_ok, List.map_toArray, List.map_cons, List.map_nil, hs, hx, hrun]
    exact hK _ _ hk
  rcases A with _ | ad
  · have hc := hr.nil rfl
    have hm : m = 0 := by have := hr.le; omega
    subst hm
    obtain rfl : r = [] := List.eq_nil_of_length_eq_zero hrl
    subst hc
    refine hfin (v := .slice (some ⟨g, 0, none⟩) (n + 0) c0) (w' := w) ?_ (h _ _ _ (by simpa using hh.sl) (Below.refl _ _))
    simp [Builtin.append_, run_underlying ht, sizeOf, typeInfo, hi, Builtin.lenOf, Builtin.firstCells, loadCells, hh.2.1, storeCells]
  · by_cases hroom : n + m ≤ c0
    · obtain ⟨_, h1, h2, cur, h3, h4, h5⟩ := id hh
      have hnews : (r.map (Value.int .u8)).length = m * i.size := by simp [hrl, hs1]
      have hcell : ∀ j, j < m → (w.cell? ⟨g, 0 + n * i.size + j, none⟩).isSome = true := fun j hj => by
        rw [cell_of_row _ _ _ _ _ _ h3, hs1, Array.getElem?_eq_getElem (by omega)]; rfl
      have hfz : ∀ j, j < m → w.frozen? ⟨g, 0 + n * i.size + j, none⟩ = false := fun j hj => by
        simp only [World.frozen?, h3, hs1]; simp; omega
      have hrun := run_append_room_cells (P := P) w t o.type e i ht hi g 0 n c0 ad m c (r.map (Value.int .u8)) hnews hr.cells (ints_oneCell .u8 r) hroom (fun j hj => hcell j (by simpa [hrl] using hj)) (fun j hj => hfz j (by simpa [hrl] using hj))
      rw [hs1] at hrun
      simp only [Nat.zero_add, Nat.mul_one] at hrun
      refine hfin hrun (h _ _ _ ⟨⟨by rw [List.length_append]; omega, fun _ => ⟨g, 0, rfl, fun j x hx => ?_⟩⟩, hroom, h2, fun e => by cases e⟩ ?_)
      · rw [Nat.zero_add]
        by_cases hj : j < n
        · rw [List.getElem?_append_left (by omega)] at hx
          rw [World.cell?_setCells_out g _ _ _ _ (fun _ _ => .inl hj)]
          exact hh.cell hx
        · rw [List.getElem?_append_right (by omega)] at hx
          have hj2 := lt_of_some hx
          have := World.cell?_setCells_in g (r.map (Value.int .u8)) n w (fun q hq => by have := hcell q (by simpa [hrl] using hq); rw [hs1] at this; simpa using this) (j - l.length) (by simpa using hj2)
          rw [show n + (j - l.length) = j by omega] at this
          rw [this]
          congr 1
          rw [List.getElem_map]
          rw [List.getElem?_eq_getElem hj2] at hx
          injection hx with hx
          rw [hx]
      · have : ∀ (vs : List Value) (o : Nat) (w0 : World), Below g w0 (w0.setCells g o vs) := by
          intro vs
          induction vs with
          | nil => intro o w0; exact Below.refl _ _
          | cons v vs ih => intro o w0; exact ((Below.refl g w0).setCell (p := ⟨g, o, none⟩) (Nat.le_refl _) v).trans (ih (o + 1) _)
        exact this _ _ _
    · obtain ⟨v', w', hrun, r1, r2⟩ := run_append_arg_grows (P := P) w t o.type e i z 1 1 ht hi hz hs1 hby hzc (by omega) ⟨g, 0, none⟩ n c0 (l.map (Value.int .u8)) (by simp [hl])
        (fun j u hu => by
          rw [List.getElem?_map] at hu
          cases hx : l[j]? with
          | none => rw [hx] at hu; cases hu
          | some y =>
            rw [hx] at hu; injection hu with hu; subst hu
            have := hh.cell hx
            by_cases h0 : j = 0
            · subst h0; simpa [Addr.add] using this
            · simpa [Addr.add, h0] using this)
        ad m c (r.map (Value.int .u8)) (by simp [hrl]) hr.cells (by omega) (by unfold maxLen; omega) (by omega)
      have hown : Wd.Own .u8 e w' w.heap.size v' (l ++ r) := by
        unfold Wd.Own
        rw [List.length_append, List.map_append, hl, hrl]
        exact r1
      obtain ⟨A', c', rfl, t', _⟩ := hown.sl
      have hlen : (l ++ r).length = n + m := by rw [List.length_append, hl, hrl]
      rw [hlen] at hrun t'
      exact hfin hrun (h _ _ _ t' ((Below.refl _ _).grown r2 (Nat.le_of_lt hh.lt) (fun k e => by cases e)))

set_option maxRecDepth 100000 in
set_option maxHeartbeats 1600000 in
theorem make_row (v : Nat) (h : v ≤ 65536) (w : World) (t : Tab w) :
    Calls Tryz.prog 15 #[.int .i64 v] w fun e w' => ∃ g c, e = .returned (.tuple #[.slice (some ⟨g, 0, none⟩) (hd v).length c, .int .i64 0]) ∧ w.heap.size ≤ g ∧ Hdr 5 w' g (hd v).length c (hd v) ∧ Below w.heap.size w w' := by
  have i0 : ¬ (65536 : Int) < (v : Int) := by omega
  have T := Lib.hid t
  have h5 := decs_five h
  clear t
  have k1 := add_bs (l := CL ++ [58, 32]) (r := decs v) (a := ⟨#[67, 111, 110, 116, 101, 110, 116, 45, 76, 101, 110, 103, 116, 104, 58, 32]⟩) (by show 16 + _ ≤ _; omega) rfl rfl
  have k2 := add_bs (l := (CL ++ [58, 32]) ++ decs v) (r := [13, 10]) (b := ⟨#[13, 10]⟩) (by rw [List.length_append]; show 16 + _ + 2 ≤ _; omega) rfl rfl
  have k3 := add_bs (l := (CL ++ [58, 32]) ++ decs v ++ [13, 10]) (r := [13, 10]) (b := ⟨#[13, 10]⟩) (by rw [List.length_append, List.length_append]; show 16 + _ + 2 + 2 ≤ _; omega) rfl rfl
  rw [← hd_eq] at k3
  generalize (CL ++ [58, 32]) ++ decs v ++ [13, 10] = l3 at *
  generalize (CL ++ [58, 32]) ++ decs v = l2 at *
  go_enter Tryz.func15, Tryz.ntmps15
  go_wp2_with fail
  refine (text_ok v (by omega) _ T.out).mono ?_
  rintro e w1 ⟨rfl, hb⟩
  have hhl := hd_length v
  obtain ⟨c, w2, kc, s2, hbl⟩ := conv_row w1 (s := bs (hd v)) rfl (hd_isB v) (by unfold maxLen; omega)
  have S2 := Lib.hid s2
  have HB := Lib.hid (ext_trans hb hbl)
  have hsz := hb.size
  clear s2 hbl hb hhl
  go_wp2
  go_ret2
  exact ⟨_, _, rfl, hsz, S2.out, HB.out⟩
set_option maxRecDepth 100000 in
set_option maxHeartbeats 1600000 in
theorem rmake_row (v : Nat) (h : v ≤ 65536) (w : World) :
    Calls Tryz.prog 34 #[.int .i64 v] w fun e w' => ∃ g c, e = .returned (.tuple #[.slice (some ⟨g, 0, none⟩) (hd v).length c, .int .i64 0]) ∧ w.heap.size ≤ g ∧ Hdr 5 w' g (hd v).length c (hd v) ∧ Below w.heap.size w w' := by
  have i0 : ¬ (65536 : Int) < (v : Int) := by omega
  have i1 : ¬ (v : Int) < 0 := by omega
  have h5 := decs_five h
  have k1 := add_bs (l := CL ++ [58, 32]) (r := decs v) (a := ⟨#[67, 111, 110, 116, 101, 110, 116, 45, 76, 101, 110, 103, 116, 104, 58, 32]⟩) (by show 16 + _ ≤ _; omega) rfl rfl
  have k2 := add_bs (l := (CL ++ [58, 32]) ++ decs v) (r := [13, 10, 13, 10]) (b := ⟨#[13, 10, 13, 10]⟩) (by rw [List.length_append]; show 16 + _ + 4 ≤ _; omega) rfl rfl
  have e2 : (CL ++ [58, 32]) ++ decs v ++ [13, 10, 13, 10] = hd v := by rw [hd_eq]; simp
  rw [e2] at k2
  generalize (CL ++ [58, 32]) ++ decs v = l2 at *
  clear e2
  go_enter Tryz.func34, Tryz.ntmps34
  go_wp2_with fail
  refine (rtext_ok v (by omega) _).mono ?_
  rintro e w1 ⟨rfl, hb⟩
  have hhl := hd_length v
  obtain ⟨c, w2, kc, s2, hbl⟩ := conv_row w1 (s := bs (hd v)) rfl (hd_isB v) (by unfold maxLen; omega)
  have S2 := Lib.hid s2
  have HB := Lib.hid (ext_trans hb hbl)
  have hsz := hb.size
  clear s2 hbl hb hhl
  go_wp2
  go_ret2
  exact ⟨_, _, rfl, hsz, S2.out, HB.out⟩

/-- a body with its header -/
def fr (l : List Int) : List Int := hd l.length ++ l
theorem fr_isB {l : List Int} (h : IsB l) : IsB (fr l) := (hd_isB _).append h
theorem fr_len (l : List Int) : (fr l).length = (hd l.length).length + l.length := by unfold fr; rw [List.length_append]
theorem fr_cut {l : List Int} (r : List Int) (h : l.length ≤ 65536) : cutF (fr l ++ r) = some (l, r) := by
  have e : prs (fr l ++ r) = ((l.length : Int), ((hd l.length).length : Int), 0) := by unfold fr; rw [List.append_assoc]; exact hd_behind h _
  have hl : (fr l ++ r).length = (hd l.length).length + l.length + r.length := by rw [List.length_append, fr_len]
  rw [cutF_yes e (by omega)]
  unfold fr
  rw [List.append_assoc, List.drop_left, List.take_left, ← List.drop_drop, List.drop_left, List.drop_left]

set_option maxRecDepth 100000 in
set_option maxHeartbeats 1600000 in
theorem frame_ok (A : Option Addr) (n c : Nat) (l : List Int) (w : World) (s : Sl .u8 w A n c l) (h : n ≤ 65536) (t : Tab w) :
    Calls Tryz.prog 7 #[.slice A n c] w fun e w' => ∃ A' c', e = .returned (.tuple #[.slice A' ((hd n).length + n) c', .int .i64 0]) ∧ Sl .u8 w' A' ((hd n).length + n) c' (fr l) ∧ Below w.heap.size w w' := by
  obtain ⟨i0, hi, hz0, hz1, hz2⟩ := info_parts u8_info
  have hlen := s.len
  have q1 : ¬ (65536 : Int) < (n : Int) := by omega
  have hhl : (hd n).length ≤ 39 := by rw [hd_length]; have := decs_five h; omega
  have CON := Lib.hid (make_row n h w t)
  have S := Lib.hid s
  have hfr := Lib.hid (show fr l = hd n ++ l by unfold fr; rw [hlen])
  clear s t hlen
  go_enter Tryz.func7, Tryz.ntmps7
  go_wp2_with fail
  refine CON.out.mono ?_
  rintro e w1 ⟨g, c1, rfl, hg, hh, hb⟩
  have HH := Lib.hid hh
  have S1 := Lib.hid (S.out.below hb)
  have HB := Lib.hid hb
  clear hh hb
  generalize hH : hd n = H at *
  generalize hL : H.length = L at *
  go_wp2_with (at_builtin; refine wp_hdr rfl _ _ _ rfl Tryz.underlying27 hi hz0 hz1 hz2 rfl (g := g) (n := L) (c0 := c1) (l := H) rfl HH.out (A := A) (m := n) (c := c) (r := l) rfl S1.out (by omega) ?_; intro A' c' w2 s2 hb2)
  have S2 := Lib.hid s2
  have HB2 := Lib.hid (HB.out.trans (hb2.mono hg))
  clear s2 hb2
  go_wp2
  go_ret2
  subst hL
  subst hH
  exact ⟨_, _, rfl, by rw [hfr.out]; exact S2.out, HB2.out⟩
set_option maxRecDepth 100000 in
set_option maxHeartbeats 800000 in
theorem frame_big (A : Option Addr) (n c : Nat) (w : World) (h : 65536 < n) :
    Calls Tryz.prog 7 #[.slice A n c] w fun e w' => e = .returned (.tuple #[.slice none 0 0, .int .i64 5]) ∧ w = w' := by
  have q1 : (65536 : Int) < (n : Int) := by omega
  go_enter Tryz.func7, Tryz.ntmps7
  go_wp2
  go_ret2
  exact ⟨rfl, rfl⟩

set_option maxRecDepth 100000 in
set_option maxHeartbeats 1600000 in
theorem rframe_ok (A : Option Addr) (n c : Nat) (l : List Int) (w : World) (s : Sl .u8 w A n c l) (h : n ≤ 65536) :
    Calls Tryz.prog 27 #[.slice A n c] w fun e w' => ∃ A' c', e = .returned (.tuple #[.slice A' ((hd n).length + n) c', .int .i64 0]) ∧ Sl .u8 w' A' ((hd n).length + n) c' (fr l) ∧ Below w.heap.size w w' := by
  obtain ⟨i0, hi, hz0, hz1, hz2⟩ := info_parts u8_info
  have hlen := s.len
  have hhl : (hd n).length ≤ 39 := by rw [hd_length]; have := decs_five h; omega
  have CON := Lib.hid (rmake_row n h w)
  have S := Lib.hid s
  have hfr := Lib.hid (show fr l = hd n ++ l by unfold fr; rw [hlen])
  clear s hlen
  go_enter Tryz.func27, Tryz.ntmps27
  go_wp2_with fail
  refine CON.out.mono ?_
  rintro e w1 ⟨g, c1, rfl, hg, hh, hb⟩
  have HH := Lib.hid hh
  have S1 := Lib.hid (S.out.below hb)
  have HB := Lib.hid hb
  clear hh hb
  generalize hH : hd n = H at *
  generalize hL : H.length = L at *
  go_wp2_with (at_builtin; refine wp_hdr rfl _ _ _ rfl Tryz.underlying27 hi hz0 hz1 hz2 rfl (g := g) (n := L) (c0 := c1) (l := H) rfl HH.out (A := A) (m := n) (c := c) (r := l) rfl S1.out (by omega) ?_; intro A' c' w2 s2 hb2)
  have S2 := Lib.hid s2
  have HB2 := Lib.hid (HB.out.trans (hb2.mono hg))
  clear s2 hb2
  go_wp2
  go_ret2
  subst hL
  subst hH
  exact ⟨_, _, rfl, by rw [hfr.out]; exact S2.out, HB2.out⟩
set_option maxRecDepth 100000 in
set_option maxHeartbeats 800000 in
theorem rframe_big (A : Option Addr) (n c : Nat) (w : World) (h : 65536 < n) :
    Calls Tryz.prog 27 #[.slice A n c] w fun e w' => e = .returned (.tuple #[.slice none 0 0, .int .i64 5]) ∧ w = w' := by
  have CON := Lib.hid (rmake_no n (.inr (by omega)) w)
  go_enter Tryz.func27, Tryz.ntmps27
  go_wp2_with fail
  refine CON.out.mono ?_
  rintro e w1 ⟨rfl, rfl⟩
  go_wp2
  go_ret2
  exact ⟨rfl, rfl⟩
end Fa
end Go.Proofs.YtigiiofiajhnlaaGreatDoor
