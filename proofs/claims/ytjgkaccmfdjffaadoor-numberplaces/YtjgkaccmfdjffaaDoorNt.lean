/-
  The program's whole of layer 9; a range over a string of ASCII.
-/
import Derived.Test.YtjgkaccmfdjffaaDoorNs
import Derived.Lib.OthersKept
namespace Go.Proofs.YtjgkaccmfdjffaaDoor
set_option linter.unusedVariables false
set_option linter.unusedSimpArgs false
open Go.RowKit
namespace Nu
open Wd We Es
open Dm (Ds vl decs vl_pos vl_lt vl_next)

theorem bs_at {l : List Int} {q : Nat} {x : Int} (hx : l[q]? = some x) (h0 : 0 ≤ x) (h1 : x ≤ 255) (h : q < (Dm.bs l).size) : (((Dm.bs l)[q]'h).toNat : Int) = x := by
  have hj : q < l.length := lt_of_some hx
  have e : (Dm.bs l)[q]'h = UInt8.ofNat x.toNat := by
    show (Dm.bs l).data[q]'_ = _
    rw [List.getElem?_eq_getElem hj] at hx
    injection hx with hx
    simp [Dm.bs, hx]
  rw [e, UInt8.toNat_ofNat']; omega
theorem iterPos9 {w : World} {K p : Nat} {s : ByteArray} (h : w.heap[K]? = some (.stringIter s p)) : w.iterPos K = p := by simp only [World.iterPos, h]
/-- the next round of a range over ASCII -/
theorem next_asc {P : Program} {w : World} {K q : Nat} {l : List Int} {x : Int} (hk : w.heap[K]? = some (.stringIter (Dm.bs l) q)) (hx : l[q]? = some x) (h0 : 0 ≤ x) (h1 : x < 128) (ty : TypeId) :
    (Instr.next (.pointer (some ⟨K, 0, none⟩)) true ty).run P w = .ok (.tuple #[.bool true, .int .i64 q, .int .i32 x]) (w.iterAt K (Dm.bs l) (q + 1)) := by
  have hq : q < (Dm.bs l).size := by rw [Dm.bs_size]; exact lt_of_some hx
  have hb := bs_at hx h0 (by omega) hq
  rw [Lib.run_next_ascii_at w K (Dm.bs l) q ty hk hq (by omega), hb]

set_option maxRecDepth 100000 in
set_option maxHeartbeats 4000000 in
theorem whole_ok (d : List Int) (w : World) (hd : Ds d) (hn : d.length ≤ 16) :
    Calls Tryd.prog 37 #[.string (Dm.bs d)] w fun e w' => e = .returned (.int .i64 (vl d)) ∧ Below w.heap.size w w' := by
  have HD := Lib.hid hd
  obtain ⟨S, hS⟩ : ∃ S, Dm.bs d = S := ⟨_, rfl⟩
  have HS := Lib.hid hS
  have hsz : S.size = d.length := by rw [← hS]; exact Dm.bs_size d
  obtain ⟨N, hN⟩ : ∃ N, d.length = N := ⟨_, rfl⟩
  have HN := Lib.hid hN
  rw [hN] at hsz hn
  rw [hS]
  obtain ⟨K, hK⟩ : ∃ K, w.heap.size = K := ⟨_, rfl⟩
  have IT := Lib.hid (show (w.alloc (.stringIter S 0)).heap[K]? = some (.stringIter S 0) by rw [← hK]; exact World.iter_heap w S 0)
  have BI := Lib.hid (show Below K w (w.alloc (.stringIter S 0)) by rw [← hK]; exact below_alloc9 w _)
  rw [hK]
  have HK := Lib.hid hK
  have HSZ := Lib.hid hsz
  clear hd hS hN hK hsz
  go_enter Tryd.func37, Tryd.ntmps37
  go_wp2
  rw [HK.out]
  go_loopw [3] (fun nv wr => ∃ q : Nat, nv = .int .i64 (vl (d.take q)) ∧ q ≤ N ∧ Hid (wr.heap[K]? = some (.stringIter S q)) ∧ Hid (Below K w wr)) (fun _ wr => N - wr.iterPos K)
  case atStart => exact ⟨0, rfl, Nat.zero_le _, IT, BI⟩
  case round =>
    obtain ⟨q, rfl, hq, IT0, B0⟩ := hrel
    have hvb := vl_pre (i := q) HD.out HN.out hn
    obtain ⟨hv0, hv2⟩ := hvb
    by_cases hqN : q < N
    · have hql : q < d.length := by have := HN.out; omega
      obtain ⟨x, hx⟩ : ∃ x, d[q]? = some x := ⟨_, List.getElem?_eq_getElem hql⟩
      have hxd := HD.out x (List.mem_of_getElem? hx)
      obtain ⟨x0, x1⟩ := hxd
      have hnx0 : ∀ ty, (Instr.next (.pointer (some ⟨K, 0, none⟩)) true ty).run Tryd.prog wr = .ok (.tuple #[.bool true, .int .i64 q, .int .i32 x]) (wr.iterAt K S (q + 1)) := fun ty => by
        have h := next_asc (P := Tryd.prog) (l := d) (by rw [HS.out]; exact IT0.out) hx (by omega) (by omega) ty
        rw [HS.out] at h; exact h
      have hnv := vl_next hx
      have I20 := Lib.iterAt_heap wr K S q (q + 1) IT0.out
      have E20 := Lib.below_iterAt B0.out (k := K) (by omega) S (q + 1)
      obtain ⟨W2, hW2⟩ : ∃ W2, wr.iterAt K S (q + 1) = W2 := ⟨_, rfl⟩
      rw [hW2] at I20 E20 hnx0
      have I2 := Lib.hid I20
      have E2 := Lib.hid E20
      have hnx := hnx0
      have HM := Lib.hid (show N - W2.iterPos K < N - wr.iterPos K by rw [iterPos9 I20, iterPos9 IT0.out]; omega)
      obtain ⟨V, hV⟩ : ∃ V, vl (d.take q) = V := ⟨_, rfl⟩
      rw [hV] at hv0 hv2 hnv ⊢
      have HNV := Lib.hid hnv
      clear I20 E20 hW2 hnx0 hx hql hnv hV
      go_wp2
      exact ⟨⟨q + 1, by first | (rw [HNV.out]; done) | (rw [HNV.out]; go_num), by omega, I2, E2⟩, HM.out⟩
    · obtain rfl : q = N := by omega
      have hp : ¬ q < S.size := by rw [HSZ.out]; omega
      have hnx : ∀ ty, (Instr.next (.pointer (some ⟨K, 0, none⟩)) true ty).run Tryd.prog wr = _ := fun ty => Lib.run_next_end_at wr K S _ ty IT0.out hp
      have htk : d.take q = d := List.take_of_length_le (by have := HN.out; omega)
      rw [htk] at hv0 hv2 ⊢
      clear hp htk
      go_wp2
      go_ret
      exact ⟨rfl, B0.out⟩
end Nu
end Go.Proofs.YtjgkaccmfdjffaaDoor
