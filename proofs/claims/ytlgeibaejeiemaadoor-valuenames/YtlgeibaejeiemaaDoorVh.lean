/-
  A list of values that is put together one by one, each in blocks of its own. Nothing of the program is named here.
-/
import Derived.Test.YtlgeibaejeiemaaDoorVg
import Derived.Test.YtlgeibaejeiemaaDoorWg
import Derived.Maps.AppendAt
namespace Go.Proofs.YtlgeibaejeiemaaDoor.Vt
set_option linter.unusedVariables false
set_option linter.unusedSimpArgs false
open Go.RowKit Wd

section
variable {P : Program} {ops : Array Oper} {Q : Exit → Act → World → Prop} {md : Region.Mode} {S : World → Prop} {held : List Nat}
/-- number i appends to a row of the call's own; where the row lies then -/
theorem any_appA (i : Nat) (d : Tmp) {o : Oper} {f : Nat} {L : Array Bool} {a : Act} {w : World} (hr : Region.ready md ops L = [i]) (ho : ops[i]? = some o) (hd : o.dst = some d) (hw : Region.wanted o (yielded ops a.tmps) = true)
    (s x : Operand) (t : TypeId) (hop : o.op = Op.call { callee := Callee.builtin Builtin.append, args := #[s, x], argTypes := #[t, t] })
    (base : Nat) (e : TypeId) (ti : TypeInfo) (z : Value) (size bytes : Nat) (h1 : P.underlying t = some (.slice e)) (h2 : P.info? e = some ti) (h3 : ti.zero = some z) (h4 : ti.size = size) (h5 : ti.bytes = bytes) (h6 : z.cells.size = size) (h7 : 0 < size)
    (v : Value) (k : Nat) (xs : List Value) (hs : a.eval s = v) (hown : w.ownsRow base e size v k xs) (ad : Addr) (m c : Nat) (news : List Value) (hx : a.eval x = .slice (some ad) m c) (hn : news.length = m * size)
    (hc : ∀ j u, news[j]? = some u → w.cell? (ad.add j) = some u) (h1c : ∀ u ∈ news, u.oneCell' = true) (b1 : k + m ≤ maxLen) (b2 : (k + m) * bytes ≤ 140737488355328) (b3 : base ≤ w.heap.size)
    (h : ∀ v' w', w'.ownsRow base e size v' (k + m) (xs ++ news) → w.grownBy w' v.ownBlock → (v'.ownBlock = v.ownBlock ∨ v'.ownBlock = some w.heap.size) → (Late md ops held i ∨ S w') ∧ anyG P md ops Q S held f (L.setIfInBounds i true) (a.put (some d) v') w') : anyG P md ops Q S held (f + 1) L a w := by
  obtain ⟨v', w', hrun, r1, r2, r3, r4⟩ := run_append_own_at (P := P) w base t o.type e ti z size bytes h1 h2 h3 h4 h5 h6 h7 v k xs hown ad m c news hn hc h1c b1 b2 b3
  refine any_one i hr ho hw fun K' hK => ?_
  have := h v' w' r1 r2 r4
  unfold Oper.wp
  simp [execOp, hop, resolve, invoke, builtin, hs, hx, hrun, Result.andThen]
  rw [Oper.upon_value, hd]
  exact hK _ _ this.1 this.2
end
/-- the first i values of a list are there -/
structure CI (e es : TypeId) (w : World) (P : Nat) (X : Value) (i : Nat) (l : List Tr) (xs : List Value) (U : Nat → Value) (lo hi : Nat → Nat) : Prop where
  own : w.ownsRow (P + 1) e 5 X i xs
  at_ : ∀ j, j < i → ∀ o, o < 5 → xs[j * 5 + o]? = (U j).cells.toList[o]?
  el : ∀ j t, j < i → l[j]? = some t → OV e es w (fun x => lo j ≤ x ∧ x < hi j) (U j) t
  inn : ∀ j, j < i → P + 1 ≤ lo j ∧ hi j ≤ w.heap.size
  asc : ∀ j j', j < j' → j' < i → hi j ≤ lo j'
  out : ∀ g, X.ownBlock = some g → ∀ j, j < i → ¬ (lo j ≤ g ∧ g < hi j)
theorem CI.nil {e es : TypeId} {w : World} {P : Nat} {l : List Tr} : CI e es w P (.slice none 0 0) 0 l [] (fun _ => .nilIface) (fun _ => 0) (fun _ => 0) :=
  ⟨World.ownsRow_nil _ _ _ _, fun j h => absurd h (Nat.not_lt_zero j), fun j t h => absurd h (Nat.not_lt_zero j), fun j h => absurd h (Nat.not_lt_zero j), fun j j' _ h => absurd h (Nat.not_lt_zero j'), fun g h j hj => absurd hj (Nat.not_lt_zero j)⟩
theorem CI.below {e es : TypeId} {w w' : World} {P : Nat} {X : Value} {i : Nat} {l : List Tr} {xs : List Value} {U : Nat → Value} {lo hi : Nat → Nat} (h : CI e es w P X i l xs U lo hi) (hb : Below w.heap.size w w') : CI e es w' P X i l xs U lo hi := by
  have hg : w.grownBy w' none := ⟨hb.os, hb.tape, hb.output, hb.size, fun k hk _ => hb.block k hk⟩
  exact ⟨h.own.kept hg (by cases X.ownBlock <;> simp), h.at_, fun j t hj ht => (h.el j t hj ht).kept t fun x hx => hb.block x (by have := (h.inn j hj).2; omega), fun j hj => ⟨(h.inn j hj).1, Nat.le_trans (h.inn j hj).2 hb.size⟩, h.asc, h.out⟩
theorem CI.step {e es : TypeId} {w w8 w5 : World} {P : Nat} {X X' : Value} {i : Nat} {l : List Tr} {xs : List Value} {U : Nat → Value} {lo hi : Nat → Nat} {t : Tr} {u0 u1 u2 u3 u4 : Value} {o : Obj} (h : CI e es w P X i l xs U lo hi) (hP : P + 1 ≤ w.heap.size)
    (hb : Below w.heap.size w w8) (ht : l[i]? = some t) (hu : OV e es w8 (fun x => w.heap.size ≤ x ∧ x < w8.heap.size) (.agg #[u0, u1, u2, u3, u4]) t)
    (hown : w5.ownsRow (P + 1) e 5 X' (i + 1) (xs ++ [u0, u1, u2, u3, u4])) (hg : (w8.alloc o).grownBy w5 X.ownBlock) (hat : X'.ownBlock = X.ownBlock ∨ X'.ownBlock = some (w8.alloc o).heap.size) (hxl : xs.length = i * 5) (c : Nat) (y : Value) :
    CI e es (w5.setCell ⟨P, c, none⟩ y) P X' (i + 1) l (xs ++ [u0, u1, u2, u3, u4]) (fun j => if j = i then .agg #[u0, u1, u2, u3, u4] else U j) (fun j => if j = i then w.heap.size else lo j) (fun j => if j = i then w8.heap.size else hi j) := by
  have hs8 := hb.size
  have hsa : (w8.alloc o).heap.size = w8.heap.size + 1 := World.size_alloc _ _
  have hs5 := hg.size
  have hset : ∀ x, x ≠ P → (w5.setCell ⟨P, c, none⟩ y).heap[x]? = w5.heap[x]? := fun x hx => Below.heap_setCell _ _ _ _ (fun g => hx g)
  have hset2 : (w5.setCell ⟨P, c, none⟩ y).heap.size = w5.heap.size := by simp [World.setCell]
  have hgP : w5.grownBy (w5.setCell ⟨P, c, none⟩ y) (some P) := ⟨rfl, rfl, rfl, by rw [hset2]; exact Nat.le_refl _, fun k _ hk => hset k (fun g => hk (by simp [g]))⟩
  have hXlt : ∀ g, X.ownBlock = some g → P + 1 ≤ g ∧ g < w.heap.size := fun g hg => World.ownsRow.lt h.own g hg
  have hX'ge : ∀ g, X'.ownBlock = some g → P + 1 ≤ g := fun g hg => (World.ownsRow.lt hown g hg).1
  have old : ∀ x, P + 1 ≤ x → x < w8.heap.size → (∀ g, X.ownBlock = some g → x ≠ g) → (w5.setCell ⟨P, c, none⟩ y).heap[x]? = w8.heap[x]? := fun x h1 h2 h3 => by
    rw [hset x (by omega), hg.block x (by omega) (fun q => h3 x q.symm rfl), ((Below.refl w8.heap.size w8).alloc (Nat.le_refl _) o).block x h2]
  refine ⟨hown.kept hgP (.inr fun q => by have := hX'ge P q; omega), fun j hj o ho => ?_, fun j t' hj ht' => ?_, fun j hj => ?_, fun j j' hjj hj' => ?_, fun g hgX j hj => ?_⟩
  · by_cases hji : j = i
    · subst hji
      simp only [if_true]
      rw [List.getElem?_append_right (by omega), hxl, Nat.add_sub_cancel_left]
      rfl
    · rw [if_neg hji, List.getElem?_append_left (by rw [hxl]; have : j + 1 ≤ i := by omega
                                                    have := Nat.mul_le_mul_right 5 this; omega)]
      exact h.at_ j (by omega) o ho
  · by_cases hji : j = i
    · subst hji
      simp only [if_true]
      obtain rfl : t' = t := by rw [ht] at ht'; injection ht' with ht'; exact ht'.symm
      exact hu.kept t' fun x hx => old x (by omega) hx.2 (fun g hg' => by have := (hXlt g hg').2; omega)
    · simp only [if_neg hji]
      have hi2 := h.inn j (by omega)
      refine (h.el j t' (by omega) ht').kept t' fun x hx => ?_
      rw [old x (by omega) (by omega) (fun g hg' q => h.out g hg' j (by omega) (by rw [← q]; exact hx))]
      exact hb.block x (by omega)
  · by_cases hji : j = i
    · simp only [if_pos hji, hset2]; omega
    · simp only [if_neg hji, hset2]
      have := h.inn j (by omega)
      omega
  · by_cases hji : j' = i
    · have hne : ¬ j = i := by omega
      simp only [if_pos hji, if_neg hne]
      exact (h.inn j (by omega)).2
    · have hne : ¬ j = i := by omega
      simp only [if_neg hji, if_neg hne]
      exact h.asc j j' hjj (by omega)
  · rcases hat with hq | hq
    · rw [hq] at hgX
      have hlt := hXlt g hgX
      by_cases hji : j = i
      · simp only [if_pos hji]; omega
      · simp only [if_neg hji]; exact h.out g hgX j (by omega)
    · rw [hq] at hgX
      injection hgX with hgX
      by_cases hji : j = i
      · simp only [if_pos hji]; omega
      · simp only [if_neg hji]
        have := (h.inn j (by omega)).2
        omega
/-- all are there, and the names: the value -/
theorem CI.fin {e es : TypeId} {w : World} {P m : Nat} {X Y : Value} {k : Int} {b : Bool} {s : ByteArray} {l : List Tr} {n : List ByteArray} {xs : List Value} {U : Nat → Value} {lo hi : Nat → Nat} {T : Nat → Prop} (h : CI e es w P X m l xs U lo hi)
    (hk : -9223372036854775808 ≤ k ∧ k ≤ 9223372036854775807) (hs : s.size ≤ 140737488351232) (hl : l.length = m) (hz : m * 80 ≤ 140737488351232)
    (hT : ∀ x, P + 1 ≤ x → x < w.heap.size → T x) (B : Option Addr) (q d : Nat) (hY : Y = .slice B q d) (hn : Nm w B q d n)
    (hB : q ≠ 0 → ∃ g ch, B = some ⟨g, 0, none⟩ ∧ P + 1 ≤ g ∧ g < w.heap.size ∧ w.heap[g]? = some (.cells ch es (0, 0)) ∧ (∀ j, j < m → hi j ≤ g) ∧ X.ownBlock ≠ some g) :
    ∃ A c, X = .slice A m c ∧ OV e es w T (.agg #[.int .i64 k, .bool b, .string s, X, Y]) (.mk k b s l n) := by
  subst hY
  obtain ⟨hxl, hown⟩ := h.own
  obtain ⟨g0, ch0, hnat0⟩ : ∃ g0 ch0, q ≠ 0 → B = some ⟨g0, 0, none⟩ ∧ P + 1 ≤ g0 ∧ g0 < w.heap.size ∧ w.heap[g0]? = some (.cells ch0 es (0, 0)) ∧ (∀ j, j < m → hi j ≤ g0) ∧ X.ownBlock ≠ some g0 := by
    by_cases hq : q = 0
    · exact ⟨0, #[], fun g => absurd hq g⟩
    · obtain ⟨g, ch, h1⟩ := hB hq
      exact ⟨g, ch, fun _ => h1⟩
  rcases hown with ⟨rfl, rfl⟩ | ⟨g, cap, cu, rfl, hPg, hgc, hnc, hcm, hcs, htk⟩
  · obtain rfl : l = [] := List.eq_nil_of_length_eq_zero hl
    refine ⟨none, 0, rfl, OV.mk (g0 + 1) g0 #[] ch0 (fun _ => .nilIface) (fun _ _ => False) hk hs rfl (Nat.le_refl _) (Nat.zero_le _) (fun _ => rfl) hz (fun g => absurd rfl g) (fun i hi => absurd hi (Nat.not_lt_zero i)) (fun i t ht => by cases ht) (fun i hi => absurd hi (Nat.not_lt_zero i)) (fun i j _ hj => absurd hj (Nat.not_lt_zero j)) hn (fun hq => ?_)⟩
    obtain ⟨h1, h2, h3, h4, _, _⟩ := hnat0 hq
    exact ⟨h1, hT _ h2 h3, by omega, h4⟩
  · have hglt : g < w.heap.size := (Array.getElem?_eq_some_iff.1 hgc).1
    have hcell : ∀ j, j < m → ∀ o, o < 5 → w.cell? ⟨g, j * 5 + o, none⟩ = (U j).cells.toList[o]? := fun j hj o ho => by
      rw [← h.at_ j hj o ho, ← htk, List.getElem?_take, if_pos (by have := Nat.mul_le_mul_right 5 (show j + 1 ≤ m by omega); omega)]
      simp only [World.cell?, hgc]
      simp
    refine ⟨some ⟨g, 0, none⟩, cap, rfl, OV.mk g (if q = 0 then w.heap.size else g0) cu ch0 U (fun j x => lo j ≤ x ∧ x < hi j) hk hs hl hnc hcm (fun e => by cases e) hz (fun _ => ⟨rfl, hT _ hPg hglt, hgc⟩) (fun i hi => ?_) (fun i t ht => ?_) (fun i hi x hx => ⟨?_, ?_, ?_⟩) (fun i j hij hj x hx hy => ?_) hn (fun hq => ?_)⟩
    · have hil : i < l.length := by omega
      have hv := (h.el i l[i] hi (List.getElem?_eq_getElem hil)).vl
      obtain ⟨A', m', c', B', q', d', hU, _⟩ := hv.open_
      have k0 := hcell i hi 0 (by omega)
      have k1 := hcell i hi 1 (by omega)
      have k2 := hcell i hi 2 (by omega)
      have k3 := hcell i hi 3 (by omega)
      have k4 := hcell i hi 4 (by omega)
      rw [hU] at k0 k1 k2 k3 k4 ⊢
      simp only [Value.cells] at k0 k1 k2 k3 k4
      rw [Nat.zero_add]
      exact ⟨_, _, _, _, _, rfl, by simpa using k0, by simpa using k1, by simpa using k2, by simpa using k3, by simpa using k4⟩
    · exact h.el i t (Nat.lt_of_lt_of_eq (List.getElem?_eq_some_iff.1 ht).1 hl) ht
    · have := h.inn i hi; exact hT x (by omega) (by omega)
    · intro e; exact h.out g rfl i hi (by rw [← e]; exact hx)
    · intro e
      have hin := h.inn i hi
      by_cases hq : q = 0
      · rw [if_pos hq] at e; omega
      · rw [if_neg hq] at e
        have := (hnat0 hq).2.2.2.2.1 i hi
        omega
    · have := h.asc i j hij hj; omega
    · rw [if_neg hq]
      obtain ⟨h1, h2, h3, h4, _, h6⟩ := hnat0 hq
      exact ⟨h1, hT _ h2 h3, fun e => h6 (by rw [e]; rfl), h4⟩
end Go.Proofs.YtlgeibaejeiemaaDoor.Vt
