/-
  Bits of 16-bit numbers; append within the capacity; append with a wider bound. Nothing of the program is named here.
-/
import Derived.Test.YtlgeibaejeiemaaDoorWo
import Derived.Deep.DeepAppendWide
namespace Go.Proofs.YtlgeibaejeiemaaDoor.Wd
set_option linter.unusedVariables false
open Go.RowKit

theorem nat_high {x : Nat} (h : x < 65536) : x &&& 64512 = x - x % 1024 := by
  have h1 : (x &&& 64512) % 1024 = 0 := by
    rw [← nat_mask10, Nat.and_assoc, show 64512 &&& 1023 = 0 from rfl, Nat.and_zero]
  have h2 : (x &&& 64512) ||| (x % 1024) = x := by
    rw [← nat_mask10, ← Nat.and_or_distrib_left, show 64512 ||| 1023 = 2 ^ 16 - 1 from rfl, Nat.and_two_pow_sub_one_eq_mod]
    omega
  have h3 := nat_join 10 (x &&& 64512) (x % 1024) h1 (by omega)
  omega
theorem andNot16 {x : Int} (h0 : 0 ≤ x) (h1 : x ≤ 65535) : bits .andNot .u16 x 1023 = x - x % 1024 := by
  rw [u16_andNot x 1023 h0 (by omega) (by decide) (by decide), show (65535 - (1023 : Int).toNat) = 64512 from rfl, nat_high (by omega)]
  omega
theorem and16 {x : Int} (h0 : 0 ≤ x) (h1 : x ≤ 65535) : bits .and .u16 x 1023 = x % 1024 := by
  rw [u16_and x 1023 h0 (by omega) (by decide) (by decide), show (1023 : Int).toNat = 1023 from rfl, nat_mask10]
  omega
theorem or16 {a b : Int} (h0 : 0 ≤ a) (ha : a ≤ 65535) (hm : a % 1024 = 0) (hb : 0 ≤ b) (hl : b < 1024) : bits .or .u16 a b = a + b := by
  rw [u16_or a b h0 (by omega) hb (by omega), nat_join 10 a.toNat b.toNat (by omega) (by omega)]
  omega
theorem and_1023 (a : Int) : bits .and .i64 a 1023 = a % 1024 := by
  show IntKind.i64.wrap ((BitVec.ofInt 64 a &&& BitVec.ofInt 64 1023).toNat : Int) = _
  rw [BitVec.toNat_and, BitVec.toNat_ofInt, BitVec.toNat_ofInt, show ((1023 : Int) % ((2 ^ 64 : Nat) : Int)).toNat = 2 ^ 10 - 1 from rfl, Nat.and_two_pow_sub_one_eq_mod, IntKind.wrap_i64]
  omega

/-- the cells of a slice, as the laws on append ask for them -/
theorem Sl.cells {k : IntKind} {w : World} {ad : Addr} {m c : Nat} {r : List Int} (hr : Sl k w (some ad) m c r) : ∀ j u, (r.map (Value.int k))[j]? = some u → w.cell? (ad.add j) = some u := by
  intro j u hu
  have hne : r ≠ [] := by rintro rfl; simp at hu
  obtain ⟨b, off, e', hcell⟩ := hr.row.2 hne
  injection e' with e'
  subst e'
  rw [List.getElem?_map] at hu
  cases hj : r[j]? with
  | none => rw [hj] at hu; cases hu
  | some y =>
    rw [hj] at hu
    injection hu with hu
    subst hu
    have := hcell j y hj
    by_cases h0 : j = 0
    · subst h0; simpa [Addr.add] using this
    · simpa [Addr.add, h0] using this

/-- append within the capacity, onto a row of the call's own -/
theorem wp_fits {P : Program} {w : World} {ops : Array Oper} {rest : List Oper} {o : Oper} {a : Act} {Q : Exit → Act → World → Prop} (hgd : o.guard = none) (s x : Operand) (t : TypeId)
    (ho : o.op = .call { callee := .builtin .append, args := #[s, x], argTypes := #[t, t] })
    (B : Nat) {e : TypeId} {i : TypeInfo} (ht : P.underlying t = some (.slice e)) (hi : P.info? e = some i) (hs1 : i.size = 1)
    {k : IntKind} {g n cap : Nat} {l : List Int} (hs : a.eval s = .slice (some ⟨g, 0, none⟩) n cap) (hn : n = l.length) (hown : Own k e w B (.slice (some ⟨g, 0, none⟩) n cap) l) {A : Option Addr} {m c : Nat} {r : List Int} (hx : a.eval x = .slice A m c) (hr : Sl k w A m c r)
    (hfit : n + m ≤ cap) (hB : B ≤ w.heap.size)
    (h : ∀ w', Own k e w' B (.slice (some ⟨g, 0, none⟩) (n + m) cap) (l ++ r) → Below B w w' → w.grownBy w' (some g) → wpList P ops Q rest (a.put o.dst (.slice (some ⟨g, 0, none⟩) (n + m) cap)) w') : wpList P ops Q (o :: rest) a w := by
  have hl : r.length = m := hr.row.1
  subst hn
  refine wpList_append_fits_any w hgd s x t ho B e i 1 ht hi hs1 g l.length cap (l.map (Value.int k)) hs hown A m c (r.map (Value.int k)) hx (by simp [hl]) ?_ ?_ (ints_oneCell k r) hfit ?_
  · rintro rfl
    have := hr.nil rfl
    have := hr.le
    omega
  · rintro ad rfl
    exact hr.cells
  · intro w' ho' hg
    refine h w' ?_ ((Below.refl _ _).grown hg hB (fun g' hg' => (hown.lt hg').1)) hg
    have h1 : (l.map (Value.int k) ++ r.map (Value.int k)) = (l ++ r).map (Value.int k) := by simp
    have h2 : l.length + m = (l ++ r).length := by simp [hl]
    rw [h1] at ho'
    unfold Own
    rw [← h2]
    exact ho'

/-- append(v, x...), as wp_app, up to more bytes -/
theorem wp_wide {P : Program} {w : World} {ops : Array Oper} {rest : List Oper} {o : Oper} {a : Act} {Q : Exit → Act → World → Prop} (hgd : o.guard = none) (s x : Operand) (t : TypeId)
    (ho : o.op = .call { callee := .builtin .append, args := #[s, x], argTypes := #[t, t] })
    (B : Nat) {e : TypeId} {i : TypeInfo} {z : Value} {wide : Nat} (ht : P.underlying t = some (.slice e)) (hi : P.info? e = some i) (hz : i.zero = some z) (hs1 : i.size = 1) (hby : i.bytes = wide) (hzc : z.cells.size = 1)
    {k : IntKind} {v : Value} {l : List Int} (hs : a.eval s = v) (hown : Own k e w B v l) {A : Option Addr} {m c : Nat} {r : List Int} (hx : a.eval x = .slice A m c) (hr : Sl k w A m c r)
    (hlen : ((l.length + m) + (l.length + m) / 4 + 192) * wide ≤ 281474976710656) (hmax : l.length + m ≤ maxLen) (hB : B ≤ w.heap.size)
    (h : ∀ v' w', Own k e w' B v' (l ++ r) → Below B w w' → wpList P ops Q rest (a.put o.dst v') w') : wpList P ops Q (o :: rest) a w := by
  have hl : r.length = m := hr.row.1
  rcases A with _ | ad
  · have hc := hr.nil rfl
    subst hc
    have hm : m = 0 := by have := hr.le; omega
    subst hm
    obtain rfl : r = [] := List.eq_nil_of_length_eq_zero hl
    refine wpList_append_own_none hgd s x t ho B e i 1 ht hi v l.length _ hs hown hx (h v w ?_ (Below.refl _ _))
    simpa using hown
  · refine wpList_append_own_wide (P := P) w hgd s x t ho B e i z 1 wide ht hi hz hs1 hby hzc (by omega) v l.length (l.map (Value.int k)) hs hown ad m c (r.map (Value.int k)) hx (by simp [hl]) hr.cells (ints_oneCell k r) hmax hlen hB ?_
    intro v' w' ho' hg _
    refine h v' w' ?_ ((Below.refl _ _).grown hg hB (fun g hg' => (hown.lt hg').1))
    have : (l.map (Value.int k) ++ r.map (Value.int k)) = (l ++ r).map (Value.int k) := by simp
    rw [this] at ho'
    have h2 : l.length + m = (l ++ r).length := by simp [hl]
    rw [h2] at ho'
    exact ho'

/-- an operation whose guard is met is as one without a guard -/
theorem wp_unguard {P : Program} {ops : Array Oper} {Q : Exit → Act → World → Prop} {a : Act} {w : World} {rest : List Oper} {o : Oper} (hw : Region.wanted o (yielded ops a.tmps) = true)
    (h : wpList P ops Q ({ o with guard := none } :: rest) a w) : wpList P ops Q (o :: rest) a w := by
  unfold wpList at h ⊢
  rw [if_pos hw]
  rw [if_pos (by simp [Region.wanted])] at h
  exact h
end Go.Proofs.YtlgeibaejeiemaaDoor.Wd
