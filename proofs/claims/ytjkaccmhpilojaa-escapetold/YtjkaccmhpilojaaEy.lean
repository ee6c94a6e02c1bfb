/-
  How a text's characters are decoded by a range over it; bytes as cells. Nothing of the program is named here.
-/
import Derived.Test.YtjkaccmhpilojaaUn
import Derived.Test.YtjkaccmhpilojaaDn
import Derived.Test.YtjkaccmhpilojaaWo
import Derived.Lib.DecodeN
import Derived.Lib.RuneBytes
import Derived.Lib.AppendStr
namespace Go.Proofs.Ytjkaccmhpilojaa
set_option linter.unusedVariables false
set_option linter.unusedSimpArgs false
open Go.RowKit
namespace Em
open Utf Wd

/-- bytes as a block holds them -/
def cl (l : List Int) : List Value := l.map (Value.int .u8)
theorem cl_append (a b : List Int) : cl (a ++ b) = cl a ++ cl b := List.map_append
theorem cl_length (a : List Int) : (cl a).length = a.length := List.length_map _
/-- bytes as a string holds them -/
def u8s (l : List Int) : List UInt8 := l.map fun n => UInt8.ofNat n.toNat
theorem bs_u8s (l : List Int) : (⟨(u8s l).toArray⟩ : ByteArray) = Dm.bs l := rfl
theorem byteCells_cl : ∀ {l : List Int}, IsB l → Lib.byteCells (u8s l) = cl l
  | [], _ => rfl
  | a :: l, h => by
    have ih := byteCells_cl (l := l) (fun x hx => h x (by simp [hx]))
    have ha := h a (by simp)
    show Value.int .u8 ((UInt8.ofNat a.toNat).toNat : Int) :: Lib.byteCells (u8s l) = Value.int .u8 a :: cl l
    rw [ih, UInt8.toNat_ofNat', show ((a.toNat % 2 ^ 8 : Nat) : Int) = a by omega]
theorem runeCells_cl {c : Int} (h : form c ≠ 0) : Lib.runeCells c = cl (enc c) := by
  unfold Lib.runeCells cl
  congr 1
  rcases form_cases c with k | k | k | k | k
  · exact absurd k.1 h
  · rw [Lib.encodeRuneZ_one k.2.1 k.2.2, enc1 k.1]
  · rw [Lib.encodeRuneZ_two k.2.1 k.2.2, enc2 k.1]
  · rw [Lib.encodeRuneZ_three (by omega), enc3 k.1]
  · rw [Lib.encodeRuneZ_four (by omega) (by omega), enc4 k.1]

theorem get_bs {l : List Int} {j : Nat} {x : Int} (hx : l[j]? = some x) (h0 : 0 ≤ x) (h1 : x ≤ 255) : ((Dm.bs l).get! j).toNat = x.toNat := by
  have hj : j < l.length := by
    rcases Nat.lt_or_ge j l.length with h | h
    · exact h
    · rw [List.getElem?_eq_none h] at hx; cases hx
  have e : (Dm.bs l).get! j = UInt8.ofNat x.toNat := by
    show (Dm.bs l).data[j]! = _
    have hs : j < (Dm.bs l).data.size := by simpa [Dm.bs] using hj
    rw [getElem!_pos _ j hs]
    rw [List.getElem?_eq_getElem hj] at hx
    injection hx with hx
    simp [Dm.bs, hx]
  rw [e, UInt8.toNat_ofNat']; omega
theorem pre_get {c : Int} {t l : List Int} {q : Nat} (h : l.drop q = enc c ++ t) {j : Nat} {x : Int} (hx : (enc c)[j]? = some x) : l[q + j]? = some x := by
  have hj : j < (enc c).length := by
    rcases Nat.lt_or_ge j (enc c).length with h | h
    · exact h
    · rw [List.getElem?_eq_none h] at hx; cases hx
  have : (l.drop q)[j]? = some x := by rw [h, List.getElem?_append_left hj, hx]
  rwa [List.getElem?_drop] at this
/-- the character that stands at a place is what a range finds there -/
theorem decode_here {l : List Int} {q : Nat} {c : Int} {t : List Int} (hc : form c ≠ 0) (h : l.drop q = enc c ++ t) : Utf8.decode (Dm.bs l) q = (c.toNat, (enc c).length) := by
  have hl : q + (enc c).length ≤ l.length ∨ (enc c).length = 0 := by
    have := congrArg List.length h
    rw [List.length_drop, List.length_append] at this
    omega
  have hlen := enc_length c
  rw [Lib.decode_at, Dm.bs_size]
  have G : ∀ {j : Nat} {x : Int}, (enc c)[j]? = some x → 0 ≤ x → x ≤ 255 → ((Dm.bs l).get! (q + j)).toNat = x.toNat := fun hx h0 h1 => get_bs (pre_get h hx) h0 h1
  rcases form_cases c with k | k | k | k | k
  · exact absurd k.1 hc
  · have g0 := G (j := 0) (x := c) (by rw [enc1 k.1]; rfl) (by omega) (by omega)
    rw [Nat.add_zero] at g0
    rw [g0, enc1 k.1]
    unfold Lib.decodeN
    rw [if_pos (by omega)]; rfl
  · have g0 := G (j := 0) (x := 192 + c / 64) (by rw [enc2 k.1]; rfl) (by omega) (by omega)
    have g1 := G (j := 1) (x := 128 + c % 64) (by rw [enc2 k.1]; rfl) (by omega) (by omega)
    rw [Nat.add_zero] at g0
    rw [g0, g1]
    unfold Lib.decodeN
    rw [if_neg (by omega), if_pos (by omega), if_pos (by omega), enc2 k.1]
    refine Prod.ext ?_ rfl
    show _ = c.toNat
    omega
  · have g0 := G (j := 0) (x := 224 + c / 4096) (by rw [enc3 k.1]; rfl) (by omega) (by omega)
    have g1 := G (j := 1) (x := 128 + c / 64 % 64) (by rw [enc3 k.1]; rfl) (by omega) (by omega)
    have g2 := G (j := 2) (x := 128 + c % 64) (by rw [enc3 k.1]; rfl) (by omega) (by omega)
    rw [Nat.add_zero] at g0
    rw [g0, g1, g2]
    unfold Lib.decodeN
    rw [if_neg (by omega), if_neg (by omega), if_pos (by omega), if_pos (by omega), enc3 k.1]
    refine Prod.ext ?_ rfl
    show _ = c.toNat
    omega
  · have g0 := G (j := 0) (x := 240 + c / 262144) (by rw [enc4 k.1]; rfl) (by omega) (by omega)
    have g1 := G (j := 1) (x := 128 + c / 4096 % 64) (by rw [enc4 k.1]; rfl) (by omega) (by omega)
    have g2 := G (j := 2) (x := 128 + c / 64 % 64) (by rw [enc4 k.1]; rfl) (by omega) (by omega)
    have g3 := G (j := 3) (x := 128 + c % 64) (by rw [enc4 k.1]; rfl) (by omega) (by omega)
    rw [Nat.add_zero] at g0
    rw [g0, g1, g2, g3]
    unfold Lib.decodeN
    rw [if_neg (by omega), if_neg (by omega), if_neg (by omega), if_pos (by omega), if_pos (by omega), enc4 k.1]
    refine Prod.ext ?_ rfl
    show _ = c.toNat
    omega
end Em
end Go.Proofs.Ytjkaccmhpilojaa
