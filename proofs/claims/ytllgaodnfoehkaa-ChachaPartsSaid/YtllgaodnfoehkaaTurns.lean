/-
  What is turned and turned back is as it was; a quarter round, undone.
-/
import Derived.Test.YtllgaodnfoehkaaU32
namespace Go.Proofs.Ytllgaodnfoehkaa
open Go.RowKit
theorem big_bit (x : UInt32) {i : Nat} (h : 32 ≤ i) : x.toNat.testBit i = false :=
  Nat.testBit_lt_two_pow (Nat.lt_of_lt_of_le x.toNat_lt (Nat.pow_le_pow_right (by omega) h))
theorem shl_bit (x : UInt32) {n : Nat} (h : n < 32) (i : Nat) : (x <<< UInt32.ofNat n).toNat.testBit i = (decide (i < 32) && (decide (n ≤ i) && x.toNat.testBit (i - n))) := by
  rw [UInt32.toNat_shiftLeft, ofNat_small h, show (2 : Nat) ^ 32 = 2 ^ 32 from rfl, Nat.testBit_mod_two_pow, Nat.testBit_shiftLeft]
theorem shr_bit (x : UInt32) {n : Nat} (h : n < 32) (i : Nat) : (x >>> UInt32.ofNat n).toNat.testBit i = x.toNat.testBit (n + i) := by
  rw [UInt32.toNat_shiftRight, ofNat_small h, Nat.testBit_shiftRight]
theorem rotl_bit (x : UInt32) {n : Nat} (h0 : 0 < n) (h : n < 32) (i : Nat) : (rotl x n).toNat.testBit i = ((decide (i < 32) && (decide (n ≤ i) && x.toNat.testBit (i - n))) || x.toNat.testBit (32 - n + i)) := by
  rw [rotl, UInt32.toNat_or, Nat.testBit_or, shl_bit x h, shr_bit x (by omega)]
theorem rotr_bit (x : UInt32) {n : Nat} (h0 : 0 < n) (h : n < 32) (i : Nat) : (rotr x n).toNat.testBit i = (x.toNat.testBit (n + i) || (decide (i < 32) && (decide (32 - n ≤ i) && x.toNat.testBit (i - (32 - n))))) := by
  rw [rotr, UInt32.toNat_or, Nat.testBit_or, shl_bit x (by omega), shr_bit x h]
/-- What is turned by n places, and back, is as it was. -/
theorem rotr_rotl (x : UInt32) {n : Nat} (h0 : 0 < n) (h : n < 32) : rotr (rotl x n) n = x := by
  apply UInt32.toNat_inj.1
  apply Nat.eq_of_testBit_eq
  intro i
  rw [rotr_bit _ h0 h]
  by_cases hi : i < 32
  · by_cases hn : n + i < 32
    · have e : ¬ (32 - n ≤ i) := by omega
      rw [rotl_bit _ h0 h, big_bit x (i := 32 - n + (n + i)) (by omega), show n + i - n = i by omega]
      simp [hi, hn, e]
    · rw [big_bit _ (i := n + i) (by omega), rotl_bit _ h0 h, show 32 - n + (i - (32 - n)) = i by omega]
      have e1 : 32 - n ≤ i := by omega
      have e2 : ¬ (n ≤ i - (32 - n)) := by omega
      simp [hi, e1, e2]
  · rw [big_bit _ (i := n + i) (by omega), big_bit x (i := i) (by omega)]
    simp [hi]
theorem xor_back (a b : UInt32) : (a ^^^ b) ^^^ b = a := by
  rw [UInt32.xor_assoc, UInt32.xor_self, UInt32.xor_zero]
theorem add_back (a b : UInt32) : a + b - b = a := by
  apply UInt32.toNat_inj.1
  rw [UInt32.toNat_sub, UInt32.toNat_add]
  have := a.toNat_lt
  have := b.toNat_lt
  omega
/-- A quarter round, undone. -/
theorem qq_back (a b c d : UInt32) :
    let q := qq a b c d
    let b1 := rotr q.2.1 7 ^^^ q.2.2.1
    let c1 := q.2.2.1 - q.2.2.2
    let d1 := rotr q.2.2.2 8 ^^^ q.1
    let a1 := q.1 - b1
    let b0 := rotr b1 12 ^^^ c1
    let c0 := c1 - d1
    let d0 := rotr d1 16 ^^^ a1
    a1 - b0 = a ∧ b0 = b ∧ c0 = c ∧ d0 = d := by
  simp only [qq, rotr_rotl _ (show 0 < 7 by omega) (show 7 < 32 by omega), rotr_rotl _ (show 0 < 8 by omega) (show 8 < 32 by omega), rotr_rotl _ (show 0 < 12 by omega) (show 12 < 32 by omega), rotr_rotl _ (show 0 < 16 by omega) (show 16 < 32 by omega), xor_back, add_back]
  exact ⟨trivial, trivial, trivial, trivial⟩
end Go.Proofs.Ytllgaodnfoehkaa
