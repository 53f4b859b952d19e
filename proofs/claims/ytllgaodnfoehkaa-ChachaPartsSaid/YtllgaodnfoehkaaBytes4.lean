/-
  A number is told again by its four bytes; a block's four bytes are a sum.
-/
import Derived.Test.YtllgaodnfoehkaaTurns
import Derived.Test.YtllgaodnfoehkaaPlain
namespace Go.Proofs.Ytllgaodnfoehkaa
open Go.RowKit
theorem byteAt_bit (z : UInt32) (k m : Nat) : (byteAt z k).toNat.testBit m = (decide (m < 8) && z.toNat.testBit (8 * k + m)) := by
  rw [byteAt, UInt8.toNat_ofNat', Nat.testBit_mod_two_pow, ← Nat.shiftRight_eq_div_pow, Nat.testBit_shiftRight]
theorem widen_bit (b : UInt8) (m : Nat) : (UInt32.ofNat b.toNat).toNat.testBit m = b.toNat.testBit m := by
  rw [UInt32.toNat_ofNat', Nat.mod_eq_of_lt (by have := b.toNat_lt; omega)]
theorem w4_bytes (z : UInt32) : w4 (byteAt z 0) (byteAt z 1) (byteAt z 2) (byteAt z 3) = z := by
  apply UInt32.toNat_inj.1
  apply Nat.eq_of_testBit_eq
  intro i
  simp only [w4, UInt32.toNat_or, Nat.testBit_or, shl_bit _ (show 8 < 32 by omega), shl_bit _ (show 16 < 32 by omega), shl_bit _ (show 24 < 32 by omega), widen_bit, byteAt_bit]
  by_cases h0 : i < 8
  · simp [h0, show ¬ 8 ≤ i by omega, show ¬ 16 ≤ i by omega, show ¬ 24 ≤ i by omega]
  · by_cases h1 : i < 16
    · simp [h0, show 8 ≤ i by omega, show i < 32 by omega, show i - 8 < 8 by omega, show ¬ 16 ≤ i by omega, show ¬ 24 ≤ i by omega]
    · by_cases h2 : i < 24
      · simp [h0, show i < 32 by omega, show ¬ i - 8 < 8 by omega, show 16 ≤ i by omega, show i - 16 < 8 by omega, show ¬ 24 ≤ i by omega]
      · by_cases h3 : i < 32
        · simp [h0, h3, show ¬ i - 8 < 8 by omega, show ¬ i - 16 < 8 by omega, show 24 ≤ i by omega, show i - 24 < 8 by omega]
        · simp [h0, h3, big_bit z (i := i) (by omega)]
theorem told_get (s : List UInt32) {t j m : Nat} (ht : t = 4 * j + m) (hm : m < 4) (hj : j < 16) : (toldL s).getD t 0 = byteAt (s.getD j 0) m := by
  rw [toldL, List.getD_eq_getElem?_getD, List.getElem?_map, List.getElem?_range (by omega), Option.map_some, show t / 4 = j by omega, show t % 4 = m by omega]
  rfl
theorem add_less (a b : UInt32) : a + b - a = b := by
  apply UInt32.toNat_inj.1
  rw [UInt32.toNat_sub, UInt32.toNat_add]
  have := a.toNat_lt
  have := b.toNat_lt
  omega
/-- A block's number at a place, less the key's state's, is the rounds'. -/
theorem block_less (k : List UInt8) (c : UInt32) (n : Nat) {j t : Nat} (ht : t = 4 * j) (hj : j < 16) :
    w4 ((blockL k c n).getD t 0) ((blockL k c n).getD (t + 1) 0) ((blockL k c n).getD (t + 2) 0) ((blockL k c n).getD (t + 3) 0) - (keyL k c n).getD j 0 = (rounds (keyL k c n)).getD j 0 := by
  rw [blockL, told_get _ (m := 0) (by omega) (by omega) hj, told_get _ (m := 1) (by omega) (by omega) hj, told_get _ (m := 2) (by omega) (by omega) hj, told_get _ (m := 3) (by omega) (by omega) hj, w4_bytes, sumsTo_get, if_pos ⟨hj, by rw [keyL_length]; exact hj⟩, add_less]
end Go.Proofs.Ytllgaodnfoehkaa
