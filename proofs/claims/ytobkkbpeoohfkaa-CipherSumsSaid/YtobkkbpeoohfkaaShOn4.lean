/-
  A word of four bytes, read by products and sums; no walk.
-/
import Derived.Test.YtobkkbpeoohfkaaShOnL
namespace Go.Proofs.Ytobkkbpeoohfkaa
open Go.RowKit
theorem be4_nat (b0 b1 b2 b3 : UInt8) : (be4 b0 b1 b2 b3).toNat = b0.toNat * 16777216 + b1.toNat * 65536 + b2.toNat * 256 + b3.toNat := by
  have h0 := b0.toNat_lt
  have h1 := b1.toNat_lt
  have h2 := b2.toNat_lt
  have h3 := b3.toNat_lt
  have e : ∀ (b : UInt8) (m : Nat), m ≤ 24 → (UInt32.ofNat b.toNat <<< UInt32.ofNat m).toNat = b.toNat * 2 ^ m := by
    intro b m hm
    have hb := b.toNat_lt
    have e1 : (UInt32.ofNat b.toNat).toNat = b.toNat := by rw [UInt32.toNat_ofNat']; omega
    rw [UInt32.toNat_shiftLeft, e1, ofNat_small (by omega), Nat.shiftLeft_eq]
    apply Nat.mod_eq_of_lt
    calc b.toNat * 2 ^ m < 2 ^ 8 * 2 ^ m := Nat.mul_lt_mul_of_pos_right (by simpa using hb) (Nat.two_pow_pos m)
      _ = 2 ^ (8 + m) := (Nat.pow_add 2 8 m).symm
      _ ≤ 2 ^ 32 := Nat.pow_le_pow_right (by omega) (by omega)
  have e3 : (UInt32.ofNat b3.toNat).toNat = b3.toNat := by rw [UInt32.toNat_ofNat']; omega
  rw [be4, UInt32.toNat_or, UInt32.toNat_or, UInt32.toNat_or, e b0 24 (by omega), e b1 16 (by omega), e b2 8 (by omega), e3]
  have r1 : b0.toNat * 2 ^ 24 ||| b1.toNat * 2 ^ 16 = b0.toNat * 2 ^ 24 + b1.toNat * 2 ^ 16 := by
    rw [← Nat.shiftLeft_eq b0.toNat 24, ← Nat.shiftLeft_add_eq_or_of_lt (by omega)]
  rw [r1]
  have r2 : b0.toNat * 2 ^ 24 + b1.toNat * 2 ^ 16 ||| b2.toNat * 2 ^ 8 = b0.toNat * 2 ^ 24 + b1.toNat * 2 ^ 16 + b2.toNat * 2 ^ 8 := by
    rw [show b0.toNat * 2 ^ 24 + b1.toNat * 2 ^ 16 = (b0.toNat * 2 ^ 8 + b1.toNat) * 2 ^ 16 by omega, ← Nat.shiftLeft_eq (b0.toNat * 2 ^ 8 + b1.toNat) 16, ← Nat.shiftLeft_add_eq_or_of_lt (by omega)]
  rw [r2]
  have r3 : b0.toNat * 2 ^ 24 + b1.toNat * 2 ^ 16 + b2.toNat * 2 ^ 8 ||| b3.toNat = b0.toNat * 2 ^ 24 + b1.toNat * 2 ^ 16 + b2.toNat * 2 ^ 8 + b3.toNat := by
    rw [show b0.toNat * 2 ^ 24 + b1.toNat * 2 ^ 16 + b2.toNat * 2 ^ 8 = (b0.toNat * 2 ^ 16 + b1.toNat * 2 ^ 8 + b2.toNat) * 2 ^ 8 by omega, ← Nat.shiftLeft_eq _ 8, ← Nat.shiftLeft_add_eq_or_of_lt (by omega)]
  rw [r3]
theorem be4_on (b0 b1 b2 b3 : UInt8) : be4 b0 b1 b2 b3 = onB (onB (onB (onB 0 b0) b1) b2) b3 := by
  apply UInt32.toNat_inj.1
  have h0 := b0.toNat_lt
  have h1 := b1.toNat_lt
  have h2 := b2.toNat_lt
  have h3 := b3.toNat_lt
  rw [be4_nat, onB_nat, onB_nat, onB_nat, onB_nat]
  simp
  omega
/-- A word times 256, and a byte. -/
theorem onB_mul (x : UInt32) (b : UInt8) : ((x.toNat : Int) * 256 % 4294967296 + (b.toNat : Int)) % 4294967296 = ((onB x b).toNat : Int) := by
  have hb := b.toNat_lt
  have hx := x.toNat_lt
  rw [onB_nat]
  omega
/-- The words of a block, as far as n bytes are read into them. -/
def wdTo (f : Nat → UInt8) : Nat → List UInt32
  | 0 => List.replicate 64 0
  | n + 1 => (wdTo f n).set (n / 4) (onB ((wdTo f n).getD (n / 4) 0) (f n))
theorem wdTo_length (f : Nat → UInt8) : ∀ n, (wdTo f n).length = 64
  | 0 => rfl
  | n + 1 => by rw [wdTo, List.length_set, wdTo_length f n]
/-- Behind the words read nothing is laid yet. -/
theorem wTo_zero (blk : List UInt8) : ∀ k j, k ≤ j → (wTo blk k).getD j 0 = 0
  | 0, j, _ => by
    rw [wTo, List.getD_eq_getElem?_getD, List.getElem?_replicate]; split <;> rfl
  | k + 1, j, h => by
    have ih := wTo_zero blk k j (by omega)
    rw [wTo, List.getD_eq_getElem?_getD, List.getElem?_set_ne (by omega), ← List.getD_eq_getElem?_getD, ih]
/-- Four bytes read are a word laid. -/
theorem wdTo_word (blk : List UInt8) : ∀ k, k ≤ 16 → wdTo (fun i => blk.getD i 0) (4 * k) = wTo blk k
  | 0, _ => rfl
  | k + 1, h => by
    have e : 4 * (k + 1) = 4 * k + 1 + 1 + 1 + 1 := by omega
    rw [e, wdTo, wdTo, wdTo, wdTo, wdTo_word blk k (by omega), show (4 * k + 1 + 1 + 1) / 4 = k by omega, show (4 * k + 1 + 1) / 4 = k by omega, show (4 * k + 1) / 4 = k by omega, show 4 * k / 4 = k by omega]
    have hl := wTo_length blk k
    have h0 := wTo_zero blk k k (Nat.le_refl _)
    rw [wTo]
    generalize hu : wTo blk k = u at hl h0
    rw [h0]
    have g1 : ∀ (v : List UInt32) (y : UInt32), v.length = 64 → (v.set k y).getD k 0 = y := by
      intro v y hv
      rw [List.getD_eq_getElem?_getD, List.getElem?_set_self (by omega)]; rfl
    simp only [List.set_set, g1 _ _ hl]
    rw [wAt_low (m := 4 * k) (by omega) rfl, be4_on]
end Go.Proofs.Ytobkkbpeoohfkaa
