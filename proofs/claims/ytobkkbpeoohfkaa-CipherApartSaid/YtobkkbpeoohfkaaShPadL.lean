/-
  What a padded text has where.
-/
import Derived.Test.YtobkkbpeoohfkaaShPad
namespace Go.Proofs.Ytobkkbpeoohfkaa
open Go.RowKit
theorem padP_take (b : List UInt8) (size : Nat) : (padP b size).take b.length = b := by rw [padP, List.take_left' rfl]
theorem padP_mark (b : List UInt8) (size : Nat) : (padP b size).getD b.length 0 = 128 := by
  rw [padP, List.getD_eq_getElem?_getD, List.getElem?_append_right (Nat.le_refl _), Nat.sub_self]; rfl
theorem padP_tail (b : List UInt8) (size : Nat) {k m : Nat} (hm : m = padN b.length - 8 + k) : (padP b size)[m]? = (beL (8 * size) 8)[k]? := by
  have h1 := padN_le b.length
  rw [padP, List.getElem?_append_right (by omega)]
  obtain ⟨i, hi⟩ : ∃ i, m - b.length = i + 1 := ⟨m - b.length - 1, by omega⟩
  rw [hi, List.getElem?_cons_succ, List.getElem?_append_right (by rw [List.length_replicate]; omega), List.length_replicate]
  congr 1; omega
theorem padP_zero (b : List UInt8) (size : Nat) {m : Nat} (h1 : b.length < m) (h2 : m < padN b.length - 8) : (padP b size)[m]? = some 0 := by
  have h3 := padN_le b.length
  rw [padP, List.getElem?_append_right (by omega)]
  obtain ⟨i, hi⟩ : ∃ i, m - b.length = i + 1 := ⟨m - b.length - 1, by omega⟩
  rw [hi, List.getElem?_cons_succ, List.getElem?_append_left (by rw [List.length_replicate]; omega), List.getElem?_replicate, if_pos (by omega)]
theorem padL_tail (b : List UInt8) {k m : Nat} (hk : k < 8) (hm : m = padN b.length - 8 + k) : (padL b)[m]? = some (UInt8.ofNat (8 * b.length / 2 ^ (8 * (7 - k)) % 256)) := by
  rw [padL, padP_tail b _ hm, beL_get hk]
end Go.Proofs.Ytobkkbpeoohfkaa
