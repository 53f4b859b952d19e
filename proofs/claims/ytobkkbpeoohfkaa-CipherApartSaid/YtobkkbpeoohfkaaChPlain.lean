import Derived.Test.YtobkkbpeoohfkaaChCols
namespace Go.Proofs.Ytobkkbpeoohfkaa
open Go.RowKit
/-- Four bytes as a number, the least first. -/
def w4 (b0 b1 b2 b3 : UInt8) : UInt32 :=
  ((UInt32.ofNat b0.toNat ||| (UInt32.ofNat b1.toNat <<< UInt32.ofNat 8)) ||| (UInt32.ofNat b2.toNat <<< UInt32.ofNat 16)) ||| (UInt32.ofNat b3.toNat <<< UInt32.ofNat 24)
def wordL (l : List UInt8) : UInt32 := w4 (l.getD 0 0) (l.getD 1 0) (l.getD 2 0) (l.getD 3 0)
/-- A key's state, as far as its first n numbers are laid. -/
def keyTo (k : List UInt8) : Nat → List UInt32
  | 0 => [0x61707865, 0x3320646e, 0x79622d32, 0x6b206574, 0, 0, 0, 0, 0, 0, 0, 0, 0, 0, 0, 0]
  | n + 1 => (keyTo k n).set (4 + n) (wordL (k.drop (4 * n)))
theorem keyTo_length (k : List UInt8) : ∀ n, (keyTo k n).length = 16
  | 0 => rfl
  | n + 1 => by rw [keyTo, List.length_set, keyTo_length k n]
def keyL (k : List UInt8) (c : UInt32) (n : Nat) : List UInt32 := (((keyTo k 8).set 12 c).set 14 (UInt32.ofNat n)).set 15 (UInt32.ofNat (n / 4294967296))
theorem keyL_length (k : List UInt8) (c : UInt32) (n : Nat) : (keyL k c n).length = 16 := by simp [keyL, keyTo_length]
/-- The sums of each two numbers, as far as the first n. -/
def csumsTo (s t : List UInt32) : Nat → List UInt32
  | 0 => s
  | n + 1 => (csumsTo s t n).set n ((csumsTo s t n).getD n 0 + t.getD n 0)
theorem csumsTo_length (s t : List UInt32) : ∀ n, (csumsTo s t n).length = s.length
  | 0 => rfl
  | n + 1 => by rw [csumsTo, List.length_set, csumsTo_length s t n]
theorem sumsTo_get (s t : List UInt32) : ∀ n i, (csumsTo s t n).getD i 0 = if i < n ∧ i < s.length then s.getD i 0 + t.getD i 0 else s.getD i 0
  | 0, i => by simp [csumsTo]
  | n + 1, i => by
    rw [csumsTo]
    by_cases h : i = n
    · subst h
      by_cases hl : i < s.length
      · have hl' : i < (csumsTo s t i).length := by rw [csumsTo_length]; exact hl
        rw [if_pos ⟨by omega, hl⟩, List.getD_eq_getElem?_getD, List.getElem?_set_self hl', Option.getD_some, sumsTo_get s t i i, if_neg (by omega)]
      · rw [if_neg (by omega), List.getD_eq_getElem?_getD, List.getElem?_eq_none (by simp [csumsTo_length]; omega), List.getD_eq_getElem?_getD, List.getElem?_eq_none (by omega)]
    · rw [List.getD_eq_getElem?_getD, List.getElem?_set_ne (fun e => h e.symm), ← List.getD_eq_getElem?_getD, sumsTo_get s t n i]
      by_cases hc : i < n ∧ i < s.length
      · rw [if_pos hc, if_pos ⟨by omega, hc.2⟩]
      · rw [if_neg hc, if_neg (by omega)]
/-- A byte of a number, the least first. -/
def byteAt (x : UInt32) (j : Nat) : UInt8 := UInt8.ofNat (x.toNat / 2 ^ (8 * j))
/-- The bytes of a state. -/
def toldL (s : List UInt32) : List UInt8 := (List.range 64).map fun i => byteAt (s.getD (i / 4) 0) (i % 4)
theorem toldL_length (s : List UInt32) : (toldL s).length = 64 := by simp [toldL]
/-- A key's block. -/
def blockL (k : List UInt8) (c : UInt32) (n : Nat) : List UInt8 := toldL (csumsTo (keyL k c n) (rounds (keyL k c n)) 16)
theorem blockL_length (k : List UInt8) (c : UInt32) (n : Nat) : (blockL k c n).length = 64 := toldL_length _
/-- A key's stream. -/
def streamL (k : List UInt8) (n size : Nat) : List UInt8 := (List.range size).map fun j => (blockL k (UInt32.ofNat (j / 64)) n).getD (j % 64) 0
theorem streamL_length (k : List UInt8) (n size : Nat) : (streamL k n size).length = size := by simp [streamL]

/-- The streams that are known of a key of noughts. -/
def knownL : List UInt8 := [118, 184, 224, 173, 160, 241, 61, 144, 64, 93, 106, 229, 83, 134, 189, 40, 189, 210, 25, 184, 160, 141, 237, 26, 168, 54, 239, 204, 139, 119, 13, 199, 218, 65, 89, 124, 81, 87, 72, 141, 119, 36, 224, 63, 184, 216, 74, 55, 106, 67, 184, 244, 21, 24, 161, 28, 195, 135, 182, 105, 178, 238, 101, 134, 159, 7, 231, 190, 85, 81, 56, 122, 152, 186, 151, 124, 115, 45, 8, 13, 203, 15, 41, 160, 72, 227, 101, 105, 18, 198, 83, 62, 50, 238, 122, 237, 41, 183, 33, 118, 156, 230, 78, 67, 213, 113, 51, 176, 116, 216, 57, 213, 49, 237, 31, 40, 81, 10, 251, 69, 172, 225, 10, 31, 75, 121, 77, 111]
set_option maxRecDepth 100000 in
theorem known0 : blockL (List.replicate 32 0) 0 0 = knownL.take 64 := by decide +kernel
set_option maxRecDepth 100000 in
theorem known1 : blockL (List.replicate 32 0) 1 0 = knownL.drop 64 := by decide +kernel
end Go.Proofs.Ytobkkbpeoohfkaa
