/-
  SHA-256 over lists: a padded text, a block's words, the rounds, the sum; no program.
-/
import Derived.Test.YtobkkbpeoohfkaaArr
namespace Go.Proofs.Ytobkkbpeoohfkaa
open Go.RowKit
/-- Turned to the right by n places. -/
def rr (x : UInt32) (n : Nat) : UInt32 := rotl x (32 - n)
/-- Four bytes as a number, the highest first. -/
def be4 (b0 b1 b2 b3 : UInt8) : UInt32 :=
  (((UInt32.ofNat b0.toNat <<< UInt32.ofNat 24) ||| (UInt32.ofNat b1.toNat <<< UInt32.ofNat 16)) ||| (UInt32.ofNat b2.toNat <<< UInt32.ofNat 8)) ||| UInt32.ofNat b3.toNat
def wordB (l : List UInt8) (j : Nat) : UInt32 := be4 (l.getD j 0) (l.getD (j + 1) 0) (l.getD (j + 2) 0) (l.getD (j + 3) 0)
def sg0 (x : UInt32) : UInt32 := rr x 7 ^^^ rr x 18 ^^^ (x >>> UInt32.ofNat 3)
def sg1 (x : UInt32) : UInt32 := rr x 17 ^^^ rr x 19 ^^^ (x >>> UInt32.ofNat 10)
/-- A block's word at a place, by those ahead. -/
def wAt (blk : List UInt8) (u : List UInt32) (t : Nat) : UInt32 :=
  if t < 16 then wordB blk (4 * t) else sg1 (u.getD (t - 2) 0) + u.getD (t - 7) 0 + sg0 (u.getD (t - 15) 0) + u.getD (t - 16) 0
/-- A block's words, as far as the first n are laid. -/
def wTo (blk : List UInt8) : Nat → List UInt32
  | 0 => List.replicate 64 0
  | n + 1 => (wTo blk n).set n (wAt blk (wTo blk n) n)
theorem wTo_length (blk : List UInt8) : ∀ n, (wTo blk n).length = 64
  | 0 => rfl
  | n + 1 => by rw [wTo, List.length_set, wTo_length blk n]
/-- The eight words. -/
structure St where
  a : UInt32
  b : UInt32
  c : UInt32
  d : UInt32
  e : UInt32
  f : UInt32
  g : UInt32
  h : UInt32
def St.of (s : List UInt32) : St := ⟨s.getD 0 0, s.getD 1 0, s.getD 2 0, s.getD 3 0, s.getD 4 0, s.getD 5 0, s.getD 6 0, s.getD 7 0⟩
def St.list (s : St) : List UInt32 := [s.a, s.b, s.c, s.d, s.e, s.f, s.g, s.h]
theorem St.list_length (s : St) : s.list.length = 8 := rfl
theorem St.list_of (s : List UInt32) (h : s.length = 8) : (St.of s).list = s := by
  match s, h with
  | [_, _, _, _, _, _, _, _], _ => rfl
theorem St.of_list (s : St) : St.of s.list = s := rfl
def bg0 (x : UInt32) : UInt32 := rr x 2 ^^^ rr x 13 ^^^ rr x 22
def bg1 (x : UInt32) : UInt32 := rr x 6 ^^^ rr x 11 ^^^ rr x 25
def St.t1 (s : St) (k w : UInt32) : UInt32 := s.h + bg1 s.e + ((s.e &&& s.f) ^^^ (~~~s.e &&& s.g)) + k + w
def St.t2 (s : St) : UInt32 := bg0 s.a + ((s.a &&& s.b) ^^^ (s.a &&& s.c) ^^^ (s.b &&& s.c))
def St.step (s : St) (k w : UInt32) : St := ⟨s.t1 k w + s.t2, s.a, s.b, s.c, s.d + s.t1 k w, s.e, s.f, s.g⟩
/-- The round words, the first words. -/
def kL : List UInt32 := [0x428a2f98, 0x71374491, 0xb5c0fbcf, 0xe9b5dba5, 0x3956c25b, 0x59f111f1, 0x923f82a4, 0xab1c5ed5, 0xd807aa98, 0x12835b01, 0x243185be, 0x550c7dc3, 0x72be5d74, 0x80deb1fe, 0x9bdc06a7, 0xc19bf174, 0xe49b69c1, 0xefbe4786, 0xfc19dc6, 0x240ca1cc, 0x2de92c6f, 0x4a7484aa, 0x5cb0a9dc, 0x76f988da, 0x983e5152, 0xa831c66d, 0xb00327c8, 0xbf597fc7, 0xc6e00bf3, 0xd5a79147, 0x6ca6351, 0x14292967, 0x27b70a85, 0x2e1b2138, 0x4d2c6dfc, 0x53380d13, 0x650a7354, 0x766a0abb, 0x81c2c92e, 0x92722c85, 0xa2bfe8a1, 0xa81a664b, 0xc24b8b70, 0xc76c51a3, 0xd192e819, 0xd6990624, 0xf40e3585, 0x106aa070, 0x19a4c116, 0x1e376c08, 0x2748774c, 0x34b0bcb5, 0x391c0cb3, 0x4ed8aa4a, 0x5b9cca4f, 0x682e6ff3, 0x748f82ee, 0x78a5636f, 0x84c87814, 0x8cc70208, 0x90befffa, 0xa4506ceb, 0xbef9a3f7, 0xc67178f2]
def firstL : List UInt32 := [0x6a09e667, 0xbb67ae85, 0x3c6ef372, 0xa54ff53a, 0x510e527f, 0x9b05688c, 0x1f83d9ab, 0x5be0cd19]
theorem kL_length : kL.length = 64 := rfl
theorem firstL_length : firstL.length = 8 := rfl
def mixTo (s : St) (w : List UInt32) : Nat → St
  | 0 => s
  | n + 1 => (mixTo s w n).step (kL.getD n 0) (w.getD n 0)
def mixL (s w : List UInt32) : List UInt32 := (mixTo (St.of s) w 64).list
theorem mixL_length (s w : List UInt32) : (mixL s w).length = 8 := rfl
/-- The sums of each two numbers, as far as the first n. -/
def sumsTo (s t : List UInt32) : Nat → List UInt32
  | 0 => s
  | n + 1 => (sumsTo s t n).set n ((sumsTo s t n).getD n 0 + t.getD n 0)
theorem sumsTo_length (s t : List UInt32) : ∀ n, (sumsTo s t n).length = s.length
  | 0 => rfl
  | n + 1 => by rw [sumsTo, List.length_set, sumsTo_length s t n]
/-- The words behind a block. -/
def compL (s : List UInt32) (blk : List UInt8) : List UInt32 := sumsTo s (mixL s (wTo blk 64)) 8
theorem compL_length (s : List UInt32) (blk : List UInt8) : (compL s blk).length = s.length := sumsTo_length _ _ 8
/-- The words behind the first n blocks of a text. -/
def overTo (s : List UInt32) (t : List UInt8) : Nat → List UInt32
  | 0 => s
  | n + 1 => compL (overTo s t n) ((t.drop (64 * n)).take 64)
theorem overTo_length (s : List UInt32) (t : List UInt8) : ∀ n, (overTo s t n).length = s.length
  | 0 => rfl
  | n + 1 => by rw [overTo, compL_length, overTo_length s t n]
def overL (s : List UInt32) (t : List UInt8) : List UInt32 := overTo s t (t.length / 64)
theorem overL_length (s : List UInt32) (t : List UInt8) : (overL s t).length = s.length := overTo_length _ _ _
/-- n in so many bytes, the highest first. -/
def beL (n size : Nat) : List UInt8 := (List.range size).map fun i => UInt8.ofNat (n / 2 ^ (8 * (size - 1 - i)) % 256)
theorem beL_length (n s : Nat) : (beL n s).length = s := by simp [beL]
/-- How long a text of so many bytes is, padded. -/
def padN (n : Nat) : Nat := (n + 9 + 63) / 64 * 64
theorem padN_le (n : Nat) : n + 9 ≤ padN n := by unfold padN; omega
theorem padN_mod (n : Nat) : padN n % 64 = 0 := by unfold padN; omega
/-- The end of a text of so many bytes, padded. -/
def padP (b : List UInt8) (size : Nat) : List UInt8 := b ++ 128 :: (List.replicate (padN b.length - b.length - 9) 0 ++ beL (8 * size) 8)
theorem padP_length (b : List UInt8) (size : Nat) : (padP b size).length = padN b.length := by
  have := padN_le b.length
  simp [padP, beL_length]; omega
def padL (b : List UInt8) : List UInt8 := padP b b.length
theorem padL_length (b : List UInt8) : (padL b).length = padN b.length := padP_length _ _
/-- A byte of a number, the highest first. -/
def byteB (x : UInt32) (j : Nat) : UInt8 := UInt8.ofNat (x.toNat / 2 ^ (8 * (3 - j)))
def toldB (s : List UInt32) : List UInt8 := (List.range 32).map fun i => byteB (s.getD (i / 4) 0) (i % 4)
theorem toldB_length (s : List UInt32) : (toldB s).length = 32 := by simp [toldB]
/-- The sum of a text. -/
def shaL (b : List UInt8) : List UInt8 := toldB (overL firstL (padL b))
theorem shaL_length (b : List UInt8) : (shaL b).length = 32 := toldB_length _
set_option maxRecDepth 100000 in
theorem sha_abc : (shaL [97, 98, 99]).take 4 = [186, 120, 22, 191] := by decide +kernel
set_option maxRecDepth 100000 in
theorem sha_nil : (shaL []).take 4 = [227, 176, 196, 66] := by decide +kernel
end Go.Proofs.Ytobkkbpeoohfkaa
