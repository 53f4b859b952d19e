/-
  The rounds of a state whose columns go some places on are those of the state, gone on as many.
-/
import Derived.Test.YtllgaodnfoehkaaPlain
import Derived.KernelRfl
namespace Go.Proofs.Ytllgaodnfoehkaa
open Go.RowKit
/-- A state whose columns go n places on, as far as its first numbers are laid. -/
def turnTo (s : List UInt32) (n : Nat) : Nat → List UInt32
  | 0 => List.replicate 16 0
  | i + 1 => (turnTo s n i).set (i / 4 * 4 + (i + n) % 4) (s.getD i 0)
theorem turnTo_length (s : List UInt32) (n : Nat) : ∀ i, (turnTo s n i).length = 16
  | 0 => rfl
  | i + 1 => by rw [turnTo, List.length_set, turnTo_length s n i]
def turnL (s : List UInt32) (n : Nat) : List UInt32 := turnTo s n 16
theorem turnL_length (s : List UInt32) (n : Nat) : (turnL s n).length = 16 := turnTo_length s n 16
theorem list16 (s : List UInt32) (hs : s.length = 16) : ∃ s0 s1 s2 s3 s4 s5 s6 s7 s8 s9 s10 s11 s12 s13 s14 s15, s = [s0, s1, s2, s3, s4, s5, s6, s7, s8, s9, s10, s11, s12, s13, s14, s15] := by
  match s, hs with
  | [s0, s1, s2, s3, s4, s5, s6, s7, s8, s9, s10, s11, s12, s13, s14, s15], _ => exact ⟨s0, s1, s2, s3, s4, s5, s6, s7, s8, s9, s10, s11, s12, s13, s14, s15, rfl⟩
theorem cols_turn00 (s0 s1 s2 s3 s4 s5 s6 s7 s8 s9 s10 s11 s12 s13 s14 s15 : UInt32) : colsTo 0 (turnL [s0, s1, s2, s3, s4, s5, s6, s7, s8, s9, s10, s11, s12, s13, s14, s15] 0) 4 = turnL (colsTo 0 [s0, s1, s2, s3, s4, s5, s6, s7, s8, s9, s10, s11, s12, s13, s14, s15] 4) 0 := by kernel_rfl
theorem cols_turn01 (s0 s1 s2 s3 s4 s5 s6 s7 s8 s9 s10 s11 s12 s13 s14 s15 : UInt32) : colsTo 0 (turnL [s0, s1, s2, s3, s4, s5, s6, s7, s8, s9, s10, s11, s12, s13, s14, s15] 1) 4 = turnL (colsTo 0 [s0, s1, s2, s3, s4, s5, s6, s7, s8, s9, s10, s11, s12, s13, s14, s15] 4) 1 := by kernel_rfl
theorem cols_turn02 (s0 s1 s2 s3 s4 s5 s6 s7 s8 s9 s10 s11 s12 s13 s14 s15 : UInt32) : colsTo 0 (turnL [s0, s1, s2, s3, s4, s5, s6, s7, s8, s9, s10, s11, s12, s13, s14, s15] 2) 4 = turnL (colsTo 0 [s0, s1, s2, s3, s4, s5, s6, s7, s8, s9, s10, s11, s12, s13, s14, s15] 4) 2 := by kernel_rfl
theorem cols_turn03 (s0 s1 s2 s3 s4 s5 s6 s7 s8 s9 s10 s11 s12 s13 s14 s15 : UInt32) : colsTo 0 (turnL [s0, s1, s2, s3, s4, s5, s6, s7, s8, s9, s10, s11, s12, s13, s14, s15] 3) 4 = turnL (colsTo 0 [s0, s1, s2, s3, s4, s5, s6, s7, s8, s9, s10, s11, s12, s13, s14, s15] 4) 3 := by kernel_rfl
theorem cols_turn10 (s0 s1 s2 s3 s4 s5 s6 s7 s8 s9 s10 s11 s12 s13 s14 s15 : UInt32) : colsTo 1 (turnL [s0, s1, s2, s3, s4, s5, s6, s7, s8, s9, s10, s11, s12, s13, s14, s15] 0) 4 = turnL (colsTo 1 [s0, s1, s2, s3, s4, s5, s6, s7, s8, s9, s10, s11, s12, s13, s14, s15] 4) 0 := by kernel_rfl
theorem cols_turn11 (s0 s1 s2 s3 s4 s5 s6 s7 s8 s9 s10 s11 s12 s13 s14 s15 : UInt32) : colsTo 1 (turnL [s0, s1, s2, s3, s4, s5, s6, s7, s8, s9, s10, s11, s12, s13, s14, s15] 1) 4 = turnL (colsTo 1 [s0, s1, s2, s3, s4, s5, s6, s7, s8, s9, s10, s11, s12, s13, s14, s15] 4) 1 := by kernel_rfl
theorem cols_turn12 (s0 s1 s2 s3 s4 s5 s6 s7 s8 s9 s10 s11 s12 s13 s14 s15 : UInt32) : colsTo 1 (turnL [s0, s1, s2, s3, s4, s5, s6, s7, s8, s9, s10, s11, s12, s13, s14, s15] 2) 4 = turnL (colsTo 1 [s0, s1, s2, s3, s4, s5, s6, s7, s8, s9, s10, s11, s12, s13, s14, s15] 4) 2 := by kernel_rfl
theorem cols_turn13 (s0 s1 s2 s3 s4 s5 s6 s7 s8 s9 s10 s11 s12 s13 s14 s15 : UInt32) : colsTo 1 (turnL [s0, s1, s2, s3, s4, s5, s6, s7, s8, s9, s10, s11, s12, s13, s14, s15] 3) 4 = turnL (colsTo 1 [s0, s1, s2, s3, s4, s5, s6, s7, s8, s9, s10, s11, s12, s13, s14, s15] 4) 3 := by kernel_rfl
theorem cols_turn {t n : Nat} (ht : t < 2) (hn : n < 4) (s : List UInt32) (hs : s.length = 16) : colsTo t (turnL s n) 4 = turnL (colsTo t s 4) n := by
  obtain ⟨s0, s1, s2, s3, s4, s5, s6, s7, s8, s9, s10, s11, s12, s13, s14, s15, rfl⟩ := list16 s hs
  match t, ht with
  | 0, _ =>
    match n, hn with
    | 0, _ => exact cols_turn00 _ _ _ _ _ _ _ _ _ _ _ _ _ _ _ _
    | 1, _ => exact cols_turn01 _ _ _ _ _ _ _ _ _ _ _ _ _ _ _ _
    | 2, _ => exact cols_turn02 _ _ _ _ _ _ _ _ _ _ _ _ _ _ _ _
    | 3, _ => exact cols_turn03 _ _ _ _ _ _ _ _ _ _ _ _ _ _ _ _
  | 1, _ =>
    match n, hn with
    | 0, _ => exact cols_turn10 _ _ _ _ _ _ _ _ _ _ _ _ _ _ _ _
    | 1, _ => exact cols_turn11 _ _ _ _ _ _ _ _ _ _ _ _ _ _ _ _
    | 2, _ => exact cols_turn12 _ _ _ _ _ _ _ _ _ _ _ _ _ _ _ _
    | 3, _ => exact cols_turn13 _ _ _ _ _ _ _ _ _ _ _ _ _ _ _ _
theorem dbl_turn {n : Nat} (hn : n < 4) (s : List UInt32) (hs : s.length = 16) : ∀ k, dbl (turnL s n) k = turnL (dbl s k) n
  | 0 => rfl
  | k + 1 => by
    have hl : (dbl s k).length = 16 := by rw [dbl_length, hs]
    rw [dbl, dbl, dbl_turn hn s hs k, cols_turn (by omega) hn _ hl, cols_turn (by omega) hn _ (by rw [colsTo_length, hl])]
theorem rounds_turn {n : Nat} (hn : n < 4) (s : List UInt32) (hs : s.length = 16) : rounds (turnL s n) = turnL (rounds s) n := dbl_turn hn s hs 10
end Go.Proofs.Ytllgaodnfoehkaa
