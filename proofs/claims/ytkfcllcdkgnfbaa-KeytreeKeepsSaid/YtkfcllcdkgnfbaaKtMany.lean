/-
  The contracts of the reference's Many: how many leaves a node of a depth has.
-/
import Derived.Test.YtkfcllcdkgnfbaaProg
import Derived.Test.YtkfcllcdkgnfbaaArr
namespace Go.Proofs.Ytkfcllcdkgnfbaa.Kt
open Go.RowKit
/-- How many leaves a node of a depth has (as the reference counts). -/
def manyI (d : Int) : Int := if 17 ≤ d then 1 else IntKind.u64.wrap (2 ^ (17 - d).toNat)
theorem wrap_dbl (j : Nat) : IntKind.u64.wrap (2 * IntKind.u64.wrap (2 ^ j)) = IntKind.u64.wrap (2 ^ (j + 1)) := by
  have h : ∀ z : Int, IntKind.u64.wrap z = z % 18446744073709551616 := fun z => by simp [IntKind.wrap, IntKind.signed, IntKind.bits]
  rw [h, h, h, Int.pow_succ]
  generalize (2 : Int) ^ j = a
  omega
set_option maxHeartbeats 400000 in
theorem many_any (d : Int) (hd : -9223372036854775808 ≤ d) (w : World) : Calls Try.prog 30 #[.int .i64 d] w (fun e w' => e = .returned (.int .u64 (manyI d)) ∧ w = w') := by
  go_enter Try.func30, Try.ntmps30
  go_wp2
  go_loop [3, 4] (fun n i => ∃ j : Nat, n = .int .u64 (IntKind.u64.wrap (2 ^ j)) ∧ i = .int .i64 (d + j) ∧ (d + j ≤ 17 ∨ j = 0)) (fun _ i => (17 - intOf i).toNat)
  case atStart => exact ⟨0, rfl, by simp, .inr rfl⟩
  case round =>
    obtain ⟨j, rfl, rfl, hj⟩ := hrel
    by_cases hlt : d + (j : Int) < 17
    · have hw : IntKind.i64.wrap (d + (j : Int) + 1) = d + ((j + 1 : Nat) : Int) := by rw [IntWalk.i64_in _ (by omega)]; omega
      have h17 : decide (d + (j : Int) < 17) = true := by simp; omega
      have hdj : -9223372036854775808 ≤ d + (j : Int) := by omega
      go_wp2
      go_round
      case rel => exact ⟨j + 1, int_eq (wrap_dbl j), int_eq (by omega), .inl (by omega)⟩
      case measure => simp [intOf]; omega
    · have h17 : decide (d + (j : Int) < 17) = false := by simp; omega
      have he : IntKind.u64.wrap (2 ^ j) = manyI d := by
        unfold manyI
        split
        · rename_i h; obtain rfl : j = 0 := by omega
          rfl
        · rename_i h; rw [show (17 - d).toNat = j by omega]
      go_wp2
      go_ret
      exact ⟨rfl, rfl⟩
theorem many_q (d : Int) (hd : -9223372036854775808 ≤ d) (w : World) : Calls Try.prog 30 #[.int .i64 d] w (RetQ (.int .u64 (manyI d)) w) :=
  (many_any d hd w).mono fun _ _ ⟨he, hw⟩ => ⟨he, 0, hw.symm⟩
end Go.Proofs.Ytkfcllcdkgnfbaa.Kt
