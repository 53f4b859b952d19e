/-
  The contract of keytree's leaves: how many leaves a node of a depth has.
-/
import Derived.Test.YtkfcllcdkgnfbaaKtNode
namespace Go.Proofs.Ytkfcllcdkgnfbaa.Kt
open Go.RowKit
theorem leaves_any (d : Int) (h0 : 0 ≤ d) (h17 : d ≤ 17) (w : World) : Calls Try.prog 37 #[.int .i64 d] w (fun e w' => e = .returned (.int .u64 (manyI d)) ∧ w = w') := by
  have hw : IntKind.i64.wrap (17 - d) = 17 - d := IntWalk.i64_in _ (by omega)
  go_enter Try.func37, Try.ntmps37
  go_wp2
  go_ret
  refine ⟨congrArg (fun z => Ending.returned (Value.int .u64 z)) ?_, rfl⟩
  unfold manyI
  split
  · rename_i h; obtain rfl : d = 17 := by omega
    rfl
  · rfl
end Go.Proofs.Ytkfcllcdkgnfbaa.Kt
