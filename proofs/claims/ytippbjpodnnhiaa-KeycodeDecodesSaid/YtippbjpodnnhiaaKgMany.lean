/-
  The contracts of the reference's Many: how many leaves a node of a depth has.
-/
import Derived.Test.YtippbjpodnnhiaaArr
namespace Go.Proofs.Ytippbjpodnnhiaa.Kg
open Go.RowKit
/-- How many leaves a node of a depth has (as the reference counts). -/
def manyI (d : Int) : Int := if 17 ≤ d then 1 else IntKind.u64.wrap (2 ^ (17 - d).toNat)
theorem wrap_dbl (j : Nat) : IntKind.u64.wrap (2 * IntKind.u64.wrap (2 ^ j)) = IntKind.u64.wrap (2 ^ (j + 1)) := by
  have h : ∀ z : Int, IntKind.u64.wrap z = z % 18446744073709551616 := fun z => by simp [IntKind.wrap, IntKind.signed, IntKind.bits]
  rw [h, h, h, Int.pow_succ]
  generalize (2 : Int) ^ j = a
  omega
end Go.Proofs.Ytippbjpodnnhiaa.Kg
