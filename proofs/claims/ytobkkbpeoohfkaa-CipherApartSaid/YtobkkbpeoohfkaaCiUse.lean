/-
  Hide by the little cipher and by the real one.
-/
import Derived.Test.YtobkkbpeoohfkaaCiHide
import Derived.Test.YtobkkbpeoohfkaaCiPad
namespace Go.Proofs.Ytobkkbpeoohfkaa.Ci
open Go.RowKit
theorem lit_method (x : Array Value) (fuel : Nat) (W : World) : (method (fuel + 1) 46 (.agg x) "Pad").run Try.prog W = .ok (87, .agg x) W := by kernel_rfl
theorem lit_calls (args : Array Value) (W : World) : (callFunc 87 args).run Try.prog W = .ok (.enter 87 args) W := by kernel_rfl
theorem hide_lit (a o key : List UInt8) (p n : Int) (A : Option Addr) (m c : Nat) (l : List UInt8) (w : World) (ha : a.length = 32) (ho : o.length = 32) (hk : key.length = 32) (hl : l.length = m) (hm : m ≤ 32) (hr : Rd w.heap.size w A (bv l)) :
    Calls Try.prog 17 #[.iface 46 (.agg (litC a p o)), .agg (bva key), .int .u64 n, .slice A m c] w (RetRow 5 (bv (Wi.xorL l (padL a p o key n))) w) :=
  hide_b 46 _ 87 key _ n A m c l w hk (padL_length ho) hl hm (lit_method _) lit_calls (fun W => pad_any a o key p n ha ho hk W) hr
/-- The plain Lit. -/
def zeros : List UInt8 := List.replicate 32 0
theorem zeros_length : zeros.length = 32 := rfl
theorem xorL_zeros {l : List UInt8} (h : l.length = 32) : Wi.xorL l zeros = l := by
  apply List.ext_getElem
  · rw [Wi.xorL_length, zeros_length, h]; rfl
  · intro i h1 h2
    rw [Wi.xorL_get h1 h2 (by rw [zeros_length]; omega)]
    unfold zeros; rw [List.getElem_replicate]; exact UInt8.xor_zero
theorem padL_zero (k : List UInt8) (n : Int) : padL zeros 0 zeros k n = litL k n := by
  unfold padL; split
  · exact xorL_zeros (litL_length _ _)
  · rfl
theorem hide_zero (key : List UInt8) (n : Int) (A : Option Addr) (m c : Nat) (l : List UInt8) (w : World) (hk : key.length = 32) (hl : l.length = m) (hm : m ≤ 32) (hr : Rd w.heap.size w A (bv l)) :
    Calls Try.prog 17 #[.iface 46 (.agg (litC zeros 0 zeros)), .agg (bva key), .int .u64 n, .slice A m c] w (RetRow 5 (bv (Wi.xorL l (litL key n))) w) := by
  rw [← padL_zero]
  exact hide_lit zeros zeros key 0 n A m c l w zeros_length zeros_length hk hl hm hr
end Go.Proofs.Ytobkkbpeoohfkaa.Ci
