/-
  Hide by the real cipher.
-/
import Derived.Test.YtobkkbpeoohfkaaCiHide
import Derived.Test.YtobkkbpeoohfkaaCiReal
namespace Go.Proofs.Ytobkkbpeoohfkaa.Ci
open Go.RowKit
theorem real_method (x : Array Value) (fuel : Nat) (W : World) : (method (fuel + 1) 27 (.agg x) "Pad").run Try.prog W = .ok (13, .agg x) W := by kernel_rfl
theorem real_calls (args : Array Value) (W : World) : (callFunc 13 args).run Try.prog W = .ok (.enter 13 args) W := by kernel_rfl
theorem hide_real (key : List UInt8) (n : Nat) (A : Option Addr) (m c : Nat) (l : List UInt8) (w : World) (hk : key.length = 32) (hl : l.length = m) (hm : m ≤ 32) (hr : Rd w.heap.size w A (bv l)) :
    Calls Try.prog 17 #[.iface 27 (.agg #[]), .agg (bva key), .int .u64 (n : Int), .slice A m c] w (RetRow 5 (bv (Wi.xorL l (rpadL key n))) w) :=
  hide_b 27 _ 13 key _ n A m c l w hk (rpadL_length _ _) hl hm (real_method _) real_calls (fun W => realpad_any key hk n W) hr
end Go.Proofs.Ytobkkbpeoohfkaa.Ci
