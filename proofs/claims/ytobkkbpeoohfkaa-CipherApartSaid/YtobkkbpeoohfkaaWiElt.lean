/-
  Bytes as a slice's elements, in the namespace of wire's texts.
-/
import Derived.Test.YtobkkbpeoohfkaaRows
import Derived.Test.YtobkkbpeoohfkaaWords
import Derived.Deep.QuietTactic
import Derived.BigQuiet
namespace Go.Proofs.Ytobkkbpeoohfkaa.Wi
open Go.RowKit
theorem info_byte : (Try.prog.info? 5).map (fun i => (i.zero, i.size, i.bytes)) = some (some (.int .u8 0), 1, 1) := by kernel_rfl
theorem bytesElt : Elt Try.prog 33 5 (.int .u8 0) 1 := ⟨Try.underlying33, by kernel_rfl, rfl, by omega⟩
theorem bv_replicate (n : Nat) : bv (List.replicate n 0) = List.replicate n (.int .u8 0) := by simp [bv]
end Go.Proofs.Ytobkkbpeoohfkaa.Wi
