/-
  A state, a block is equal to itself.
-/
import Derived.Test.YtllgaodnfoehkaaEqSelf
import Derived.Test.YtllgaodnfoehkaaBlock
namespace Go.Proofs.Ytllgaodnfoehkaa
open Go.RowKit
theorem uv_nums (s : List UInt32) : ∀ i (h : i < (uv s).size), ∃ z, (uv s)[i] = .int .u32 z := fun i h => by
  rw [uv_size] at h
  exact ⟨(s[i].toNat : Int), by simp [uv]⟩
theorem bva_nums (s : List UInt8) : ∀ i (h : i < (bva s).size), ∃ z, (bva s)[i] = .int .u8 z := fun i h => by
  rw [bva_size] at h
  exact ⟨(s[i].toNat : Int), by simp [bva, bv]⟩
theorem info22 : (Try.prog.info? 22).isSome = true := by kernel_rfl
theorem info5s : (Try.prog.info? 5).isSome = true := by kernel_rfl
theorem eq_state (s : List UInt32) (hs : s.length = 16) (w : World) : (Op.equalIn 10000 30 (.agg (uv s)) (.agg (uv s))).run Try.prog w = .ok true w := by
  obtain ⟨i, hi⟩ := Option.isSome_iff_exists.1 info22
  exact run_equal_self w Try.underlying30 Try.underlying22 hi (by kernel_rfl) (uv s) (by rw [uv_size, hs]) (uv_nums s)
theorem eq_block (s : List UInt8) (hs : s.length = 64) (w : World) : (Op.equalIn 10000 38 (.agg (bva s)) (.agg (bva s))).run Try.prog w = .ok true w := by
  obtain ⟨i, hi⟩ := Option.isSome_iff_exists.1 info5s
  exact run_equal_self w Try.underlying38 Try.underlying5 hi (by kernel_rfl) (bva s) (by rw [bva_size, hs]) (bva_nums s)
end Go.Proofs.Ytllgaodnfoehkaa
