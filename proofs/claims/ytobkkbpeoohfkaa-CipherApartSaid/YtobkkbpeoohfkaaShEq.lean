/-
  Sums, words are equal to themselves; a hash that New makes, by a letter.
-/
import Derived.Test.YtobkkbpeoohfkaaEqSelf
import Derived.Test.YtobkkbpeoohfkaaShHSum
namespace Go.Proofs.Ytobkkbpeoohfkaa
open Go.RowKit
theorem info27s : (Try.prog.info? 54).isSome = true := by kernel_rfl
theorem info5s : (Try.prog.info? 5).isSome = true := by kernel_rfl
theorem eq_key (s : List UInt8) (hs : s.length = 32) (w : World) : (Op.equalIn 10000 23 (.agg (bva s)) (.agg (bva s))).run Try.prog w = .ok true w := by
  obtain ⟨i, hi⟩ := Option.isSome_iff_exists.1 info5s
  exact run_equal_self w Try.underlying23 Try.underlying5 hi (by kernel_rfl) (bva s) (by rw [bva_size, hs]) (bva_nums s)
theorem eq_words (s : List UInt32) (hs : s.length = 8) (w : World) : (Op.equalIn 10000 60 (.agg (uv s)) (.agg (uv s))).run Try.prog w = .ok true w := by
  obtain ⟨i, hi⟩ := Option.isSome_iff_exists.1 info27s
  exact run_equal_self w Try.underlying60 Try.underlying54 hi (by kernel_rfl) (uv s) (by rw [uv_size, hs]) (uv_nums s)
def RetNew' (w : World) (e : Ending) (w' : World) : Prop := ∃ g, e = .returned (.pointer (some ⟨g, 0, none⟩)) ∧ w.heap.size ≤ g ∧ g < w'.heap.size ∧ HashIs w' g [] ∧ Below w.heap.size w w'
theorem new_any' (w : World) : Calls Try.prog 50 #[] w (RetNew' w) :=
  (new_any w).mono fun _ _ ⟨h1, h2, h3⟩ => ⟨_, h1, Nat.le_refl _, h2.lt, h2, h3⟩
end Go.Proofs.Ytobkkbpeoohfkaa
