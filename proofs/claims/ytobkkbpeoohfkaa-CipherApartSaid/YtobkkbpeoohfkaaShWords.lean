/-
  The contracts of the round words, the first words.
-/
import Derived.Test.YtobkkbpeoohfkaaShSpread
import Derived.BigRegion
namespace Go.Proofs.Ytobkkbpeoohfkaa
open Go.RowKit
theorem one_block (w : World) (A : Obj) : (w.alloc A).heap[w.heap.size]? = some A ∧ Below w.heap.size w (w.alloc A) := ⟨heap_alloc_new _ _, (Below.refl _ _).alloc (Nat.le_refl _) _⟩
theorem firstWords_any (w : World) : Calls Try.prog 31 #[] w (RetB (.agg (uv firstL)) w) := by
  go_enter Try.func31, Try.ntmps31
  go_wp2_with (refine wpList_store_row rfl 60 (.tmp 0) (.tmp 1) rfl w.heap.size (uv firstL) rfl rfl 60 (uv (List.replicate 8 0)) (heap_alloc_new _ _) info28 rfl (uv_one _) ?_)
  exact bodyPost_ret (v := .agg (uv firstL)) (results_cell_row Try.results31 _ _ w.heap.size 60 (uv firstL) (0, 0) _ rfl (setRow_heap _ _ _ _ _ _ (heap_alloc_new _ _)) Try.underlying60 rfl info28) rfl ⟨rfl, below_setRow ((Below.refl _ _).alloc (Nat.le_refl _) _) (Nat.le_refl _) _⟩
/-- The round words' cells. -/
def kV : Array Value := #[.int .u32 1116352408, .int .u32 1899447441, .int .u32 3049323471, .int .u32 3921009573, .int .u32 961987163, .int .u32 1508970993, .int .u32 2453635748, .int .u32 2870763221, .int .u32 3624381080, .int .u32 310598401, .int .u32 607225278, .int .u32 1426881987, .int .u32 1925078388, .int .u32 2162078206, .int .u32 2614888103, .int .u32 3248222580, .int .u32 3835390401, .int .u32 4022224774, .int .u32 264347078, .int .u32 604807628, .int .u32 770255983, .int .u32 1249150122, .int .u32 1555081692, .int .u32 1996064986, .int .u32 2554220882, .int .u32 2821834349, .int .u32 2952996808, .int .u32 3210313671, .int .u32 3336571891, .int .u32 3584528711, .int .u32 113926993, .int .u32 338241895, .int .u32 666307205, .int .u32 773529912, .int .u32 1294757372, .int .u32 1396182291, .int .u32 1695183700, .int .u32 1986661051, .int .u32 2177026350, .int .u32 2456956037, .int .u32 2730485921, .int .u32 2820302411, .int .u32 3259730800, .int .u32 3345764771, .int .u32 3516065817, .int .u32 3600352804, .int .u32 4094571909, .int .u32 275423344, .int .u32 430227734, .int .u32 506948616, .int .u32 659060556, .int .u32 883997877, .int .u32 958139571, .int .u32 1322822218, .int .u32 1537002063, .int .u32 1747873779, .int .u32 1955562222, .int .u32 2024104815, .int .u32 2227730452, .int .u32 2361852424, .int .u32 2428436474, .int .u32 2756734187, .int .u32 3204031479, .int .u32 3329325298]
set_option maxRecDepth 100000 in
theorem kV_eq : kV = uv kL := by kernel_rfl
theorem kV_info : (Try.prog.info? 83).map (·.size) = some kV.size := by kernel_rfl
theorem kV_one : kV.all (·.oneCell') = true := by kernel_rfl
set_option maxRecDepth 100000 in
set_option maxHeartbeats 800000 in
theorem roundWords_any (w : World) : Calls Try.prog 64 #[] w (RetB (.agg (uv kL)) w) := by
  rw [← kV_eq]
  go_enter Try.func64, Try.ntmps64
  go_wp2_with (refine wpList_store_row rfl 83 (.tmp 0) (.tmp 1) rfl w.heap.size kV rfl rfl 83 (uv (List.replicate 64 0)) (heap_alloc_new _ _) kV_info (by kernel_rfl) kV_one ?_)
  exact bodyPost_ret (v := .agg kV) (results_cell_row Try.results64 _ _ w.heap.size 83 kV (0, 0) _ rfl (setRow_heap _ _ _ _ _ _ (heap_alloc_new _ _)) Try.underlying83 rfl kV_info) rfl ⟨rfl, below_setRow ((Below.refl _ _).alloc (Nat.le_refl _) _) (Nat.le_refl _) _⟩
end Go.Proofs.Ytobkkbpeoohfkaa
