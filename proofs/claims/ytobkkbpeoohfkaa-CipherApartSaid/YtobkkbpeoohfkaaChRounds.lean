import Derived.Test.YtobkkbpeoohfkaaChCols
namespace Go.Proofs.Ytobkkbpeoohfkaa
open Go.RowKit
/-- The state's block holds u, the result's noughts. -/
def Two (w wr : World) (u : List UInt32) (A : TypeId) : Prop :=
  wr.heap[w.heap.size]? = some (.cells (uv u) A (0, 0)) ∧ wr.heap[w.heap.size + 1]? = some (.cells (uv (List.replicate 16 0)) A (0, 0)) ∧ Below w.heap.size w wr
theorem Two.below {w wr w1 : World} {u : List UInt32} {A : TypeId} (h : Two w wr u A) (hb : Below wr.heap.size wr w1) : Two w w1 u A :=
  ⟨block_below h.1 hb, block_below h.2.1 hb, h.2.2.trans (hb.mono h.2.2.size)⟩
theorem Two.store {w wr : World} {u : List UInt32} {A : TypeId} (h : Two w wr u A) (u' : List UInt32) : Two w (wr.setRow w.heap.size (uv u')) u' A :=
  ⟨setRow_heap _ _ _ _ _ _ h.1, by rw [setRow_other _ _ _ _ (by omega)]; exact h.2.1, below_setRow h.2.2 (Nat.le_refl _) _⟩

set_option maxHeartbeats 400000 in
theorem rounds_any (s : List UInt32) (hs : s.length = 16) (w : World) :
    Calls Try.prog 36 #[.agg (uv s)] w (RetB (.agg (uv (rounds s))) w) := by
  go_enter Try.func36, Try.ntmps36
  go_wp2
  go_loopw [3] (fun i wr => ∃ k : Nat, ∃ u : List UInt32, k ≤ 10 ∧ i = .int .i64 k ∧ u.length = 16 ∧ Hid (u = dbl s k) ∧ Two w wr u 64) (fun i _ => 10 - (intOf i).toNat)
  case atStart => exact ⟨0, s, by omega, rfl, hs, rfl, heap_alloc2_old _ _ _, heap_alloc2_new _ _ _, ((Below.refl _ _).alloc (Nat.le_refl _) _).alloc (by simp) _⟩
  case round =>
    obtain ⟨k, u, hk, rfl, hu, HU, ht⟩ := hrel
    have hi : (Try.prog.info? 64).map (·.size) = some (uv u).size := by rw [uv_size, hu]; exact info30
    have Hi := Lib.hid hi
    have Hu := Lib.hid hu
    clear hi hu
    by_cases hlt : k < 10
    · go_wp2_with (refine wpList_load_row rfl 64 (.tmp 1) rfl w.heap.size rfl 64 (uv u) (0, 0) _ ht.1 Try.underlying64 rfl Hi.out ?_)
      refine (columns_any u Hu.out _).mono ?_
      rintro e w1 ⟨rfl, hb1⟩
      have t1 := ht.below hb1
      go_wp2_with fail
      refine (slants_any (colsTo 0 u 4) (by rw [colsTo_length, Hu.out]) _).mono ?_
      rintro e w2 ⟨rfl, hb2⟩
      have t2 := t1.below hb2
      have t3 := t2.store (colsTo 1 (colsTo 0 u 4) 4)
      have Hv : Hid ((colsTo 1 (colsTo 0 u 4) 4).length = 16) := by rw [colsTo_length, colsTo_length]; exact Hu.out
      go_wp2_with (refine wpList_store_row rfl 64 (.tmp 1) (.tmp 7) rfl w.heap.size (uv (colsTo 1 (colsTo 0 u 4) 4)) rfl rfl 64 (uv u) t2.1 (by rw [uv_size, Hv.out]; exact info30) (by rw [uv_size, uv_size, Hv.out, Hu.out]) (uv_one _) ?_)
      go_roundw
      case rel => exact ⟨k + 1, colsTo 1 (colsTo 0 u 4) 4, by omega, by go_num, Hv.out, by rw [HU.out]; rfl, t3⟩
      case measure => simp [intOf]; omega
    · obtain rfl : k = 10 := by omega
      obtain ⟨h1, h2, hbel⟩ := ht
      have H1 := Lib.hid h1
      have H2 := Lib.hid h2
      clear h1 h2
      go_wp2_with (first
        | (refine wpList_load_row rfl 64 (.tmp 1) rfl w.heap.size rfl 64 (uv u) (0, 0) _ H1.out Try.underlying64 rfl Hi.out ?_)
        | (refine wpList_store_row rfl 64 (.tmp 2) (.tmp 9) rfl (w.heap.size + 1) (uv u) rfl rfl 64 (uv (List.replicate 16 0)) H2.out Hi.out (by rw [uv_size, uv_size, Hu.out]; rfl) (uv_one u) ?_))
      exact bodyPost_ret (v := .agg (uv u)) (results_cell_row Try.results36 _ _ (w.heap.size + 1) 64 (uv u) (0, 0) _ rfl (setRow_heap _ _ _ _ _ _ H2.out) Try.underlying64 rfl Hi.out) rfl ⟨by rw [HU.out]; rfl, below_setRow hbel (by omega) _⟩
end Go.Proofs.Ytobkkbpeoohfkaa
