import Derived.Test.YtllgaodnfoehkaaTold
import Derived.Test.YtllgaodnfoehkaaTurnL
import Derived.Test.YtllgaodnfoehkaaRounds
namespace Go.Proofs.Ytllgaodnfoehkaa
open Go.RowKit
set_option maxHeartbeats 400000 in
theorem turned_any (s : List UInt32) (hs : s.length = 16) (n : Nat) (hn : n < 4) (w : World) :
    Calls Try.prog 18 #[.agg (uv s), .int .i64 (n : Int)] w (RetB (.agg (uv (turnL s n))) w) := by
  have n0 : (0 : Int) ≤ (n : Int) := by omega
  have n1 : (n : Int) < 4 := by omega
  go_enter Try.func18, Try.ntmps18
  go_wp2
  go_loopw [7] (fun i wr => ∃ k : Nat, k ≤ 16 ∧ i = .int .i64 k ∧ Blk wr w.heap.size (uv s) 30 ∧ Blk wr (w.heap.size + 1) (uv (List.replicate 16 0)) 30 ∧ Blk wr (w.heap.size + 1 + 1) (uv (turnTo s n k)) 30 ∧ Below w.heap.size w wr) (fun i _ => 16 - (intOf i).toNat)
  case atStart =>
    obtain ⟨b1, b2, b3, hb⟩ := three_blocks w (.cells (uv s) 30) (.cells (uv (List.replicate 16 0)) 30) (.cells (uv (List.replicate 16 0)) 30)
    exact ⟨0, by omega, rfl, b1, b2, b3, hb⟩
  case round =>
    obtain ⟨k, hk, rfl, B1, B2, B3, hbel⟩ := hrel
    by_cases hlt : k < 16
    · obtain ⟨d, hd⟩ : ∃ d : Nat, d = k / 4 * 4 + (k + n) % 4 := ⟨_, rfl⟩
      have ed : (k : Int) / 4 * 4 + ((k : Int) + (n : Int)) % 4 = (d : Int) := by omega
      have k0 : (0 : Int) ≤ (k : Int) := by omega
      have k1 : (k : Int) < 16 := by omega
      have d0 : (0 : Int) ≤ (d : Int) := by omega
      have d1 : (d : Int) < 16 := by omega
      obtain ⟨x, hx⟩ : ∃ x, x = s.getD k 0 := ⟨_, rfl⟩
      have C0 := B1.cellu (k := k) (by omega)
      rw [← hx] at C0
      have D0 := B3.cellu (k := d) (by rw [turnTo_length]; omega)
      have D1 := B3.free d
      have HX := Lib.hid hx
      have HD := Lib.hid hd
      have G1 := Lib.hid B1
      have G2 := Lib.hid B2
      have G3 := Lib.hid B3
      clear hx hd B1 B2 B3
      go_wp2
      go_roundw
      case rel => exact ⟨k + 1, by omega, by go_num, by exact G1.out.other (by omega) _ _, by exact G2.out.other (by omega) _ _, by rw [turnTo, ← HD.out, ← HX.out]; exact G3.out.set d _, by exact hbel.setCell (by simp; omega) _⟩
      case measure => simp [intOf]; omega
    · obtain rfl : k = 16 := by omega
      have hi : (Try.prog.info? 30).map (·.size) = some (uv (turnL s n)).size := by rw [uv_size, turnL_length]; exact info30
      have Hi := Lib.hid hi
      have G2 := Lib.hid B2
      have G3 : Hid (Blk wr (w.heap.size + 1 + 1) (uv (turnL s n)) 30) := B3
      clear hi B1 B2 B3
      go_wp2_with (first
        | (refine wpList_load_row rfl 30 (.tmp 5) rfl (w.heap.size + 1 + 1) rfl 30 (uv (turnL s n)) (0, 0) _ G3.out Try.underlying30 rfl Hi.out ?_)
        | (refine wpList_store_row rfl 30 (.tmp 4) (.tmp 23) rfl (w.heap.size + 1) (uv (turnL s n)) rfl rfl 30 (uv (List.replicate 16 0)) G2.out Hi.out (by rw [uv_size, uv_size, turnL_length]; rfl) (uv_one _) ?_))
      exact bodyPost_ret (v := .agg (uv (turnL s n))) (results_cell_row Try.results18 _ _ (w.heap.size + 1) 30 (uv (turnL s n)) (0, 0) _ rfl (setRow_heap _ _ _ _ _ _ G2.out) Try.underlying30 rfl Hi.out) rfl ⟨rfl, below_setRow hbel (by omega) _⟩
end Go.Proofs.Ytllgaodnfoehkaa
