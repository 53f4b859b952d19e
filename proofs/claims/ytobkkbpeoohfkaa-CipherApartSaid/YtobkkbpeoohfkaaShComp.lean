/-
  The contract of Compress: the words behind a block.
-/
import Derived.Test.YtobkkbpeoohfkaaShMixed
namespace Go.Proofs.Ytobkkbpeoohfkaa
open Go.RowKit
attribute [local go_sem ↓] Go.wp_at_zero Go.wp_at_succ
set_option maxHeartbeats 800000 in
theorem compress_any (s : List UInt32) (blk : List UInt8) (hs : s.length = 8) (hk : blk.length = 64) (w : World) :
    Calls Try.prog 44 #[.agg (uv s), .agg (bva blk)] w (RetB (.agg (uv (compL s blk))) w) := by
  have HS : Hid ((Try.prog.info? 60).map (·.size) = some (uv s).size) := by rw [uv_size, hs]; exact info28
  have HK : Hid ((Try.prog.info? 52).map (·.size) = some (bva blk).size) := by rw [bva_size, hk]; exact info29
  have HL := Lib.hid hk
  have HN := Lib.hid hs
  clear hs hk
  obtain ⟨b1, b2, b3, hb⟩ := three_blocks w (.cells (uv s) 60) (.cells (bva blk) 52) (.cells (uv (List.replicate 8 0)) 60)
  go_enter Try.func44, Try.ntmps44
  go_wp2_with fail
  refine wp_region_held_drew (S := fun w' => Blk w' w.heap.size (uv s) 60 ∧ Blk w' (w.heap.size + 1) (bva blk) 52 ∧ Blk w' (w.heap.size + 1 + 1) (uv (List.replicate 8 0)) 60 ∧ Below w.heap.size w w') (by kernel_rfl) ⟨b1, b2, b3, hb.drew⟩ (fun hh => ?_)
  have HH := Lib.hid hh
  clear hh
  refine wpAnyH_take (i := 0) (v := .agg (uv s)) rfl (by kernel_rfl) (by kernel_rfl) (by kernel_rfl) (fun _ _ _ h => h) (Or.inl ⟨by rfl, fun w' hw' => ?y0⟩) HH.out ?_
  case y0 => exact exec_load 60 (.tmp 2) rfl rfl hw'.1 Try.underlying60 rfl HS.out
  refine wpAnyH_take (i := 1) (v := .agg (bva blk)) rfl (by kernel_rfl) (by kernel_rfl) (by kernel_rfl) (fun _ _ _ h => h) (Or.inl ⟨by rfl, fun w' hw' => ?y1⟩) HH.out ?_
  case y1 => exact exec_load 52 (.tmp 3) rfl rfl hw'.2.1 Try.underlying52 rfl HK.out
  refine wpAnyH_take (i := 4) (v := ?v4) rfl (by kernel_rfl) (by kernel_rfl) (by kernel_rfl) (fun _ _ _ h => h) (Or.inl ⟨by rfl, fun w' _ => ?y4⟩) HH.out ?_
  case y4 => (go_simp; try with_reducible rfl)
  refine wpAnyH_ready (rs := [2]) (by kernel_rfl) (by simp) (AllReadyH.cons rfl (fun K hK => ?_) AllReadyH.nil)
  go_simp
  refine (spread_any blk HL.out _).mono ?_
  rintro e w2 ⟨rfl, bw2⟩
  go_simp
  refine hK.out _ _ ⟨HH.out.1.below bw2, HH.out.2.1.below bw2, HH.out.2.2.1.below bw2, HH.out.2.2.2.trans (bw2.mono HH.out.2.2.2.size)⟩ (fun hh => ?_)
  have HH' := Lib.hid hh
  clear hh hK K HH bw2
  have HH := Lib.hid HH'.out
  clear HH'
  refine wpAnyH_ready (rs := [3]) (by kernel_rfl) (by simp) (AllReadyH.cons rfl (fun K hK => ?_) AllReadyH.nil)
  go_simp
  refine (mixed_any s (wTo blk 64) HN.out (wTo_length _ _) _).mono ?_
  rintro e w3 ⟨rfl, bw3⟩
  go_simp
  refine hK.out _ _ ⟨HH.out.1.below bw3, HH.out.2.1.below bw3, HH.out.2.2.1.below bw3, HH.out.2.2.2.trans (bw3.mono HH.out.2.2.2.size)⟩ (fun hh => ?_)
  have HH' := Lib.hid hh
  clear hh hK K HH bw3
  have HH := Lib.hid HH'.out
  clear HH'
  refine wpAnyH_done (by kernel_rfl) ?_ _
  have HM : Hid ((mixL s (wTo blk 64)).length = 8) := mixL_length _ _
  obtain ⟨m, hm⟩ : ∃ m, m = mixL s (wTo blk 64) := ⟨_, rfl⟩
  rw [← hm] at HM
  have HC : Hid (compL s blk = sumsTo s m 8) := by rw [hm]; exact rfl
  try rw [← hm]
  clear hm b1 b2 b3 hb
  go_wp2_with fail
  go_loopw [5, 6, 11] (fun _ _ i wr => ∃ k : Nat, k ≤ 8 ∧ i = .int .i64 k ∧ Blk wr w.heap.size (uv (sumsTo s m k)) 60 ∧ Blk wr (w.heap.size + 1 + 1) (uv (List.replicate 8 0)) 60 ∧ Below w.heap.size w wr) (fun _ _ i _ => 8 - (intOf i).toNat)
  case atStart => exact ⟨0, by omega, rfl, HH.out.1, HH.out.2.2.1, HH.out.2.2.2⟩
  case round =>
    clear HH
    obtain ⟨k, hk, rfl, B1, B3, hbel⟩ := hrel
    by_cases hlt : k < 8
    · have k0 : (0 : Int) ≤ (k : Int) := by omega
      have k1 : (k : Int) < 8 := by omega
      have hix := index_u32 Try.underlying60 m HM.out k hlt
      obtain ⟨x, hx⟩ : ∃ x, x = (sumsTo s m k).getD k 0 := ⟨_, rfl⟩
      obtain ⟨y, hy⟩ : ∃ y, y = m.getD k 0 := ⟨_, rfl⟩
      rw [← hy] at hix
      have C0 := B1.cellu (k := k) (by rw [sumsTo_length, HN.out]; omega)
      rw [← hx] at C0
      have C1 := B1.free k
      have HY := Lib.hid hy
      have HX := Lib.hid hx
      have G1 := Lib.hid B1
      have G3 := Lib.hid B3
      clear hx hy B1 B3
      go_wp2
      go_roundw
      case rel => exact ⟨k + 1, by omega, by go_num, by rw [sumsTo, ← HX.out, ← HY.out]; exact G1.out.setv k _ (int_eq (w_add x y)), by exact G3.out.other (by omega) _ _, by exact hbel.setCell (by simp) _⟩
      case measure => simp [intOf]; omega
    · obtain rfl : k = 8 := by omega
      have hi : (Try.prog.info? 60).map (·.size) = some (uv (sumsTo s m 8)).size := by rw [uv_size, sumsTo_length, HN.out]; exact info28
      have Hi := Lib.hid hi
      have G1 := Lib.hid B1
      have G3 := Lib.hid B3
      clear hi B1 B3
      go_wp2_with (first
        | (refine wpList_load_row rfl 60 (.tmp 2) rfl w.heap.size rfl 60 (uv (sumsTo s m 8)) (0, 0) _ G1.out Try.underlying60 rfl Hi.out ?_)
        | (refine wpList_store_row rfl 60 (.tmp 4) (.tmp 22) rfl (w.heap.size + 1 + 1) (uv (sumsTo s m 8)) rfl rfl 60 (uv (List.replicate 8 0)) G3.out Hi.out (by rw [uv_size, uv_size, sumsTo_length, HN.out]; rfl) (uv_one _) ?_))
      exact bodyPost_ret (v := .agg (uv (sumsTo s m 8))) (results_cell_row Try.results44 _ _ (w.heap.size + 1 + 1) 60 (uv (sumsTo s m 8)) (0, 0) _ rfl (setRow_heap _ _ _ _ _ _ G3.out) Try.underlying60 rfl Hi.out) rfl ⟨by rw [HC.out], below_setRow hbel (by omega) _⟩
end Go.Proofs.Ytobkkbpeoohfkaa
