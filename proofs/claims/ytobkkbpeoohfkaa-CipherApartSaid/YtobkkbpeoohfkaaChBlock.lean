import Derived.Test.YtobkkbpeoohfkaaArr
import Derived.Test.YtobkkbpeoohfkaaChTold
import Derived.Test.YtobkkbpeoohfkaaChKey
import Derived.Deep.RegionHeld
namespace Go.Proofs.Ytobkkbpeoohfkaa
open Go.RowKit
theorem info36 : (Try.prog.info? 23).map (·.size) = some 32 := by kernel_rfl
set_option maxHeartbeats 800000 in
theorem block_any (key : List UInt8) (hkey : key.length = 32) (c : UInt32) (n : Nat) (w : World) :
    Calls Try.prog 24 #[.agg (bva key), .int .u32 c.toNat, .int .u64 (n : Int)] w (RetB (.agg (bva (blockL key c n))) w) := by
  have HL : Hid ((keyL key c n).length = 16) := keyL_length key c n
  have b0 := heap_alloc2_old w (.cells (bva key) 23) (.cells (bva (List.replicate 64 0)) 52)
  have b1 := heap_alloc2_new w (.cells (bva key) 23) (.cells (bva (List.replicate 64 0)) 52)
  have bb : Below w.heap.size w ((w.alloc (.cells (bva key) 23)).alloc (.cells (bva (List.replicate 64 0)) 52)) := ((Below.refl _ _).alloc (Nat.le_refl _) _).alloc (by simp) _
  have H0 := Lib.hid b0
  have H1 := Lib.hid b1
  have HB := Lib.hid bb
  have HI : Hid ((Try.prog.info? 23).map (·.size) = some (bva key).size) := by rw [bva_size, hkey]; exact info36
  clear b0 b1 bb
  go_enter Try.func24, Try.ntmps24
  go_wp2_with (refine wpList_load_row rfl 23 (.tmp 3) rfl w.heap.size rfl 23 (bva key) (0, 0) _ ?hg Try.underlying23 rfl HI.out ?_; case hg => exact H0.out)
  refine (keyState_any key hkey c n _).mono ?_
  rintro e w1 ⟨rfl, hb1⟩
  have p0 : Below w.heap.size w w1 := HB.out.trans (hb1.mono (by simp; omega))
  have p1 : w.heap.size + 1 < w1.heap.size := by have := hb1.size; simp at this; omega
  have p2 : Blk w1 (w.heap.size + 1) (bva (List.replicate 64 0)) 52 := block_below H1.out hb1
  have P2 := Lib.hid p2
  clear p2
  go_wp2_with (refine wpList_store_row rfl 64 (.tmp 7) (.tmp 11) rfl w1.heap.size (uv (keyL key c n)) rfl rfl 64 (uv (List.replicate 16 0)) (heap_alloc_new _ _) (by rw [uv_size, HL.out]; exact info30) (by rw [uv_size, uv_size, HL.out]; rfl) (uv_one _) ?_; generalize hw2 : World.setRow _ _ _ = w2)
  have q0 : Blk w2 w1.heap.size (uv (keyL key c n)) 64 := by rw [← hw2]; exact setRow_heap _ _ _ _ _ _ (heap_alloc_new _ _)
  have q1 : Blk w2 (w.heap.size + 1) (bva (List.replicate 64 0)) 52 := by
    unfold Blk
    rw [← hw2, setRow_other _ _ _ _ (by omega), heap_alloc_old _ _ p1]
    exact P2.out
  have q2 : Below w.heap.size w w2 := by rw [← hw2]; exact below_setRow (p0.alloc (by omega) _) (by omega) _
  clear hw2
  have HS : Hid ((Try.prog.info? 64).map (·.size) = some (uv (keyL key c n)).size) := by rw [uv_size, HL.out]; exact info30
  have HT : Hid ((Try.prog.info? 52).map (·.size) = some (bva (blockL key c n)).size) := by rw [bva_size, blockL_length]; exact info38
  have HR : Hid ((rounds (keyL key c n)).length = 16) := by rw [rounds_length]; exact HL.out
  refine wp_region_held_drew (S := fun w' => Blk w' w1.heap.size (uv (keyL key c n)) 64 ∧ (∃ l : List UInt8, l.length = 64 ∧ Blk w' (w.heap.size + 1) (bva l) 52) ∧ Below w.heap.size w w') (by kernel_rfl) ⟨q0, ⟨_, by simp, q1⟩, q2.drew⟩ (fun hh => ?_)
  clear q0 q1 q2
  refine wpAnyH_take (i := 0) (v := .agg (uv (keyL key c n))) rfl (by kernel_rfl) (by kernel_rfl) (by kernel_rfl) (fun _ _ _ h => h) (Or.inl ⟨by rfl, fun w' hw' => ?y0⟩) hh ?_
  case y0 => exact exec_load 64 (.tmp 7) rfl rfl hw'.1 Try.underlying64 rfl HS.out
  refine wpAnyH_take (i := 1) (v := .agg (uv (keyL key c n))) rfl (by kernel_rfl) (by kernel_rfl) (by kernel_rfl) (fun _ _ _ h => h) (Or.inl ⟨by rfl, fun w' hw' => ?y1⟩) hh ?_
  case y1 => exact exec_load 64 (.tmp 7) rfl rfl hw'.1 Try.underlying64 rfl HS.out
  have Hh := Lib.hid hh
  clear hh
  refine wpAnyH_ready (rs := [2]) (by kernel_rfl) (by simp) (AllReadyH.cons rfl (fun K hK => ?_) AllReadyH.nil)
  go_simp
  refine (rounds_any (keyL key c n) HL.out _).mono ?_
  rintro e w3 ⟨rfl, hb3⟩
  go_simp
  refine hK.out _ _ ⟨Hh.out.1.below hb3, (Hh.out.2.1.imp fun l hl => ⟨hl.1, hl.2.below hb3⟩), Hh.out.2.2.trans (hb3.mono Hh.out.2.2.size)⟩ (fun hh => ?_)
  have Hi := Lib.hid hh
  clear hh hK K Hh hb3
  refine wpAnyH_ready (rs := [3]) (by kernel_rfl) (by simp) (AllReadyH.cons rfl (fun K hK => ?_) AllReadyH.nil)
  go_simp
  refine (sums_any (keyL key c n) (rounds (keyL key c n)) HL.out HR.out _).mono ?_
  rintro e w4 ⟨rfl, hb4⟩
  go_simp
  refine hK.out _ _ ⟨Hi.out.1.below hb4, (Hi.out.2.1.imp fun l hl => ⟨hl.1, hl.2.below hb4⟩), Hi.out.2.2.trans (hb4.mono Hi.out.2.2.size)⟩ (fun hh => ?_)
  have Hj := Lib.hid hh
  clear hh hK K Hi hb4
  refine wpAnyH_ready (rs := [4]) (by kernel_rfl) (by simp) (AllReadyH.cons rfl (fun K hK => ?_) AllReadyH.nil)
  go_simp
  refine (ctold_any (csumsTo (keyL key c n) (rounds (keyL key c n)) 16) (by rw [csumsTo_length]; exact HL.out) _).mono ?_
  rintro e w5 ⟨rfl, hb5⟩
  go_simp
  refine hK.out _ _ ⟨Hj.out.1.below hb5, (Hj.out.2.1.imp fun l hl => ⟨hl.1, hl.2.below hb5⟩), Hj.out.2.2.trans (hb5.mono Hj.out.2.2.size)⟩ (fun hh => ?_)
  obtain ⟨r0, ⟨l, hl, r1⟩, r2⟩ := hh
  have R0 := Lib.hid r0
  have R1 := Lib.hid r1
  have Rl := Lib.hid hl
  clear hK K Hj hb5 r0 r1 hl
  refine wpAnyH_ready (rs := [5]) (by kernel_rfl) (by simp) (AllReadyH.cons rfl (fun K hK => ?_) AllReadyH.nil)
  rw [if_pos (by rfl)]
  refine wp_store_row 52 (.tmp 6) (.tmp 16) rfl (w.heap.size + 1) (bva (blockL key c n)) rfl rfl 52 (bva l) R1.out HT.out (by rw [bva_size, bva_size, Rl.out, blockL_length]) (bva_one _) ?_
  refine hK.out _ _ ⟨?_, ⟨_, blockL_length key c n, setRow_heap _ _ _ _ _ _ R1.out⟩, below_setRow r2 (by omega) _⟩ (fun _ => ?_)
  · unfold Blk; rw [setRow_other _ _ _ _ (by omega)]; exact R0.out
  clear hK K
  refine wpAnyH_done (by kernel_rfl) ?_ _
  go_wp2
  exact bodyPost_ret (v := .agg (bva (blockL key c n))) (results_cell_row Try.results24 _ _ (w.heap.size + 1) 52 (bva (blockL key c n)) (0, 0) _ rfl (setRow_heap _ _ _ _ _ _ R1.out) Try.underlying52 rfl HT.out) rfl ⟨rfl, below_setRow r2 (by omega) _⟩
end Go.Proofs.Ytobkkbpeoohfkaa
