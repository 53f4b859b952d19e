/-
  The contract of the little cipher's Split, as the laws hand it in.
-/
import Derived.Test.YtkfcllcdkgnfbaaKtSplit
namespace Go.Proofs.Ytkfcllcdkgnfbaa.Kt
open Go.RowKit
attribute [local go_sem ↓] Go.wp_at_zero Go.wp_at_succ
theorem four_blocks (w : World) (A B C D : Obj) : ((((w.alloc A).alloc B).alloc C).alloc D).heap[w.heap.size]? = some A ∧ ((((w.alloc A).alloc B).alloc C).alloc D).heap[w.heap.size + 1]? = some B ∧ ((((w.alloc A).alloc B).alloc C).alloc D).heap[w.heap.size + 1 + 1]? = some C ∧ ((((w.alloc A).alloc B).alloc C).alloc D).heap[w.heap.size + 1 + 1 + 1]? = some D ∧ Below w.heap.size w ((((w.alloc A).alloc B).alloc C).alloc D) := by
  obtain ⟨h1, h2, h3, hb⟩ := three_blocks w A B C
  have hs : (((w.alloc A).alloc B).alloc C).heap.size = w.heap.size + 1 + 1 + 1 := by simp
  refine ⟨?_, ?_, ?_, ?_, hb.alloc (by rw [hs]; omega) _⟩
  · rw [heap_alloc_old _ _ (by rw [hs]; omega)]; exact h1
  · rw [heap_alloc_old _ _ (by rw [hs]; omega)]; exact h2
  · rw [heap_alloc_old _ _ (by rw [hs]; omega)]; exact h3
  · rw [← hs]; exact heap_alloc_new _ _
theorem info_keyL : (Try.prog.info? 23).map (·.size) = some 32 := by kernel_rfl
theorem blk_oldL {w : World} {g : Nat} {cs : Array Value} {t : TypeId} {A : Obj} (h : Blk w g cs t) : Blk (w.alloc A) g cs t := (heap_alloc_old _ _ h.lt).trans h
set_option maxRecDepth 100000 in
set_option maxHeartbeats 1600000 in
theorem lsplit_any (k : List UInt8) (hk : k.length = 32) (w : World) :
    Calls Try.prog 27 #[.agg #[], .agg (bva k)] w (RetB (.tuple #[.agg (bva (leftK k)), .agg (bva (rightK k))]) w) := by
  obtain ⟨z, hz0⟩ : ∃ z : List UInt8, z = List.replicate 32 0 := ⟨_, rfl⟩
  obtain ⟨b1, b2, b3, b4, hb⟩ := four_blocks w (.cells #[] 30) (.cells (bva k) 23) (.cells (bva z) 23) (.cells (bva z) 23)
  have hz : ∀ W, (zeroValue 23).run Try.prog W = .ok (.agg (bva z)) W := fun _ => by rw [hz0]; kernel_rfl
  have hy : ∀ W, (zeroValue 22).run Try.prog W = .ok (.agg (bva z)) W := fun _ => by rw [hz0]; kernel_rfl
  have Z3 : Hid (z.length = 32) := by show _ = _; rw [hz0]; rfl
  obtain ⟨p, hp⟩ : ∃ p, p = leftK k := ⟨_, rfl⟩
  obtain ⟨q, hq⟩ : ∃ q, q = rightK k := ⟨_, rfl⟩
  have P3 : Hid (p.length = 32) := by show _ = _; rw [hp, leftK_length]
  have Q3 : Hid (q.length = 32) := by show _ = _; rw [hq, rightK_length]
  have HIP : Hid ((Try.prog.info? 22).map (·.size) = some (bva p).size) := by rw [bva_size, P3.out]; exact info_b32
  have HIQ : Hid ((Try.prog.info? 22).map (·.size) = some (bva q).size) := by rw [bva_size, Q3.out]; exact info_b32
  have HKP : Hid ((Try.prog.info? 23).map (·.size) = some (bva p).size) := by rw [bva_size, P3.out]; exact info_keyL
  have HKQ : Hid ((Try.prog.info? 23).map (·.size) = some (bva q).size) := by rw [bva_size, Q3.out]; exact info_keyL
  have HP := Lib.hid hp
  have HQ := Lib.hid hq
  have B2 := Lib.hid (show Blk _ _ _ _ from b2)
  have B3 := Lib.hid (show Blk _ _ _ _ from b3)
  have B4 := Lib.hid (show Blk _ _ _ _ from b4)
  have BB := Lib.hid hb
  have HK := Lib.hid hk
  have HI : Hid ((Try.prog.info? 23).map (·.size) = some (bva k).size) := by rw [bva_size, hk]; exact info_keyL
  clear hz0 b1 b2 b3 b4 hb hk hp hq
  go_enter Try.func27, Try.ntmps27
  go_wp2_with (refine wpList_load_row rfl 23 (.tmp 3) rfl (w.heap.size + 1) rfl 23 (bva k) (0, 0) _ ?hg Try.underlying23 rfl HI.out ?_; case hg => exact B2.out)
  refine (split_any k HK.out _).mono ?_
  rintro e w2 ⟨rfl, bw⟩
  rw [← HP.out, ← HQ.out]
  have C3 := Lib.hid (B3.out.below bw)
  have C4 := Lib.hid (B4.out.below bw)
  have CB := Lib.hid (BB.out.trans (bw.mono BB.out.size))
  have hw2 : w.heap.size + 1 + 1 + 1 < w2.heap.size := C4.out.lt
  clear bw B2 B3 B4 BB
  go_wp2_with (first
    | (refine wpList_store_row rfl 22 (.tmp 6) (.tmp 11) rfl w2.heap.size (bva p) rfl rfl 22 (bva z) (heap_alloc2_old _ _ _) HIP.out (by simp only [bva_size, P3.out, Z3.out]) (bva_one _) ?_
       generalize hwx : World.setRow _ _ _ = wx
       have e3 : Blk wx (w.heap.size + 1 + 1) (bva z) 23 := by rw [← hwx]; exact blk_row (blk_oldL (blk_oldL C3.out)) (by omega)
       have e4 : Blk wx (w.heap.size + 1 + 1 + 1) (bva z) 23 := by rw [← hwx]; exact blk_row (blk_oldL (blk_oldL C4.out)) (by omega)
       have ex : Blk wx w2.heap.size (bva p) 22 := by rw [← hwx]; exact setRow_heap _ _ _ _ _ _ (heap_alloc2_old _ _ _)
       have ey : Blk wx (w2.heap.size + 1) (bva z) 22 := by rw [← hwx]; exact blk_row (heap_alloc2_new _ _ _) (by omega)
       have eb : Below w.heap.size w wx := by rw [← hwx]; exact below_setRow ((CB.out.alloc CB.out.size _).alloc (by have := CB.out.size; simp; omega) _) CB.out.size _
       have E3 := Lib.hid e3
       have E4 := Lib.hid e4
       have EX := Lib.hid ex
       have EY := Lib.hid ey
       have EB := Lib.hid eb
       clear hwx e3 e4 ex ey eb C3 C4 CB)
    | (refine wpList_store_row rfl 22 (.tmp 7) (.tmp 12) rfl (w2.heap.size + 1) (bva q) rfl rfl 22 (bva z) EY.out HIQ.out (by simp only [bva_size, Q3.out, Z3.out]) (bva_one _) ?_
       generalize hwy : World.setRow _ _ _ = wy
       have e3 : Blk wy (w.heap.size + 1 + 1) (bva z) 23 := by rw [← hwy]; exact blk_row E3.out (by omega)
       have e4 : Blk wy (w.heap.size + 1 + 1 + 1) (bva z) 23 := by rw [← hwy]; exact blk_row E4.out (by omega)
       have ex : Blk wy w2.heap.size (bva p) 22 := by rw [← hwy]; exact blk_row EX.out (by omega)
       have ey : Blk wy (w2.heap.size + 1) (bva q) 22 := by rw [← hwy]; exact setRow_heap _ _ _ _ _ _ EY.out
       have eb : Below w.heap.size w wy := by rw [← hwy]; exact below_setRow EB.out (by omega) _
       have HS := Lib.hid (show Blk wy.drew (w.heap.size + 1 + 1) (bva z) 23 ∧ Blk wy.drew (w.heap.size + 1 + 1 + 1) (bva z) 23 ∧ Blk wy.drew w2.heap.size (bva p) 22 ∧ Blk wy.drew (w2.heap.size + 1) (bva q) 22 ∧ Below w.heap.size w wy.drew from ⟨e3, e4, ex, ey, eb.drew⟩)
       clear hwy e3 e4 ex ey eb E3 E4 EX EY EB))
  refine wp_region_held_drew (S := fun w' => (∃ l : List UInt8, l.length = 32 ∧ Blk w' (w.heap.size + 1 + 1) (bva l) 23) ∧ (∃ l : List UInt8, l.length = 32 ∧ Blk w' (w.heap.size + 1 + 1 + 1) (bva l) 23) ∧ Blk w' w2.heap.size (bva p) 22 ∧ Blk w' (w2.heap.size + 1) (bva q) 22 ∧ Below w.heap.size w w') (by kernel_rfl) ⟨⟨z, Z3.out, HS.out.1⟩, ⟨z, Z3.out, HS.out.2.1⟩, HS.out.2.2⟩ (fun hh => ?_)
  have HH := Lib.hid hh
  clear hh
  refine wpAnyH_take (i := 0) (v := .agg (bva p)) rfl (by kernel_rfl) (by kernel_rfl) (by kernel_rfl) (fun _ _ _ h => h) (Or.inl ⟨by rfl, fun w' hw' => ?q0⟩) HH.out ?_
  case q0 => exact exec_load 22 (.tmp 6) rfl rfl hw'.2.2.1 Try.underlying22 rfl HIP.out
  refine wpAnyH_take (i := 1) (v := .agg (bva q)) rfl (by kernel_rfl) (by kernel_rfl) (by kernel_rfl) (fun _ _ _ h => h) (Or.inl ⟨by rfl, fun w' hw' => ?q1⟩) HH.out ?_
  case q1 => exact exec_load 22 (.tmp 7) rfl rfl hw'.2.2.2.1 Try.underlying22 rfl HIQ.out
  refine wpAnyH_ready (rs := [2]) (by kernel_rfl) (by simp) (AllReadyH.cons rfl (fun K hK => ?_) AllReadyH.nil)
  rw [if_pos (by rfl)]
  refine wp_store_row 23 (.tmp 4) (.tmp 13) rfl (w.heap.size + 1 + 1) (bva p) rfl rfl 23 (bva z) HS.out.1 HKP.out (by simp only [bva_size, P3.out, Z3.out]) (bva_one _) ?_
  have u1 : Blk (wy.drew.setRow (w.heap.size + 1 + 1) (bva p)) (w.heap.size + 1 + 1) (bva p) 23 := setRow_heap _ _ _ _ _ _ HS.out.1
  have u2 : Blk (wy.drew.setRow (w.heap.size + 1 + 1) (bva p)) (w.heap.size + 1 + 1 + 1) (bva z) 23 := blk_row HS.out.2.1 (by omega)
  have u3 : Blk (wy.drew.setRow (w.heap.size + 1 + 1) (bva p)) w2.heap.size (bva p) 22 := blk_row HS.out.2.2.1 (by omega)
  have u4 : Blk (wy.drew.setRow (w.heap.size + 1 + 1) (bva p)) (w2.heap.size + 1) (bva q) 22 := blk_row HS.out.2.2.2.1 (by omega)
  have ub : Below w.heap.size w (wy.drew.setRow (w.heap.size + 1 + 1) (bva p)) := below_setRow HS.out.2.2.2.2 (by omega) _
  refine hK.out _ _ ⟨⟨p, P3.out, u1⟩, ⟨z, Z3.out, u2⟩, u3, u4, ub⟩ (fun _ => ?_)
  generalize hw6 : wy.drew.setRow _ _ = w6
  rw [hw6] at u1 u2 u3 u4 ub
  have U1 := Lib.hid u1
  have U2 := Lib.hid u2
  have U3 := Lib.hid u3
  have U4 := Lib.hid u4
  have UB := Lib.hid ub
  clear u1 u2 u3 u4 ub hw6 hK K HH HS
  refine wpAnyH_ready (rs := [3]) (by kernel_rfl) (by simp) (AllReadyH.cons rfl (fun K hK => ?_) AllReadyH.nil)
  rw [if_pos (by rfl)]
  refine wp_store_row 23 (.tmp 5) (.tmp 14) rfl (w.heap.size + 1 + 1 + 1) (bva q) rfl rfl 23 (bva z) U2.out HKQ.out (by simp only [bva_size, Q3.out, Z3.out]) (bva_one _) ?_
  have v1 : Blk (w6.setRow (w.heap.size + 1 + 1 + 1) (bva q)) (w.heap.size + 1 + 1) (bva p) 23 := blk_row U1.out (by omega)
  have v2 : Blk (w6.setRow (w.heap.size + 1 + 1 + 1) (bva q)) (w.heap.size + 1 + 1 + 1) (bva q) 23 := setRow_heap _ _ _ _ _ _ U2.out
  have v3 : Blk (w6.setRow (w.heap.size + 1 + 1 + 1) (bva q)) w2.heap.size (bva p) 22 := blk_row U3.out (by omega)
  have v4 : Blk (w6.setRow (w.heap.size + 1 + 1 + 1) (bva q)) (w2.heap.size + 1) (bva q) 22 := blk_row U4.out (by omega)
  have vb : Below w.heap.size w (w6.setRow (w.heap.size + 1 + 1 + 1) (bva q)) := below_setRow UB.out (by omega) _
  refine hK.out _ _ ⟨⟨p, P3.out, v1⟩, ⟨q, Q3.out, v2⟩, v3, v4, vb⟩ (fun _ => ?_)
  have V1 := Lib.hid v1
  have V2 := Lib.hid v2
  have VB := Lib.hid vb
  clear v1 v2 v3 v4 vb U1 U2 U3 U4 UB hK K
  refine wpAnyH_done (by kernel_rfl) ?_ _
  go_wp2
  exact bodyPost_ret (v := .tuple #[.agg (bva p), .agg (bva q)]) (results_cells2 Try.results27 _ _ (w.heap.size + 1 + 1) (w.heap.size + 1 + 1 + 1) 23 23 (bva p) (bva q) _ rfl rfl V1.out V2.out Try.underlying23 rfl HKP.out HKQ.out) rfl ⟨by rw [HP.out, HQ.out], VB.out⟩
theorem little_method (x : Array Value) (fuel : Nat) (W : World) : (method (fuel + 1) 30 (.agg x) "Split").run Try.prog W = .ok (27, .agg x) W := by kernel_rfl
theorem little_calls (args : Array Value) (W : World) : (callFunc 27 args).run Try.prog W = .ok (.enter 27 args) W := by kernel_rfl
end Go.Proofs.Ytkfcllcdkgnfbaa.Kt
