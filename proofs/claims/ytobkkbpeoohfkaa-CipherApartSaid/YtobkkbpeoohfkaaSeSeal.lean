/-
  The contracts of short, Sum (Chain's: SeChain).
-/
import Derived.Test.YtobkkbpeoohfkaaSeLong
import Derived.Test.YtobkkbpeoohfkaaShPad
namespace Go.Proofs.Ytobkkbpeoohfkaa
open Go.RowKit
attribute [local go_sem ↓] Go.wp_at_zero Go.wp_at_succ
/-- A block of bytes reads as such. -/
theorem rd_cells {w : World} {g : Nat} {l : List UInt8} {t : TypeId} (h : Blk w g (bva l) t) : Rd w.heap.size w (some ⟨g, 0, none⟩) (bv l) := fun k u hu =>
  ⟨_, rfl, h.lt, by rw [add_head, h.cell, bva, List.getElem?_toArray]; exact hu⟩
theorem info_sum : (Try.prog.info? 35).map (·.size) = some 16 := by kernel_rfl
set_option maxHeartbeats 800000 in
theorem short_any (k : List UInt8) (hk : k.length = 32) (w : World) : Calls Try.prog 40 #[.agg (bva k)] w (RetB (.agg (bva (k.take 16))) w) := by
  obtain ⟨b1, b2, b3, hb⟩ := three_blocks w (.cells (bva k) 23) (.cells (bva (List.replicate 16 0)) 35) (.cells (bva (List.replicate 16 0)) 35)
  have hz : ∀ W, (zeroValue 35).run Try.prog W = .ok (.agg (bva (List.replicate 16 0))) W := fun _ => by kernel_rfl
  have HK := Lib.hid hk
  have HS : Hid ((k.take 16).length = 16) := by show _ = _; rw [List.length_take, hk]; rfl
  have HI : Hid ((Try.prog.info? 35).map (·.size) = some (bva (k.take 16)).size) := by rw [bva_size, HS.out]; exact info_sum
  have B1 := Lib.hid (show Blk _ _ _ _ from b1)
  have B2 := Lib.hid (show Blk _ _ _ _ from b2)
  have B3 := Lib.hid (show Blk _ _ _ _ from b3)
  have BB := Lib.hid hb
  clear hk b1 b2 b3 hb
  go_enter Try.func40, Try.ntmps40
  go_wp2_with fail
  refine wp_region_any (by kernel_rfl) ?_
  change wpAny _ _ _ _ _ _ _ (World.drew _)
  refine wpAny_take (i := 0) (v := ?v0) rfl (by kernel_rfl) (by kernel_rfl) (by kernel_rfl) (fun _ _ _ h => h) (Or.inl ⟨by rfl, ?y0⟩) ?_
  case y0 => (intro w'; go_simp; try with_reducible rfl)
  refine wpAny_take (i := 1) (v := ?v1) rfl (by kernel_rfl) (by kernel_rfl) (by kernel_rfl) (fun _ _ _ h => h) (Or.inl ⟨by rfl, ?y1⟩) ?_
  case y1 => (intro w'; go_simp; try with_reducible rfl)
  refine wpAny_ready (rs := [2]) (by kernel_rfl) (by simp) (AllReady.cons rfl (fun K hK => ?_) AllReady.nil)
  refine step_copy_set rfl (.tmp 4) (.tmp 5) 33 33 rfl 5 Try.underlying33 info5 ⟨w.heap.size, 0, none⟩ (w.heap.size + 1 + 1) 0 16 16 32 32 rfl rfl (bv (List.replicate 16 0)) 35 ?c3 (bv (k.take 16)) ?c1 ?c4 ?c2 (bv_one _) 16 (by rw [bv_length, HS.out]) ?_
  case c3 => exact B3.out
  case c4 => exact fun j v hv => by rw [add_head]; exact (B1.out.cell j).trans (by rw [bva, List.getElem?_toArray]; exact bv_take_get hv)
  case c1 => rw [bv_length, HS.out]; rfl
  case c2 => rw [bv_length, HS.out]; simp [bv]
  generalize hw1 : World.setRow _ _ _ = w1
  have q3 : Blk w1 (w.heap.size + 1 + 1) (bva (k.take 16)) 35 := by
    rw [← hw1, splice_whole _ _ (by rw [bv_length, HS.out]; simp [bv])]; exact setRow_heap _ _ _ _ _ _ B3.out
  have q2 : Blk w1 (w.heap.size + 1) (bva (List.replicate 16 0)) 35 := by rw [← hw1]; unfold Blk; rw [setRow_other _ _ _ _ (by omega)]; exact B2.out
  have qb : Below w.heap.size w w1 := by rw [← hw1]; exact below_setRow BB.out.drew (by omega) _
  have Q3 := Lib.hid q3
  have Q2 := Lib.hid q2
  have QB := Lib.hid qb
  clear q2 q3 qb hw1 B1 B2 B3 BB hz
  refine hK _ _ ?_
  clear hK K
  refine wpAny_done (by kernel_rfl) ?_ _
  go_wp2_with (first
    | (refine wpList_load_row rfl 35 (.tmp 3) rfl (w.heap.size + 1 + 1) rfl 35 (bva (k.take 16)) (0, 0) _ Q3.out Try.underlying35 rfl HI.out ?_)
    | (refine wpList_store_row rfl 35 (.tmp 2) (.tmp 7) rfl (w.heap.size + 1) (bva (k.take 16)) rfl rfl 35 (bva (List.replicate 16 0)) Q2.out HI.out (by rw [bva_size, bva_size, HS.out]; rfl) (bva_one _) ?_))
  exact bodyPost_ret (v := .agg (bva (k.take 16))) (results_cell_row Try.results40 _ _ (w.heap.size + 1) 35 (bva (k.take 16)) (0, 0) _ rfl (setRow_heap _ _ _ _ _ _ Q2.out) Try.underlying35 rfl HI.out) rfl ⟨rfl, below_setRow QB.out (by omega) _⟩
def zeroSum : List UInt8 := List.replicate 16 0
theorem zeroSum_length : zeroSum.length = 16 := rfl
/-- The chain of any sum and bytes. -/
def chainL (s l : List UInt8) : List UInt8 := (shaL (s ++ l)).take 16
/-- The sum of any bytes under a key. -/
def sealL (k l : List UInt8) : List UInt8 := (shaL (k ++ shaL (k ++ l))).take 16
theorem chainL_length (s l : List UInt8) : (chainL s l).length = 16 := by rw [chainL, List.length_take, shaL_length]; rfl
theorem sealL_length (s l : List UInt8) : (sealL s l).length = 16 := by rw [sealL, List.length_take, shaL_length]; rfl
set_option maxHeartbeats 1600000 in
theorem seal_any (k : List UInt8) (hk : k.length = 32) (A : Option Addr) (n c : Nat) (l : List UInt8) (w : World) (hl : l.length = n) (hc : n ≤ c) (hm : c ≤ maxLen) (hr : Rd w.heap.size w A (bv l)) (hn : n ≤ 1000000000) :
    Calls Try.prog 26 #[.agg (bva k), .slice A n c] w (RetB (.agg (bva (sealL k l))) w) := by
  have hb : Below w.heap.size w ((w.alloc (.cells (bva k) 23)).alloc (.cells (bva (List.replicate 16 0)) 35)) := ((Below.refl _ _).alloc (Nat.le_refl _) _).alloc (by simp) _
  have hz : ∀ W, (zeroValue 35).run Try.prog W = .ok (.agg (bva (List.replicate 16 0))) W := fun _ => by kernel_rfl
  have hz' : ∀ W, (zeroValue 23).run Try.prog W = .ok (.agg (bva (List.replicate 32 0))) W := fun _ => by kernel_rfl
  have HL := Lib.hid hl
  have HR := Lib.hid hr
  have HK := Lib.hid hk
  have HI : Hid ((Try.prog.info? 35).map (·.size) = some (bva (sealL k l)).size) := by rw [bva_size, sealL_length]; exact info_sum
  obtain ⟨m, hm0⟩ : ∃ m, m = shaL (k ++ l) := ⟨_, rfl⟩
  have HM : Hid (m.length = 32) := by show _ = _; rw [hm0]; exact shaL_length _
  have HM0 := Lib.hid hm0
  have HJ : Hid ((Try.prog.info? 23).map (·.size) = some (bva m).size) := by rw [bva_size, HM.out]; exact info33
  obtain ⟨b1, b2⟩ : Blk ((w.alloc (.cells (bva k) 23)).alloc (.cells (bva (List.replicate 16 0)) 35)) w.heap.size (bva k) 23 ∧ Blk ((w.alloc (.cells (bva k) 23)).alloc (.cells (bva (List.replicate 16 0)) 35)) (w.heap.size + 1) (bva (List.replicate 16 0)) 35 := ⟨heap_alloc2_old _ _ _, heap_alloc2_new _ _ _⟩
  have B1 := Lib.hid b1
  have B2 := Lib.hid b2
  have BB := Lib.hid hb
  clear hl hr hk b1 b2 hb hm0
  go_enter Try.func26, Try.ntmps26
  go_wp2_with fail
  refine (long_any (some ⟨w.heap.size, 0, none⟩) 32 32 k A n c l _ HK.out (by omega) (by unfold maxLen; omega) (rd_cells B1.out) HL.out hc hm ((HR.out.below BB.out).more BB.out.size) (by omega)).mono ?_
  rintro e w1 ⟨rfl, bw⟩
  rw [← HM0.out]
  have hw1 : w.heap.size + 1 < w1.heap.size := by have h1 := B2.out.lt; have h2 := bw.size; omega
  have C1 := Lib.hid (B1.out.below bw)
  have C2 := Lib.hid (B2.out.below bw)
  have CB := Lib.hid (BB.out.trans (bw.mono BB.out.size))
  clear bw B1 B2 BB
  go_wp2_with (refine wpList_store_row rfl 23 (.tmp 5) (.tmp 8) rfl w1.heap.size (bva m) rfl rfl 23 (bva (List.replicate 32 0)) (heap_alloc_new _ _) HJ.out (by rw [bva_size, bva_size, HM.out]; rfl) (bva_one _) ?_
               generalize hw2 : World.setRow _ _ _ = w2
               have d1 : Blk w2 w.heap.size (bva k) 23 := by rw [← hw2]; exact blk_past C1.out
               have d2 : Blk w2 (w.heap.size + 1) (bva (List.replicate 16 0)) 35 := by rw [← hw2]; exact blk_past C2.out
               have d3 : Blk w2 w1.heap.size (bva m) 23 := by rw [← hw2]; exact blk_new _
               have db : Below w.heap.size w w2 := by rw [← hw2]; exact below_new CB.out CB.out.size
               have D1 := Lib.hid d1
               have D2 := Lib.hid d2
               have D3 := Lib.hid d3
               have DB := Lib.hid db
               clear d1 d2 d3 db hw2 C1 C2 CB)
  refine wp_region_any (by kernel_rfl) ?_
  change wpAny _ _ _ _ _ _ _ (World.drew _)
  refine wpAny_take (i := 0) (v := ?v0) rfl (by kernel_rfl) (by kernel_rfl) (by kernel_rfl) (fun _ _ _ h => h) (Or.inl ⟨by rfl, ?y0⟩) ?_
  case y0 => (intro w'; go_simp; try with_reducible rfl)
  refine wpAny_take (i := 1) (v := ?v1) rfl (by kernel_rfl) (by kernel_rfl) (by kernel_rfl) (fun _ _ _ h => h) (Or.inl ⟨by rfl, ?y1⟩) ?_
  case y1 => (intro w'; go_simp; try with_reducible rfl)
  refine wpAny_ready (rs := [2]) (by kernel_rfl) (by simp) (AllReady.cons rfl (fun K hK => ?_) AllReady.nil)
  go_simp
  refine (long_any (some ⟨w.heap.size, 0, none⟩) 32 32 k (some ⟨w1.heap.size, 0, none⟩) 32 32 m w2.drew HK.out (by omega) (by unfold maxLen; omega) (rd_cells D1.out) HM.out (by omega) (by unfold maxLen; omega) (rd_cells D3.out) (by omega)).mono ?_
  rintro e w3 ⟨rfl, bw⟩
  have E2 := Lib.hid (Blk.below (w := w2.drew) D2.out bw)
  have EB := Lib.hid (DB.out.drew.trans (bw.mono DB.out.size))
  clear bw D1 D2 D3 DB
  go_simp
  refine hK _ _ ?_
  clear hK K
  refine wpAny_ready (rs := [3]) (by kernel_rfl) (by simp) (AllReady.cons rfl (fun K hK => ?_) AllReady.nil)
  go_simp
  refine (short_any (shaL (k ++ m)) (shaL_length _) _).mono ?_
  rintro e w4 ⟨rfl, bw⟩
  have F2 := Lib.hid (E2.out.below bw)
  have FB := Lib.hid (EB.out.trans (bw.mono EB.out.size))
  clear bw E2 EB
  go_simp
  refine hK _ _ ?_
  clear hK K
  have HV : Hid ((shaL (k ++ m)).take 16 = sealL k l) := by show _ = _; rw [sealL, HM0.out]
  refine wpAny_ready (rs := [4]) (by kernel_rfl) (by simp) (AllReady.cons rfl (fun K hK => ?_) AllReady.nil)
  rw [if_pos (by rfl), HV.out]
  refine wp_store_row 35 (.tmp 4) (.tmp 12) rfl (w.heap.size + 1) (bva (sealL k l)) rfl rfl 35 (bva (List.replicate 16 0)) F2.out HI.out (by rw [bva_size, bva_size, sealL_length]; rfl) (bva_one _) ?_
  refine hK _ _ ?_
  clear hK K
  refine wpAny_done (by kernel_rfl) ?_ _
  go_wp2_with fail
  exact bodyPost_ret (v := .agg (bva (sealL k l))) (results_cell_row Try.results26 _ _ (w.heap.size + 1) 35 (bva (sealL k l)) (0, 0) _ rfl (setRow_heap _ _ _ _ _ _ F2.out) Try.underlying35 rfl HI.out) rfl ⟨rfl, below_setRow FB.out (by omega) _⟩
end Go.Proofs.Ytobkkbpeoohfkaa
