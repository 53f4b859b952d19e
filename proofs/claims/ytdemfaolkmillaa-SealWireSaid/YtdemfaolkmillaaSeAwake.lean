/-
  The contract of layer 4's awake: the document's example is told.
-/
import Derived.Test.YtdemfaolkmillaaSeRight
namespace Go.Proofs.Ytdemfaolkmillaa
open Go.RowKit
attribute [local go_sem ↓] Go.wp_at_zero Go.wp_at_succ
def zeroSum : List UInt8 := List.replicate 16 0
theorem zeroSum_length : zeroSum.length = 16 := rfl
set_option maxRecDepth 100000 in
theorem chain_zero : chainL zeroSum [] = [55, 71, 8, 255, 247, 113, 157, 213, 151, 158, 200, 117, 213, 108, 210, 40] := by decide +kernel
set_option maxHeartbeats 800000 in
theorem seAwake_any (w : World) : Calls Try.prog 18 #[] w (RetB (.bool true) w) := by
  have hz : ∀ W, (zeroValue 34).run Try.prog W = .ok (.agg (bva zeroSum)) W := fun _ => by kernel_rfl
  go_enter Try.func18, Try.ntmps18
  go_wp2_with fail
  refine (chain_any zeroSum rfl none 0 0 [] _ rfl (Nat.le_refl _) (by unfold maxLen; omega) Rd.none (by omega)).mono ?_
  rintro e w1 ⟨rfl, bw⟩
  have BW := Lib.hid bw
  obtain ⟨x, hx⟩ : ∃ x, x = chainL zeroSum [] := ⟨_, rfl⟩
  have HX : Hid (x.length = 16) := by show _ = _; rw [hx, chainL_length]
  have HV : Hid (x = [55, 71, 8, 255, 247, 113, 157, 213, 151, 158, 200, 117, 213, 108, 210, 40]) := hx.trans chain_zero
  have HI : Hid ((Try.prog.info? 34).map (·.size) = some (bva x).size) := by rw [bva_size, HX.out]; exact info_sum
  rw [← hx]
  clear hx bw
  go_wp2_with (refine wpList_store_row rfl 34 (.tmp 1) (.tmp 3) rfl w1.heap.size (bva x) rfl rfl 34 (bva zeroSum) (heap_alloc_new _ _) HI.out (by rw [bva_size, bva_size, HX.out]; rfl) (bva_one _) ?_
               generalize hw2 : World.setRow _ _ _ = w2
               have q1 : Blk w2 w1.heap.size (bva x) 34 := by rw [← hw2]; exact blk_new _
               have qb : Below w.heap.size w w2 := by rw [← hw2]; exact below_new BW.out BW.out.size
               have c0 : w2.cell? ⟨w1.heap.size, 0, none⟩ = some (.int .u8 55) := by rw [q1.cell, HV.out]; rfl
               have c1 : w2.cell? ⟨w1.heap.size, 1, none⟩ = some (.int .u8 71) := by rw [q1.cell, HV.out]; rfl
               have c15 : w2.cell? ⟨w1.heap.size, 15, none⟩ = some (.int .u8 40) := by rw [q1.cell, HV.out]; rfl
               have QB := Lib.hid qb
               clear q1 qb hw2)
  go_ret
  exact ⟨rfl, QB.out⟩
end Go.Proofs.Ytdemfaolkmillaa
