/-
  The contract of the reference's Sum of the real cipher.
-/
import Derived.Test.YtobkkbpeoohfkaaSeRef3
import Derived.Test.YtobkkbpeoohfkaaCiLit
namespace Go.Proofs.Ytobkkbpeoohfkaa.Ci
open Go.RowKit
attribute [local go_sem ↓] Go.wp_at_zero Go.wp_at_succ
set_option maxRecDepth 100000 in
set_option maxHeartbeats 800000 in
theorem refsum_any (key : List UInt8) (hk : key.length = 32) (A : Option Addr) (n c : Nat) (l : List UInt8) (w : World) (hl : l.length = n) (hr : Rd w.heap.size w A (bv l)) (hn : n ≤ 1000000) :
    Calls Try.prog 16 #[.agg (bva key), .slice A n c] w (RetB (.agg (bva (sealL key l))) w) := by
  obtain ⟨z, hz0⟩ : ∃ z : List UInt8, z = List.replicate 16 0 := ⟨_, rfl⟩
  have hz : ∀ W, (zeroValue 35).run Try.prog W = .ok (.agg (bva z)) W := fun _ => by rw [hz0]; kernel_rfl
  have Z3 : Hid (z.length = 16) := by show _ = _; rw [hz0]; rfl
  obtain ⟨L, hL⟩ : ∃ L, L = sealL key l := ⟨_, rfl⟩
  have HL3 : Hid (L.length = 16) := by show _ = _; rw [hL, sealL_length]
  have HL : Hid ((Try.prog.info? 35).map (·.size) = some (bva L).size) := by rw [bva_size, HL3.out]; exact info_sum
  have HLL := Lib.hid hL
  obtain ⟨b1, b2⟩ : Blk ((w.alloc (.cells (bva key) 23)).alloc (.cells (bva z) 35)) w.heap.size (bva key) 23 ∧ Blk ((w.alloc (.cells (bva key) 23)).alloc (.cells (bva z) 35)) (w.heap.size + 1) (bva z) 35 := ⟨heap_alloc2_old _ _ _, heap_alloc2_new _ _ _⟩
  have hb : Below w.heap.size w ((w.alloc (.cells (bva key) 23)).alloc (.cells (bva z) 35)) := ((Below.refl _ _).alloc (Nat.le_refl _) _).alloc (by simp) _
  have RR := Lib.hid ((hr.below hb).more hb.size)
  have B1 := Lib.hid b1
  have B2 := Lib.hid b2
  have BB := Lib.hid hb
  have HK := Lib.hid hk
  have HI : Hid ((Try.prog.info? 23).map (·.size) = some (bva key).size) := by rw [bva_size, hk]; exact info_key
  have HN := Lib.hid hl
  have HB := Lib.hid hn
  clear hz0 b1 b2 hb hk hL hr hl hn
  go_enter Try.func16, Try.ntmps16
  go_wp2_with (refine wpList_load_row rfl 23 (.tmp 2) rfl w.heap.size rfl 23 (bva key) (0, 0) _ ?hg Try.underlying23 rfl HI.out ?_; case hg => exact B1.out)
  refine (rseal_any key HK.out A n c l _ HN.out RR.out HB.out).mono ?_
  rintro e w1 ⟨rfl, bw⟩
  rw [← HLL.out]
  have C2 := Lib.hid (B2.out.below bw)
  have CB := Lib.hid (BB.out.trans (bw.mono BB.out.size))
  clear bw B1 B2 BB hz RR
  go_wp2_with (refine wpList_store_row rfl 35 (.tmp 4) (.tmp 7) rfl (w.heap.size + 1) (bva L) rfl rfl 35 (bva z) C2.out HL.out (by simp only [bva_size, HL3.out, Z3.out]) (bva_one _) ?_)
  exact bodyPost_ret (v := .agg (bva L)) (results_cell_row Try.results16 _ _ (w.heap.size + 1) 35 (bva L) (0, 0) _ rfl (setRow_heap _ _ _ _ _ _ C2.out) Try.underlying35 rfl HL.out) rfl ⟨by rw [HLL.out], below_setRow CB.out (by omega) _⟩
end Go.Proofs.Ytobkkbpeoohfkaa.Ci
