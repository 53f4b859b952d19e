/-
  The contract of the real cipher's Sum.
-/
import Derived.Test.YtobkkbpeoohfkaaSeSeal
import Derived.Test.YtobkkbpeoohfkaaCiLit
namespace Go.Proofs.Ytobkkbpeoohfkaa.Ci
open Go.RowKit
attribute [local go_sem ↓] Go.wp_at_zero Go.wp_at_succ
set_option maxRecDepth 100000 in
set_option maxHeartbeats 800000 in
theorem realsum_any (key : List UInt8) (hk : key.length = 32) (A : Option Addr) (n c : Nat) (l : List UInt8) (w : World) (hl : l.length = n) (hc : n ≤ c) (hm : c ≤ maxLen) (hr : Rd w.heap.size w A (bv l)) (hn : n ≤ 1000000000) :
    Calls Try.prog 15 #[.agg #[], .agg (bva key), .slice A n c] w (RetB (.agg (bva (sealL key l))) w) := by
  obtain ⟨z, hz0⟩ : ∃ z : List UInt8, z = List.replicate 16 0 := ⟨_, rfl⟩
  obtain ⟨b1, b2, b3, hb⟩ := three_blocks w (.cells #[] 27) (.cells (bva key) 23) (.cells (bva z) 35)
  have hz : ∀ W, (zeroValue 35).run Try.prog W = .ok (.agg (bva z)) W := fun _ => by rw [hz0]; kernel_rfl
  have Z3 : Hid (z.length = 16) := by show _ = _; rw [hz0]; rfl
  obtain ⟨L, hL⟩ : ∃ L, L = sealL key l := ⟨_, rfl⟩
  have HL3 : Hid (L.length = 16) := by show _ = _; rw [hL, sealL_length]
  have HL : Hid ((Try.prog.info? 35).map (·.size) = some (bva L).size) := by rw [bva_size, HL3.out]; exact info_sum
  have HLL := Lib.hid hL
  have RR := Lib.hid ((hr.below hb).more hb.size)
  have B2 := Lib.hid (show Blk _ _ _ _ from b2)
  have B3 := Lib.hid (show Blk _ _ _ _ from b3)
  have BB := Lib.hid hb
  have HK := Lib.hid hk
  have HI : Hid ((Try.prog.info? 23).map (·.size) = some (bva key).size) := by rw [bva_size, hk]; exact info_key
  have HC := Lib.hid hc
  have HM := Lib.hid hm
  have HN := Lib.hid hl
  have HB := Lib.hid hn
  clear hz0 b1 b2 b3 hb hk hL hr hc hm hl hn
  go_enter Try.func15, Try.ntmps15
  go_wp2_with (refine wpList_load_row rfl 23 (.tmp 4) rfl (w.heap.size + 1) rfl 23 (bva key) (0, 0) _ ?hg Try.underlying23 rfl HI.out ?_; case hg => exact B2.out)
  refine (seal_any key HK.out A n c l _ HN.out HC.out HM.out RR.out HB.out).mono ?_
  rintro e w1 ⟨rfl, bw⟩
  rw [← HLL.out]
  have C3 := Lib.hid (B3.out.below bw)
  have CB := Lib.hid (BB.out.trans (bw.mono BB.out.size))
  clear bw B2 B3 BB hz RR
  go_wp2_with (refine wpList_store_row rfl 35 (.tmp 6) (.tmp 9) rfl (w.heap.size + 1 + 1) (bva L) rfl rfl 35 (bva z) C3.out HL.out (by simp only [bva_size, HL3.out, Z3.out]) (bva_one _) ?_)
  exact bodyPost_ret (v := .agg (bva L)) (results_cell_row Try.results15 _ _ (w.heap.size + 1 + 1) 35 (bva L) (0, 0) _ rfl (setRow_heap _ _ _ _ _ _ C3.out) Try.underlying35 rfl HL.out) rfl ⟨by rw [HLL.out], below_setRow CB.out (by omega) _⟩
end Go.Proofs.Ytobkkbpeoohfkaa.Ci
