/-
  The contract of Right: whether it is the sum.
-/
import Derived.Test.YtdemfaolkmillaaSeSeal
import Derived.Test.YtdemfaolkmillaaEqBytes
namespace Go.Proofs.Ytdemfaolkmillaa
open Go.RowKit
attribute [local go_sem ↓] Go.wp_at_zero Go.wp_at_succ
theorem eq_sums (a b : List UInt8) (ha : a.length = 16) (hb : b.length = 16) (w : World) : (Op.equalIn 10000 34 (.agg (bva a)) (.agg (bva b))).run Try.prog w = .ok (decide (a = b)) w := by
  obtain ⟨i, hi⟩ := Option.isSome_iff_exists.1 info5s
  exact run_equal_bytes w Try.underlying34 Try.underlying5 hi (by kernel_rfl) a b ha hb
theorem eq_sum (a : List UInt8) (ha : a.length = 16) (w : World) : (Op.equalIn 10000 34 (.agg (bva a)) (.agg (bva a))).run Try.prog w = .ok true w := by
  rw [eq_sums a a ha ha, decide_eq_true rfl]
set_option maxHeartbeats 1600000 in
theorem right_any (k s : List UInt8) (hk : k.length = 32) (hs : s.length = 16) (A : Option Addr) (n c : Nat) (l : List UInt8) (w : World) (hl : l.length = n) (hc : n ≤ c) (hm : c ≤ maxLen) (hr : Rd w.heap.size w A (bv l)) (hn : n ≤ 1000000000) :
    Calls Try.prog 21 #[.agg (bva k), .slice A n c, .agg (bva s)] w (RetB (.bool (decide (sealL k l = s))) w) := by
  have hb : Below w.heap.size w ((w.alloc (.cells (bva k) 30)).alloc (.cells (bva s) 34)) := ((Below.refl _ _).alloc (Nat.le_refl _) _).alloc (by simp) _
  have HL := Lib.hid hl
  have HR := Lib.hid hr
  have HK := Lib.hid hk
  have HI : Hid ((Try.prog.info? 30).map (·.size) = some (bva k).size) := by rw [bva_size, hk]; exact info33
  have HJ : Hid ((Try.prog.info? 34).map (·.size) = some (bva s).size) := by rw [bva_size, hs]; exact info_sum
  obtain ⟨x, hx⟩ : ∃ x, x = sealL k l := ⟨_, rfl⟩
  have hx16 : x.length = 16 := by rw [hx]; exact sealL_length k l
  have heq := eq_sums x s hx16 hs
  have HX := Lib.hid hx
  obtain ⟨b1, b2⟩ : Blk ((w.alloc (.cells (bva k) 30)).alloc (.cells (bva s) 34)) w.heap.size (bva k) 30 ∧ Blk ((w.alloc (.cells (bva k) 30)).alloc (.cells (bva s) 34)) (w.heap.size + 1) (bva s) 34 := ⟨heap_alloc2_old _ _ _, heap_alloc2_new _ _ _⟩
  have hS : Blk ((w.alloc (.cells (bva k) 30)).alloc (.cells (bva s) 34)).drew w.heap.size (bva k) 30 ∧ Blk ((w.alloc (.cells (bva k) 30)).alloc (.cells (bva s) 34)).drew (w.heap.size + 1) (bva s) 34 ∧ Below w.heap.size w ((w.alloc (.cells (bva k) 30)).alloc (.cells (bva s) 34)).drew := ⟨b1, b2, hb.drew⟩
  have HS := Lib.hid hS
  clear hl hr hk hs b1 b2 hb hS hx hx16
  go_enter Try.func21, Try.ntmps21
  go_wp2_with fail
  refine wp_region_held_drew (S := fun w' => Blk w' w.heap.size (bva k) 30 ∧ Blk w' (w.heap.size + 1) (bva s) 34 ∧ Below w.heap.size w w') (by kernel_rfl) HS.out (fun hh => ?_)
  have HH := Lib.hid hh
  clear hh HS
  refine wpAnyH_take (i := 0) (v := .agg (bva k)) rfl (by kernel_rfl) (by kernel_rfl) (by kernel_rfl) (fun _ _ _ h => h) (Or.inl ⟨by rfl, fun w' hw' => ?y0⟩) HH.out ?_
  case y0 => exact exec_load 30 (.tmp 3) rfl rfl hw'.1 Try.underlying30 rfl HI.out
  refine wpAnyH_take (i := 1) (v := ?v1) rfl (by kernel_rfl) (by kernel_rfl) (by kernel_rfl) (fun _ _ _ h => h) (Or.inl ⟨by rfl, fun w' _ => ?y1⟩) HH.out ?_
  case y1 => (go_simp; try with_reducible rfl)
  refine wpAnyH_take (i := 3) (v := .agg (bva s)) rfl (by kernel_rfl) (by kernel_rfl) (by kernel_rfl) (fun _ _ _ h => h) (Or.inl ⟨by rfl, fun w' hw' => ?y3⟩) HH.out ?_
  case y3 => exact exec_load 34 (.tmp 5) rfl rfl hw'.2.1 Try.underlying34 rfl HJ.out
  refine wpAnyH_ready (rs := [2]) (by kernel_rfl) (by simp) (AllReadyH.cons rfl (fun K hK => ?_) AllReadyH.nil)
  go_simp
  refine (seal_any k HK.out A n c l _ HL.out hc hm ((HR.out.below HH.out.2.2).more HH.out.2.2.size) hn).mono ?_
  rintro e w2 ⟨rfl, bw⟩
  rw [← HX.out]
  go_simp
  refine hK.out _ _ ⟨HH.out.1.below bw, HH.out.2.1.below bw, HH.out.2.2.trans (bw.mono HH.out.2.2.size)⟩ (fun hh => ?_)
  have HH' := Lib.hid hh
  clear hh hK K HH bw
  have HH := Lib.hid HH'.out
  clear HH'
  refine wpAnyH_take (i := 4) (v := ?v4) rfl (by kernel_rfl) (by kernel_rfl) (by kernel_rfl) (fun _ _ _ h => h) (Or.inl ⟨by rfl, fun w' _ => ?y4⟩) HH.out ?_
  case y4 => (go_simp; try with_reducible rfl)
  refine wpAnyH_take (i := 5) (v := ?v5) rfl (by kernel_rfl) (by kernel_rfl) (by kernel_rfl) (fun _ _ _ h => h) (Or.inl ⟨by rfl, fun w' _ => ?y5⟩) HH.out ?_
  case y5 => (go_simp; try with_reducible rfl)
  refine wpAnyH_done (by kernel_rfl) ?_ _
  go_wp2_with fail
  go_ret
  rw [← HX.out]
  exact ⟨rfl, HH.out.2.2⟩
end Go.Proofs.Ytdemfaolkmillaa
