/-
  The contract of long: the sum of two texts, one behind the other.
-/
import Derived.Test.YtobkkbpeoohfkaaShEq
namespace Go.Proofs.Ytobkkbpeoohfkaa
open Go.RowKit
attribute [local go_sem ↓] Go.wp_at_zero Go.wp_at_succ
set_option maxHeartbeats 800000 in
theorem long_any (A : Option Addr) (n c : Nat) (l : List UInt8) (A' : Option Addr) (n' c' : Nat) (l' : List UInt8) (w : World) (hl : l.length = n) (hc : n ≤ c) (hm : c ≤ maxLen) (hr : Rd w.heap.size w A (bv l))
    (hl' : l'.length = n') (hc' : n' ≤ c') (hm' : c' ≤ maxLen) (hr' : Rd w.heap.size w A' (bv l')) (hs : n + n' ≤ 1099511627776) :
    Calls Try.prog 39 #[.slice A n c, .slice A' n' c'] w (RetB (.agg (bva (shaL (l ++ l')))) w) := by
  have HL := Lib.hid hl
  have HR := Lib.hid hr
  have HL' := Lib.hid hl'
  have HR' := Lib.hid hr'
  have b1 : Blk (w.alloc (.cells (bva (List.replicate 32 0)) 23)) w.heap.size (bva (List.replicate 32 0)) 23 := heap_alloc_new _ _
  have b2 : Below w.heap.size w (w.alloc (.cells (bva (List.replicate 32 0)) 23)) := (Below.refl _ _).alloc (Nat.le_refl _) _
  have B1 := Lib.hid b1
  have B2 := Lib.hid b2
  clear hl hr hl' hr' b1 b2
  go_enter Try.func39, Try.ntmps39
  go_wp2_with fail
  refine (new_any' _).mono ?_
  rintro e w1 ⟨g, rfl, hg1, hg2, hG, bw1⟩
  have hg0 : w.heap.size < g := by have h := hg1; simp at h; omega
  have hgw : w.heap.size ≤ g := Nat.le_of_lt hg0
  have hne : w.heap.size ≠ g := by omega
  have C1 := Lib.hid (B1.out.below bw1)
  have C2 := Lib.hid (B2.out.trans (bw1.mono B2.out.size))
  have G1 := Lib.hid hG
  clear bw1 hG hg1 hg2 B1 B2
  go_wp2_with fail
  refine (write_any g [] l A n c _ HL.out hc hm G1.out (Rf.of_rd (HR.out.below C2.out) hgw) (by show 0 + n ≤ _; omega)).mono ?_
  rintro e w2 ⟨rfl, hG, gr⟩
  have D1 := Lib.hid (blk_far C1.out gr hne)
  have D2 := Lib.hid (C2.out.grown gr C2.out.size (fun k hk => by injection hk with hk; omega))
  have G2 := Lib.hid (show HashIs w2 g l from hG)
  clear hG gr C1 C2 G1
  go_wp2_with fail
  refine (write_any g l l' A' n' c' _ HL'.out hc' hm' G2.out (Rf.of_rd (HR'.out.below D2.out) hgw) (by rw [HL.out]; omega)).mono ?_
  rintro e w3 ⟨rfl, hG, gr⟩
  have C1 := Lib.hid (blk_far D1.out gr hne)
  have C2 := Lib.hid (D2.out.grown gr D2.out.size (fun k hk => by injection hk with hk; omega))
  have G3 := Lib.hid hG
  clear hG gr D1 D2 G2
  go_wp2_with fail
  refine (hsum_any g (l ++ l') _ G3.out (by rw [List.length_append, HL.out, HL'.out]; omega)).mono ?_
  rintro e w4 ⟨rfl, bw⟩
  have D1 := Lib.hid (C1.out.below bw)
  have D2 := Lib.hid (C2.out.trans (bw.mono C2.out.size))
  have HI : Hid ((Try.prog.info? 23).map (·.size) = some (bva (shaL (l ++ l'))).size) := by rw [bva_size, shaL_length]; exact info33
  clear bw C1 C2 G3
  go_wp2_with (refine wpList_store_row rfl 23 (.tmp 4) (.tmp 14) rfl w.heap.size (bva (shaL (l ++ l'))) rfl rfl 23 (bva (List.replicate 32 0)) D1.out HI.out (by rw [bva_size, bva_size, shaL_length]; rfl) (bva_one _) ?_)
  exact bodyPost_ret (v := .agg (bva (shaL (l ++ l')))) (results_cell_row Try.results39 _ _ w.heap.size 23 (bva (shaL (l ++ l'))) (0, 0) _ rfl (setRow_heap _ _ _ _ _ _ D1.out) Try.underlying23 rfl HI.out) rfl ⟨rfl, below_setRow D2.out (Nat.le_refl _) _⟩
end Go.Proofs.Ytobkkbpeoohfkaa
