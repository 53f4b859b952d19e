/-
  The contract of Sum: a text's sum.
-/
import Derived.Test.YtobkkbpeoohfkaaShOver
import Derived.Test.YtobkkbpeoohfkaaShPad
import Derived.Test.YtobkkbpeoohfkaaShTold
namespace Go.Proofs.Ytobkkbpeoohfkaa
open Go.RowKit
set_option maxHeartbeats 400000 in
theorem sum_any {B : Nat} (A : Option Addr) (n c : Nat) (b : List UInt8) (w : World) (hn : b.length = n) (hB : B ≤ w.heap.size) (ha : Rd B w A (bv b)) (hs : n ≤ 70368744177664) :
    Calls Try.prog 21 #[.slice A n c] w (RetB (.agg (bva (shaL b))) w) := by
  have HN := Lib.hid hn
  have HA := Lib.hid (ha.more hB)
  have b1 : Blk (w.alloc (.cells (bva (List.replicate 32 0)) 23)) w.heap.size (bva (List.replicate 32 0)) 23 := heap_alloc_new _ _
  have b2 : Below w.heap.size w (w.alloc (.cells (bva (List.replicate 32 0)) 23)) := (Below.refl _ _).alloc (Nat.le_refl _) _
  have B1 := Lib.hid b1
  have B2 := Lib.hid b2
  clear hn ha b1 b2
  go_enter Try.func21, Try.ntmps21
  go_wp2_with fail
  refine (firstWords_any _).mono ?_
  rintro e w1 ⟨rfl, bw1⟩
  have c1 := B1.out.below bw1
  have c2 := B2.out.trans (bw1.mono B2.out.size)
  have C1 := Lib.hid c1
  have C2 := Lib.hid c2
  clear B1 B2 bw1 c1 c2
  go_wp2_with fail
  refine (pad_any A n c b _ HN.out C2.out.size (HA.out.below C2.out) hs).mono ?_
  rintro e w2 ⟨A2, n2, cc2, rfl, ho2, bw2⟩
  have hl2 : (padL b).length = n2 := own_blen ho2
  have h64 : n2 % 64 = 0 := by rw [← hl2, padL_length]; exact padN_mod _
  have hpos : 0 < n2 := by have := padN_le b.length; rw [← hl2, padL_length]; omega
  obtain ⟨g, rfl, _, hnc, hcm⟩ := own_addr ho2 hpos
  have hr := Rd.own ho2
  have c1 := C1.out.below bw2
  have c2 := C2.out.trans (bw2.mono C2.out.size)
  have D1 := Lib.hid c1
  have D2 := Lib.hid c2
  have HL := Lib.hid hl2
  have HR := Lib.hid hr
  clear C1 C2 bw2 c1 c2 hl2 hr ho2
  go_wp2_with fail
  refine (over_any firstL firstL_length g n2 cc2 (padL b) _ HL.out hnc hcm h64 HR.out).mono ?_
  rintro e w3 ⟨rfl, bw3⟩
  have c1 := D1.out.below bw3
  have c2 := D2.out.trans (bw3.mono D2.out.size)
  have C1 := Lib.hid c1
  have C2 := Lib.hid c2
  clear D1 D2 bw3 c1 c2
  go_wp2_with fail
  refine (told_any (overL firstL (padL b)) (by rw [overL_length]; rfl) _).mono ?_
  rintro e w4 ⟨rfl, bw4⟩
  have c1 := C1.out.below bw4
  have c2 := C2.out.trans (bw4.mono C2.out.size)
  have D1 := Lib.hid c1
  have D2 := Lib.hid c2
  have HI : Hid ((Try.prog.info? 23).map (·.size) = some (bva (shaL b)).size) := by rw [bva_size, shaL_length]; exact info33
  clear C1 C2 bw4 c1 c2
  go_wp2_with (refine wpList_store_row rfl 23 (.tmp 2) (.tmp 7) rfl w.heap.size (bva (shaL b)) rfl rfl 23 (bva (List.replicate 32 0)) D1.out HI.out (by rw [bva_size, bva_size, shaL_length]; rfl) (bva_one _) ?_)
  exact bodyPost_ret (v := .agg (bva (shaL b))) (results_cell_row Try.results21 _ _ w.heap.size 23 (bva (shaL b)) (0, 0) _ rfl (setRow_heap _ _ _ _ _ _ D1.out) Try.underlying23 rfl HI.out) rfl ⟨rfl, below_setRow D2.out (Nat.le_refl _) _⟩
end Go.Proofs.Ytobkkbpeoohfkaa
