/-
  The law's sector: all of one byte.
-/
import Derived.Test.YtolbffcbamfbeaaProg
import Derived.Test.YtolbffcbamfbeaaKtArr
import Derived.Test.YtolbffcbamfbeaaShMid
namespace Go.Proofs.Ytolbffcbamfbeaa.Kd
open Go.RowKit
attribute [local go_sem ↓] Go.wp_at_zero Go.wp_at_succ
/-- So many bytes are laid. -/
def fillS (c : UInt8) (k : Nat) : List UInt8 := List.replicate k c ++ List.replicate (128 - k) 0
theorem fillS_length {c : UInt8} {k : Nat} (hk : k ≤ 128) : (fillS c k).length = 128 := by rw [fillS, List.length_append, List.length_replicate, List.length_replicate]; omega
theorem fillS_set {c : UInt8} {k : Nat} (hk : k < 128) : (fillS c k).set k c = fillS c (k + 1) := by
  rw [fillS, fillS, List.set_append_right _ _ (by simp), List.length_replicate, Nat.sub_self, show 128 - k = (128 - (k + 1)) + 1 by omega, List.replicate_succ, List.set_cons_zero, List.replicate_succ', List.append_assoc]; rfl
theorem fillS_all (c : UInt8) : fillS c 128 = List.replicate 128 c := by rw [fillS, Nat.sub_self, List.replicate_zero, List.append_nil]
theorem info_sec : (Try.prog.info? 38).map (·.size) = some 128 := by kernel_rfl
def secC (c : UInt8) : List UInt8 := List.replicate 128 c
theorem secC_length (c : UInt8) : (secC c).length = 128 := by rw [secC, List.length_replicate]
set_option maxRecDepth 100000 in
set_option maxHeartbeats 1600000 in
theorem sector_any (c : UInt8) (w : World) : Calls Try.prog 24 #[.int .u8 (c.toNat : Int)] w (RetB (.agg (bva (secC c))) w) := by
  obtain ⟨z, hz0⟩ : ∃ z : List UInt8, z = List.replicate 128 0 := ⟨_, rfl⟩
  have hz : ∀ W, (zeroValue 38).run Try.prog W = .ok (.agg (bva z)) W := fun _ => by rw [hz0]; kernel_rfl
  have Z3 : Hid (z.length = 128) := by show _ = _; rw [hz0, List.length_replicate]
  have Z0 := Lib.hid (show z = fillS c 0 by rw [hz0, fillS]; rfl)
  have b1 : Blk ((w.alloc (.cells (bva z) 38)).alloc (.cells (bva z) 38)) w.heap.size (bva z) 38 := (heap_alloc_old _ _ (by simp)).trans (heap_alloc_new _ _)
  have b2 : Blk ((w.alloc (.cells (bva z) 38)).alloc (.cells (bva z) 38)) (w.heap.size + 1) (bva z) 38 := by have h := heap_alloc_new (w.alloc (.cells (bva z) 38)) (.cells (bva z) 38); rwa [World.size_alloc] at h
  have B1 := Lib.hid b1
  have B2 := Lib.hid b2
  have BB := Lib.hid (show Below w.heap.size w ((w.alloc (.cells (bva z) 38)).alloc (.cells (bva z) 38)) from ((Below.refl _ w).alloc (Nat.le_refl _) _).alloc (by simp) _)
  clear hz0 b1 b2
  go_enter Try.func24, Try.ntmps24
  go_wp2_with fail
  go_loopw [4] (fun i wr => ∃ k : Nat, k ≤ 128 ∧ i = .int .i64 k ∧ Blk wr w.heap.size (bva z) 38 ∧ Blk wr (w.heap.size + 1) (bva (fillS c k)) 38 ∧ Below w.heap.size w wr) (fun i _ => 128 - (intOf i).toNat)
  case atStart => exact ⟨0, by omega, rfl, B1.out, by rw [← Z0.out]; exact B2.out, BB.out⟩
  case round =>
    clear hz B1 B2 BB Z0
    obtain ⟨k, hk2, rfl, B1, B2, hbel⟩ := hrel
    by_cases hlt : k < 128
    · have k0 : (0 : Int) ≤ (k : Int) := by omega
      have k1 : (k : Int) < 128 := by omega
      obtain ⟨y, hy⟩ : ∃ y, y = (fillS c k).getD k 0 := ⟨_, rfl⟩
      have D0 := B2.cellb (k := k) (by rw [fillS_length (by omega)]; omega)
      rw [← hy] at D0
      have D1 := B2.free k
      have G1 := Lib.hid B1
      have G2 := Lib.hid B2
      clear hy B1 B2
      go_wp2
      go_roundw
      case rel =>
        exact ⟨k + 1, by omega, by go_num, by exact G1.out.other (by omega) _ _, by have h := G2.out.setb k c rfl; rwa [fillS_set hlt] at h, by exact hbel.setCell (by simp) _⟩
      case measure => simp [intOf]; omega
    · obtain rfl : k = 128 := by omega
      rw [fillS_all, show List.replicate 128 c = secC c from rfl] at B2
      have Hi : Hid ((Try.prog.info? 38).map (·.size) = some (bva (secC c)).size) := by show _ = _; rw [bva_size, secC_length]; exact info_sec
      have G1 := Lib.hid B1
      have G2 := Lib.hid B2
      clear B1 B2
      go_wp2_with (first
        | (refine wpList_load_row rfl 38 (.tmp 3) rfl (w.heap.size + 1) rfl 38 (bva (secC c)) (0, 0) _ G2.out Try.underlying38 rfl Hi.out ?_)
        | (refine wpList_store_row rfl 38 (.tmp 2) (.tmp 12) rfl w.heap.size (bva (secC c)) rfl rfl 38 (bva z) G1.out Hi.out (by rw [bva_size, bva_size, secC_length, Z3.out]) (bva_one _) ?_))
      exact bodyPost_ret (v := .agg (bva (secC c))) (results_cell_row Try.results24 _ _ w.heap.size 38 (bva (secC c)) (0, 0) _ rfl (setRow_heap _ _ _ _ _ _ G1.out) Try.underlying38 rfl Hi.out) rfl ⟨rfl, below_setRow hbel (by omega) _⟩
end Go.Proofs.Ytolbffcbamfbeaa.Kd
