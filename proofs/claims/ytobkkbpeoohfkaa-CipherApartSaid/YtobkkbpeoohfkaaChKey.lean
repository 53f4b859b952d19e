import Derived.Test.YtobkkbpeoohfkaaArr
import Derived.Test.YtobkkbpeoohfkaaChWord4
import Derived.Test.YtobkkbpeoohfkaaChRounds
namespace Go.Proofs.Ytobkkbpeoohfkaa
open Go.RowKit
theorem wordL_drop (l : List UInt8) (m : Nat) : wordL (l.drop m) = w4 (l.getD m 0) (l.getD (m + 1) 0) (l.getD (m + 2) 0) (l.getD (m + 3) 0) := by
  simp [wordL, List.getD_eq_getElem?_getD, List.getElem?_drop]
theorem keyL_blk {w : World} {g : Nat} {key : List UInt8} {A : TypeId} (h : Blk w g (uv (keyTo key 8)) A) (c : UInt32) (n : Nat) :
    Blk (((w.setCell ⟨g, 12, none⟩ (.int .u32 (c.toNat : Int))).setCell ⟨g, 14, none⟩ (.int .u32 ((n : Int) % 4294967296))).setCell ⟨g, 15, none⟩ (.int .u32 ((n : Int) / 4294967296 % 4294967296))) g (uv (keyL key c n)) A :=
  ((h.set 12 c).setv 14 (UInt32.ofNat n) (int_eq (by rw [UInt32.toNat_ofNat']; omega))).setv 15 (UInt32.ofNat (n / 4294967296)) (int_eq (by rw [UInt32.toNat_ofNat']; omega))
set_option maxHeartbeats 400000 in
theorem keyState_any (key : List UInt8) (hkey : key.length = 32) (c : UInt32) (n : Nat) (w : World) :
    Calls Try.prog 33 #[.agg (bva key), .int .u32 c.toNat, .int .u64 (n : Int)] w (RetB (.agg (uv (keyL key c n))) w) := by
  go_enter Try.func33, Try.ntmps33
  go_wp2
  go_loopw [10] (fun i wr => ∃ k : Nat, k ≤ 8 ∧ i = .int .i64 k ∧ Blk wr w.heap.size (bva key) 23 ∧ Blk wr (w.heap.size + 1) (uv (List.replicate 16 0)) 64 ∧ Blk wr (w.heap.size + 1 + 1) (uv (keyTo key k)) 64 ∧ Below w.heap.size w wr) (fun i _ => 8 - (intOf i).toNat)
  case atStart =>
    refine ⟨0, by omega, rfl, ?_, ?_, ?_, (((Below.refl _ _).alloc (Nat.le_refl _) _).alloc (by simp) _).alloc (by simp; omega) _⟩
    · unfold Blk
      rw [heap_alloc_old _ _ (by simp; omega)]
      exact heap_alloc2_old _ _ _
    · unfold Blk
      rw [heap_alloc_old _ _ (by simp)]
      exact heap_alloc2_new _ _ _
    · have h := heap_alloc_new ((w.alloc (.cells (bva key) 23)).alloc (.cells (uv (List.replicate 16 0)) 64)) (.cells (uv (keyTo key 0)) 64)
      have e : ((w.alloc (.cells (bva key) 23)).alloc (.cells (uv (List.replicate 16 0)) 64)).heap.size = w.heap.size + 1 + 1 := by simp
      rw [e] at h
      exact h
  case round =>
    obtain ⟨k, hk, rfl, B1, B2, B3, hbel⟩ := hrel
    by_cases hlt : k < 8
    · obtain ⟨m, hm⟩ : ∃ m : Nat, m = 4 * k := ⟨_, rfl⟩
      obtain ⟨d, hd⟩ : ∃ d : Nat, d = 4 + k := ⟨_, rfl⟩
      have em : 4 * (k : Int) = (m : Int) := by omega
      have ed : 4 + (k : Int) = (d : Int) := by omega
      have m0 : (0 : Int) ≤ (m : Int) := by omega
      have m1 : (m : Int) ≤ 28 := by omega
      have m1' : (m : Int) ≤ 32 := by omega
      have m2 : ¬ 32 = m := by omega
      have d0 : (0 : Int) ≤ (d : Int) := by omega
      have d1 : (d : Int) < 16 := by omega
      have HM := Lib.hid hm
      have HD := Lib.hid hd
      have C0 := Lib.hid (B1.cellb (k := m) (by omega))
      have C1 := Lib.hid (B1.cellb (k := m + 1) (by omega))
      have C2 := Lib.hid (B1.cellb (k := m + 2) (by omega))
      have C3 := Lib.hid (B1.cellb (k := m + 3) (by omega))
      have D0 := B3.cellu (k := d) (by rw [keyTo_length]; omega)
      have D1 := B3.free d
      clear hm hd
      go_wp2_with fail
      refine (cword_any w.heap.size m _ _ _ _ _ _ _ ?_ C0.out C1.out C2.out C3.out).mono ?_
      · have := HM.out; omega
      rintro e w1 ⟨rfl, q, rfl⟩
      go_wp2
      go_roundw
      case rel => exact ⟨k + 1, by omega, by go_num, (B1.drewN q).other (by omega) _ _, (B2.drewN q).other (by omega) _ _, by rw [keyTo, ← HM.out, ← HD.out, wordL_drop]; exact (B3.drewN q).set d _, (below_drewN' hbel q).setCell (by simp; omega) _⟩
      case measure => simp [intOf]; omega
    · obtain rfl : k = 8 := by omega
      have D12 := B3.cellu (k := 12) (by rw [keyTo_length]; omega)
      have D14 := B3.cellu (k := 14) (by rw [keyTo_length]; omega)
      have D15 := B3.cellu (k := 15) (by rw [keyTo_length]; omega)
      have F12 := B3.free 12
      have F14 := B3.free 14
      have F15 := B3.free 15
      have H2 := Lib.hid B2
      have n0 : (0 : Int) ≤ (n : Int) := by omega
      clear B1 B2
      go_wp2_with (first
        | (refine wpList_load_row rfl 64 (.tmp 7) rfl (w.heap.size + 1 + 1) rfl 64 (uv (keyL key c n)) (0, 0) _ ?hg Try.underlying64 rfl (by rw [uv_size, keyL_length]; exact info30) ?_; case hg => exact keyL_blk B3 c n)
        | (refine wpList_store_row rfl 64 (.tmp 6) (.tmp 30) rfl (w.heap.size + 1) (uv (keyL key c n)) rfl rfl 64 (uv (List.replicate 16 0)) ?hh (by rw [uv_size, keyL_length]; exact info30) (by rw [uv_size, uv_size, keyL_length]; rfl) (uv_one _) ?_; case hh => exact ((H2.out.other (by omega) _ _).other (by omega) _ _).other (by omega) _ _))
      exact bodyPost_ret (v := .agg (uv (keyL key c n))) (results_cell_row Try.results33 _ _ (w.heap.size + 1) 64 (uv (keyL key c n)) (0, 0) _ rfl (setRow_heap _ _ _ _ _ _ (((H2.out.other (by omega) _ _).other (by omega) _ _).other (by omega) _ _)) Try.underlying64 rfl (by rw [uv_size, keyL_length]; exact info30)) rfl ⟨rfl, below_setRow (((hbel.setCell (by simp; omega) _).setCell (by simp; omega) _).setCell (by simp; omega) _) (by omega) _⟩
end Go.Proofs.Ytobkkbpeoohfkaa
