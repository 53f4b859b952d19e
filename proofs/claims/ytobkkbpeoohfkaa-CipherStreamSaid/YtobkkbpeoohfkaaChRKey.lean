import Derived.Test.YtobkkbpeoohfkaaChKey
import Derived.BigRegion
import Derived.Laws.ShiftsVar
namespace Go.Proofs.Ytobkkbpeoohfkaa
open Go.RowKit
/-- The reference's state, as far as the first n bytes of the key are laid. -/
def rkeyTo (k : List UInt8) : Nat → List UInt32
  | 0 => keyTo k 0
  | n + 1 => (rkeyTo k n).set (4 + n / 4) ((rkeyTo k n).getD (4 + n / 4) 0 ||| (UInt32.ofNat (k.getD n 0).toNat <<< UInt32.ofNat (8 * (n % 4))))
theorem rkeyTo_length (k : List UInt8) : ∀ n, (rkeyTo k n).length = 16
  | 0 => rfl
  | n + 1 => by rw [rkeyTo, List.length_set, rkeyTo_length k n]
theorem or_byte (x : UInt32) (y : UInt8) {m k : Nat} (h : m = 8 * (k % 4)) : bits BinOp.or IntKind.u32 (x.toNat : Int) ((y.toNat : Int) * 2 ^ m % 4294967296) = ((x ||| (UInt32.ofNat y.toNat <<< UInt32.ofNat m)).toNat : Int) := by
  rw [w_byte y, w_shl _ (by omega), w_or]
theorem getD_set_self {s : List UInt32} {p : Nat} (x : UInt32) (h : p < s.length) : (s.set p x).getD p 0 = x := by
  rw [List.getD_eq_getElem?_getD, List.getElem?_set_self h]; rfl
theorem keyTo_zero (k : List UInt8) : ∀ n p, 4 + n ≤ p → p < 16 → (keyTo k n).getD p 0 = 0
  | 0, p, h, h' => by
    obtain ⟨q, rfl⟩ : ∃ q, p = q + 4 := ⟨p - 4, by omega⟩
    have hq : q < 12 := by omega
    show ([0, 0, 0, 0, 0, 0, 0, 0, 0, 0, 0, 0] : List UInt32).getD q 0 = 0
    have e : ([0, 0, 0, 0, 0, 0, 0, 0, 0, 0, 0, 0] : List UInt32) = List.replicate 12 0 := rfl
    rw [e, List.getD_eq_getElem?_getD, List.getElem?_replicate, if_pos hq]; rfl
  | n + 1, p, h, h' => by
    rw [keyTo, List.getD_eq_getElem?_getD, List.getElem?_set_ne (by omega), ← List.getD_eq_getElem?_getD]
    exact keyTo_zero k n p (by omega) h'
theorem rkeyTo_four (k : List UInt8) : ∀ i, i ≤ 8 → rkeyTo k (4 * i) = keyTo k i
  | 0, _ => rfl
  | i + 1, h => by
    have hs : (keyTo k i).length = 16 := keyTo_length k i
    have hp : 4 + i < (keyTo k i).length := by omega
    rw [show 4 * (i + 1) = 4 * i + 1 + 1 + 1 + 1 by omega, rkeyTo, rkeyTo, rkeyTo, rkeyTo, rkeyTo_four k i (by omega)]
    rw [show (4 * i + 1 + 1 + 1) / 4 = i by omega, show (4 * i + 1 + 1) / 4 = i by omega, show (4 * i + 1) / 4 = i by omega, show 4 * i / 4 = i by omega]
    rw [show (4 * i + 1 + 1 + 1) % 4 = 3 by omega, show (4 * i + 1 + 1) % 4 = 2 by omega, show (4 * i + 1) % 4 = 1 by omega, show 4 * i % 4 = 0 by omega]
    have hg : ∀ x, ((keyTo k i).set (4 + i) x).getD (4 + i) 0 = x := fun x => getD_set_self x hp
    simp only [List.set_set, hg, keyTo_zero k i (4 + i) (Nat.le_refl _) (by omega)]
    rw [keyTo, wordL_drop]
    congr 1
    unfold w4
    simp
theorem rkeyTo_all (k : List UInt8) : rkeyTo k 32 = keyTo k 8 := rkeyTo_four k 8 (by omega)
set_option maxHeartbeats 400000 in
theorem rkeyState_any (key : List UInt8) (hkey : key.length = 32) (c : UInt32) (n : Nat) (w : World) :
    Calls Try.prog 37 #[.agg (bva key), .int .u32 c.toNat, .int .u64 (n : Int)] w (RetB (.agg (uv (keyL key c n))) w) := by
  go_enter Try.func37, Try.ntmps37
  go_wp2
  go_loopw [8] (fun i wr => ∃ k : Nat, k ≤ 32 ∧ i = .int .i64 k ∧ Blk wr w.heap.size (bva key) 22 ∧ Blk wr (w.heap.size + 1) (uv (List.replicate 16 0)) 64 ∧ Blk wr (w.heap.size + 1 + 1) (uv (rkeyTo key k)) 64 ∧ Below w.heap.size w wr) (fun i _ => 32 - (intOf i).toNat)
  case atStart =>
    refine ⟨0, by omega, rfl, ?_, ?_, ?_, (((Below.refl _ _).alloc (Nat.le_refl _) _).alloc (by simp) _).alloc (by simp; omega) _⟩
    · unfold Blk
      rw [heap_alloc_old _ _ (by simp; omega)]
      exact heap_alloc2_old _ _ _
    · unfold Blk
      rw [heap_alloc_old _ _ (by simp)]
      exact heap_alloc2_new _ _ _
    · have h := heap_alloc_new ((w.alloc (.cells (bva key) 22)).alloc (.cells (uv (List.replicate 16 0)) 64)) (.cells (uv (keyTo key 0)) 64)
      have e : ((w.alloc (.cells (bva key) 22)).alloc (.cells (uv (List.replicate 16 0)) 64)).heap.size = w.heap.size + 1 + 1 := by simp
      rw [e] at h
      exact h
  case round =>
    obtain ⟨k, hk, rfl, B1, B2, B3, hbel⟩ := hrel
    by_cases hlt : k < 32
    · obtain ⟨d, hd⟩ : ∃ d : Nat, d = 4 + k / 4 := ⟨_, rfl⟩
      obtain ⟨m, hm⟩ : ∃ m : Nat, m = 8 * (k % 4) := ⟨_, rfl⟩
      have ed : 4 + (k : Int) / 4 = (d : Int) := by omega
      have em : 8 * ((k : Int) % 4) = (m : Int) := by omega
      have d0 : (0 : Int) ≤ (d : Int) := by omega
      have d1 : (d : Int) < 16 := by omega
      have m0 : (0 : Int) ≤ (m : Int) := by omega
      have m1 : (m : Int) ≤ 24 := by omega
      have k0 : (0 : Int) ≤ (k : Int) := by omega
      have k1 : (k : Int) < 32 := by omega
      have HM := Lib.hid hm
      have HD := Lib.hid hd
      obtain ⟨y, hy⟩ : ∃ y, y = key.getD k 0 := ⟨_, rfl⟩
      obtain ⟨x, hx⟩ : ∃ x, x = (rkeyTo key k).getD d 0 := ⟨_, rfl⟩
      have C0 := B1.cellb (k := k) (by omega)
      have D0 := B3.cellu (k := d) (by rw [rkeyTo_length]; omega)
      rw [← hy] at C0
      rw [← hx] at D0
      have D1 := B3.free d
      have HY := Lib.hid hy
      have HX := Lib.hid hx
      have y1 : (y.toNat : Int) ≤ 255 := by have := y.toNat_lt; omega
      have G1 := Lib.hid B1
      have G2 := Lib.hid B2
      have G3 := Lib.hid B3
      clear hm hd hy hx B1 B2 B3
      go_wp2
      go_region
      go_wp2
      go_roundw
      case rel => exact ⟨k + 1, by omega, by go_num, by exact G1.out.other (by omega) _ _, by exact G2.out.other (by omega) _ _, by rw [rkeyTo, ← HD.out, ← HM.out, ← HX.out, ← HY.out]; exact G3.out.setv d _ (int_eq (or_byte x y HM.out)), by exact (hbel.setCell (by simp; omega) _).drew⟩
      case measure => simp [intOf]; omega
    · obtain rfl : k = 32 := by omega
      have D12 := B3.cellu (k := 12) (by rw [rkeyTo_length]; omega)
      have D14 := B3.cellu (k := 14) (by rw [rkeyTo_length]; omega)
      have D15 := B3.cellu (k := 15) (by rw [rkeyTo_length]; omega)
      have F12 := B3.free 12
      have F14 := B3.free 14
      have F15 := B3.free 15
      have H2 := Lib.hid B2
      have n0 : (0 : Int) ≤ (n : Int) := by omega
      clear B1 B2
      rw [rkeyTo_all] at B3
      go_wp2_with (first
        | (refine wpList_load_row rfl 64 (.tmp 7) rfl (w.heap.size + 1 + 1) rfl 64 (uv (keyL key c n)) (0, 0) _ ?hg Try.underlying64 rfl (by rw [uv_size, keyL_length]; exact info30) ?_; case hg => exact keyL_blk B3 c n)
        | (refine wpList_store_row rfl 64 (.tmp 6) (.tmp 42) rfl (w.heap.size + 1) (uv (keyL key c n)) rfl rfl 64 (uv (List.replicate 16 0)) ?hh (by rw [uv_size, keyL_length]; exact info30) (by rw [uv_size, uv_size, keyL_length]; rfl) (uv_one _) ?_; case hh => exact ((H2.out.other (by omega) _ _).other (by omega) _ _).other (by omega) _ _))
      exact bodyPost_ret (v := .agg (uv (keyL key c n))) (results_cell_row Try.results37 _ _ (w.heap.size + 1) 64 (uv (keyL key c n)) (0, 0) _ rfl (setRow_heap _ _ _ _ _ _ (((H2.out.other (by omega) _ _).other (by omega) _ _).other (by omega) _ _)) Try.underlying64 rfl (by rw [uv_size, keyL_length]; exact info30)) rfl ⟨rfl, below_setRow (((hbel.setCell (by simp; omega) _).setCell (by simp; omega) _).setCell (by simp; omega) _) (by omega) _⟩
end Go.Proofs.Ytobkkbpeoohfkaa
