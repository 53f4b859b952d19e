import Derived.Test.YtobkkbpeoohfkaaArr
import Derived.Test.YtobkkbpeoohfkaaChKey
import Derived.BigRegion
namespace Go.Proofs.Ytobkkbpeoohfkaa
open Go.RowKit
set_option maxHeartbeats 400000 in
theorem sums_any (s t : List UInt32) (hs : s.length = 16) (ht : t.length = 16) (w : World) :
    Calls Try.prog 35 #[.agg (uv s), .agg (uv t)] w (RetB (.agg (uv (csumsTo s t 16))) w) := by
  go_enter Try.func35, Try.ntmps35
  go_wp2
  go_loopw [6] (fun i wr => ∃ k : Nat, k ≤ 16 ∧ i = .int .i64 k ∧ Blk wr w.heap.size (uv (csumsTo s t k)) 64 ∧ Blk wr (w.heap.size + 1) (uv t) 64 ∧ Blk wr (w.heap.size + 1 + 1) (uv (List.replicate 16 0)) 64 ∧ Below w.heap.size w wr) (fun i _ => 16 - (intOf i).toNat)
  case atStart =>
    obtain ⟨b1, b2, b3, hb⟩ := three_blocks w (.cells (uv s) 64) (.cells (uv t) 64) (.cells (uv (List.replicate 16 0)) 64)
    exact ⟨0, by omega, rfl, b1, b2, b3, hb⟩
  case round =>
    obtain ⟨k, hk, rfl, B1, B2, B3, hbel⟩ := hrel
    by_cases hlt : k < 16
    · have k0 : (0 : Int) ≤ (k : Int) := by omega
      have k1 : (k : Int) < 16 := by omega
      obtain ⟨x, hx⟩ : ∃ x, x = (csumsTo s t k).getD k 0 := ⟨_, rfl⟩
      obtain ⟨y, hy⟩ : ∃ y, y = t.getD k 0 := ⟨_, rfl⟩
      have C0 := B1.cellu (k := k) (by rw [csumsTo_length]; omega)
      have D0 := B2.cellu (k := k) (by omega)
      rw [← hx] at C0
      rw [← hy] at D0
      have C1 := B1.free k
      have HY := Lib.hid hy
      have HX := Lib.hid hx
      have G1 := Lib.hid B1
      have G2 := Lib.hid B2
      have G3 := Lib.hid B3
      clear hx hy B1 B2 B3
      go_wp2
      go_region
      go_wp2
      go_roundw
      case rel => exact ⟨k + 1, by omega, by go_num, by rw [csumsTo, ← HX.out, ← HY.out]; exact G1.out.setv k _ (int_eq (w_add x y)), by exact G2.out.other (by omega) _ _, by exact G3.out.other (by omega) _ _, by exact (hbel.setCell (by simp) _).drew⟩
      case measure => simp [intOf]; omega
    · obtain rfl : k = 16 := by omega
      have hi : (Try.prog.info? 64).map (·.size) = some (uv (csumsTo s t 16)).size := by rw [uv_size, csumsTo_length, hs]; exact info30
      have Hi := Lib.hid hi
      have Hs := Lib.hid hs
      have G1 := Lib.hid B1
      have G3 := Lib.hid B3
      clear hi hs B1 B2 B3
      go_wp2_with (first
        | (refine wpList_load_row rfl 64 (.tmp 2) rfl w.heap.size rfl 64 (uv (csumsTo s t 16)) (0, 0) _ G1.out Try.underlying64 rfl Hi.out ?_)
        | (refine wpList_store_row rfl 64 (.tmp 4) (.tmp 18) rfl (w.heap.size + 1 + 1) (uv (csumsTo s t 16)) rfl rfl 64 (uv (List.replicate 16 0)) G3.out Hi.out (by rw [uv_size, uv_size, csumsTo_length, Hs.out]; rfl) (uv_one _) ?_))
      exact bodyPost_ret (v := .agg (uv (csumsTo s t 16))) (results_cell_row Try.results35 _ _ (w.heap.size + 1 + 1) 64 (uv (csumsTo s t 16)) (0, 0) _ rfl (setRow_heap _ _ _ _ _ _ G3.out) Try.underlying64 rfl Hi.out) rfl ⟨rfl, below_setRow hbel (by omega) _⟩
/-- A block's bytes, as far as the first n are laid. -/
def toldTo (s : List UInt32) : Nat → List UInt8
  | 0 => List.replicate 64 0
  | n + 1 => (toldTo s n).set n (byteAt (s.getD (n / 4) 0) (n % 4))
theorem toldTo_length (s : List UInt32) : ∀ n, (toldTo s n).length = 64
  | 0 => rfl
  | n + 1 => by rw [toldTo, List.length_set, toldTo_length s n]
theorem toldTo_get (s : List UInt32) : ∀ n j, j < n → n ≤ 64 → (toldTo s n)[j]? = some (byteAt (s.getD (j / 4) 0) (j % 4))
  | 0, j, h, _ => by omega
  | n + 1, j, h, h' => by
    rw [toldTo]
    by_cases e : j = n
    · subst e
      rw [List.getElem?_set_self (by rw [toldTo_length]; omega)]
    · rw [List.getElem?_set_ne (fun e' => e e'.symm)]
      exact toldTo_get s n j (by omega) (by omega)
theorem toldTo_all (s : List UInt32) : toldTo s 64 = toldL s := by
  apply List.ext_getElem?
  intro j
  by_cases h : j < 64
  · rw [toldTo_get s 64 j h (Nat.le_refl _), toldL, List.getElem?_map, List.getElem?_range h]; rfl
  · rw [List.getElem?_eq_none (by rw [toldTo_length]; omega), List.getElem?_eq_none (by rw [toldL_length]; omega)]
theorem byteAt_val (x : UInt32) {m j : Nat} (h : m = 8 * j) : (x.toNat : Int) / 2 ^ m % 256 = ((byteAt x j).toNat : Int) := by
  rw [byteAt, UInt8.toNat_ofNat', h, Int.natCast_emod, Int.natCast_ediv, Int.natCast_pow]; rfl
theorem info38 : (Try.prog.info? 52).map (·.size) = some 64 := by kernel_rfl
set_option maxHeartbeats 400000 in
theorem ctold_any (s : List UInt32) (hs : s.length = 16) (w : World) :
    Calls Try.prog 34 #[.agg (uv s)] w (RetB (.agg (bva (toldL s))) w) := by
  go_enter Try.func34, Try.ntmps34
  go_wp2
  go_loopw [5] (fun i wr => ∃ k : Nat, k ≤ 64 ∧ i = .int .i64 k ∧ Blk wr w.heap.size (uv s) 64 ∧ Blk wr (w.heap.size + 1) (bva (List.replicate 64 0)) 52 ∧ Blk wr (w.heap.size + 1 + 1) (bva (toldTo s k)) 52 ∧ Below w.heap.size w wr) (fun i _ => 64 - (intOf i).toNat)
  case atStart =>
    obtain ⟨b1, b2, b3, hb⟩ := three_blocks w (.cells (uv s) 64) (.cells (bva (List.replicate 64 0)) 52) (.cells (bva (List.replicate 64 0)) 52)
    exact ⟨0, by omega, rfl, b1, b2, b3, hb⟩
  case round =>
    obtain ⟨k, hk, rfl, B1, B2, B3, hbel⟩ := hrel
    by_cases hlt : k < 64
    · obtain ⟨d, hd⟩ : ∃ d : Nat, d = k / 4 := ⟨_, rfl⟩
      obtain ⟨m, hm⟩ : ∃ m : Nat, m = 8 * (k % 4) := ⟨_, rfl⟩
      have ed : (k : Int) / 4 = (d : Int) := by omega
      have em : 8 * ((k : Int) % 4) = (m : Int) := by omega
      have k0 : (0 : Int) ≤ (k : Int) := by omega
      have k1 : (k : Int) < 64 := by omega
      have d0 : (0 : Int) ≤ (d : Int) := by omega
      have d1 : (d : Int) < 16 := by omega
      have m0 : (0 : Int) ≤ (m : Int) := by omega
      have m1 : (m : Int) ≤ 24 := by omega
      obtain ⟨x, hx⟩ : ∃ x, x = s.getD d 0 := ⟨_, rfl⟩
      have C0 := B1.cellu (k := d) (by omega)
      rw [← hx] at C0
      have D0 := B3.cellb (k := k) (by rw [toldTo_length]; omega)
      have D1 := B3.free k
      have HX := Lib.hid hx
      have HD := Lib.hid hd
      have HM := Lib.hid hm
      have G1 := Lib.hid B1
      have G2 := Lib.hid B2
      have G3 := Lib.hid B3
      clear hx hd hm B1 B2 B3
      go_wp2
      go_roundw
      case rel => exact ⟨k + 1, by omega, by go_num, by exact G1.out.other (by omega) _ _, by exact G2.out.other (by omega) _ _, by rw [toldTo, ← HD.out, ← HX.out]; exact G3.out.setb k _ (int_eq (byteAt_val x HM.out)), by exact hbel.setCell (by simp; omega) _⟩
      case measure => simp [intOf]; omega
    · obtain rfl : k = 64 := by omega
      rw [toldTo_all] at B3
      have hi : (Try.prog.info? 52).map (·.size) = some (bva (toldL s)).size := by rw [bva_size, toldL_length]; exact info38
      have Hi := Lib.hid hi
      have G2 := Lib.hid B2
      have G3 := Lib.hid B3
      clear hi B1 B2 B3
      go_wp2_with (first
        | (refine wpList_load_row rfl 52 (.tmp 3) rfl (w.heap.size + 1 + 1) rfl 52 (bva (toldL s)) (0, 0) _ G3.out Try.underlying52 rfl Hi.out ?_)
        | (refine wpList_store_row rfl 52 (.tmp 2) (.tmp 20) rfl (w.heap.size + 1) (bva (toldL s)) rfl rfl 52 (bva (List.replicate 64 0)) G2.out Hi.out (by rw [bva_size, bva_size, toldL_length]; rfl) (bva_one _) ?_))
      exact bodyPost_ret (v := .agg (bva (toldL s))) (results_cell_row Try.results34 _ _ (w.heap.size + 1) 52 (bva (toldL s)) (0, 0) _ rfl (setRow_heap _ _ _ _ _ _ G2.out) Try.underlying52 rfl Hi.out) rfl ⟨rfl, below_setRow hbel (by omega) _⟩
end Go.Proofs.Ytobkkbpeoohfkaa
