import Derived.Test.YtllgaodnfoehkaaKey
import Derived.BigRegion
namespace Go.Proofs.Ytllgaodnfoehkaa
open Go.RowKit
theorem three_blocks (w : World) (A B C : Obj) : (((w.alloc A).alloc B).alloc C).heap[w.heap.size]? = some A ∧ (((w.alloc A).alloc B).alloc C).heap[w.heap.size + 1]? = some B ∧ (((w.alloc A).alloc B).alloc C).heap[w.heap.size + 1 + 1]? = some C ∧ Below w.heap.size w (((w.alloc A).alloc B).alloc C) := by
  refine ⟨?_, ?_, ?_, (((Below.refl _ _).alloc (Nat.le_refl _) _).alloc (by simp) _).alloc (by simp; omega) _⟩
  · rw [heap_alloc_old _ _ (by simp; omega)]
    exact heap_alloc2_old _ _ _
  · rw [heap_alloc_old _ _ (by simp)]
    exact heap_alloc2_new _ _ _
  · have h := heap_alloc_new ((w.alloc A).alloc B) C
    have e : ((w.alloc A).alloc B).heap.size = w.heap.size + 1 + 1 := by simp
    rwa [e] at h
set_option maxHeartbeats 400000 in
theorem sums_any (s t : List UInt32) (hs : s.length = 16) (ht : t.length = 16) (w : World) :
    Calls Try.prog 32 #[.agg (uv s), .agg (uv t)] w (RetB (.agg (uv (sumsTo s t 16))) w) := by
  go_enter Try.func32, Try.ntmps32
  go_wp2
  go_loopw [6] (fun i wr => ∃ k : Nat, k ≤ 16 ∧ i = .int .i64 k ∧ Blk wr w.heap.size (uv (sumsTo s t k)) 30 ∧ Blk wr (w.heap.size + 1) (uv t) 30 ∧ Blk wr (w.heap.size + 1 + 1) (uv (List.replicate 16 0)) 30 ∧ Below w.heap.size w wr) (fun i _ => 16 - (intOf i).toNat)
  case atStart =>
    obtain ⟨b1, b2, b3, hb⟩ := three_blocks w (.cells (uv s) 30) (.cells (uv t) 30) (.cells (uv (List.replicate 16 0)) 30)
    exact ⟨0, by omega, rfl, b1, b2, b3, hb⟩
  case round =>
    obtain ⟨k, hk, rfl, B1, B2, B3, hbel⟩ := hrel
    by_cases hlt : k < 16
    · have k0 : (0 : Int) ≤ (k : Int) := by omega
      have k1 : (k : Int) < 16 := by omega
      obtain ⟨x, hx⟩ : ∃ x, x = (sumsTo s t k).getD k 0 := ⟨_, rfl⟩
      obtain ⟨y, hy⟩ : ∃ y, y = t.getD k 0 := ⟨_, rfl⟩
      have C0 := B1.cellu (k := k) (by rw [sumsTo_length]; omega)
      have D0 := B2.cellu (k := k) (by omega)
      rw [← hx] at C0
      rw [← hy] at D0
      have C1 := B1.free k
      have HY := Lib.hid hy
      have HX := Lib.hid hx
      have G1 := Lib.hid B1
      have G2 := Lib.hid B2
      have G3 := Lib.hid B3
      clear hx hy B1 B2 B3
      go_wp2
      go_region
      go_wp2
      go_roundw
      case rel => exact ⟨k + 1, by omega, by go_num, by rw [sumsTo, ← HX.out, ← HY.out]; exact G1.out.setv k _ (int_eq (w_add x y)), by exact G2.out.other (by omega) _ _, by exact G3.out.other (by omega) _ _, by exact (hbel.setCell (by simp) _).drew⟩
      case measure => simp [intOf]; omega
    · obtain rfl : k = 16 := by omega
      have hi : (Try.prog.info? 30).map (·.size) = some (uv (sumsTo s t 16)).size := by rw [uv_size, sumsTo_length, hs]; exact info30
      have Hi := Lib.hid hi
      have Hs := Lib.hid hs
      have G1 := Lib.hid B1
      have G3 := Lib.hid B3
      clear hi hs B1 B2 B3
      go_wp2_with (first
        | (refine wpList_load_row rfl 30 (.tmp 2) rfl w.heap.size rfl 30 (uv (sumsTo s t 16)) (0, 0) _ G1.out Try.underlying30 rfl Hi.out ?_)
        | (refine wpList_store_row rfl 30 (.tmp 4) (.tmp 18) rfl (w.heap.size + 1 + 1) (uv (sumsTo s t 16)) rfl rfl 30 (uv (List.replicate 16 0)) G3.out Hi.out (by rw [uv_size, uv_size, sumsTo_length, Hs.out]; rfl) (uv_one _) ?_))
      exact bodyPost_ret (v := .agg (uv (sumsTo s t 16))) (results_cell_row Try.results32 _ _ (w.heap.size + 1 + 1) 30 (uv (sumsTo s t 16)) (0, 0) _ rfl (setRow_heap _ _ _ _ _ _ G3.out) Try.underlying30 rfl Hi.out) rfl ⟨rfl, below_setRow hbel (by omega) _⟩
/-- A block's bytes, as far as the first n are laid. -/
def toldTo (s : List UInt32) : Nat → List UInt8
  | 0 => List.replicate 64 0
  | n + 1 => (toldTo s n).set n (byteAt (s.getD (n / 4) 0) (n % 4))
theorem toldTo_length (s : List UInt32) : ∀ n, (toldTo s n).length = 64
  | 0 => rfl
  | n + 1 => by rw [toldTo, List.length_set, toldTo_length s n]
theorem toldTo_get (s : List UInt32) : ∀ n j, j < n → n ≤ 64 → (toldTo s n)[j]? = some (byteAt (s.getD (j / 4) 0) (j % 4))
  | 0, j, h, _ => by omega
  | n + 1, j, h, h' => by
    rw [toldTo]
    by_cases e : j = n
    · subst e
      rw [List.getElem?_set_self (by rw [toldTo_length]; omega)]
    · rw [List.getElem?_set_ne (fun e' => e e'.symm)]
      exact toldTo_get s n j (by omega) (by omega)
theorem toldTo_all (s : List UInt32) : toldTo s 64 = toldL s := by
  apply List.ext_getElem?
  intro j
  by_cases h : j < 64
  · rw [toldTo_get s 64 j h (Nat.le_refl _), toldL, List.getElem?_map, List.getElem?_range h]; rfl
  · rw [List.getElem?_eq_none (by rw [toldTo_length]; omega), List.getElem?_eq_none (by rw [toldL_length]; omega)]
theorem bva_set (l : List UInt8) (k : Nat) (x : UInt8) : (bva l).setIfInBounds k (.int .u8 (x.toNat : Int)) = bva (l.set k x) := by
  simp [bva, bv, List.map_set]
theorem bva_one (l : List UInt8) : (bva l).all (·.oneCell') = true := by
  simp [bva, bv, Value.oneCell']
theorem Blk.setb {w : World} {g : Nat} {l : List UInt8} {A : TypeId} {v : Value} (h : Blk w g (bva l) A) (k : Nat) (x : UInt8) (hv : v = .int .u8 (x.toNat : Int)) : Blk (w.setCell ⟨g, k, none⟩ v) g (bva (l.set k x)) A := by
  rw [hv, ← bva_set]; exact heap_setCell_same _ _ _ _ _ _ h
theorem byteAt_val (x : UInt32) {m j : Nat} (h : m = 8 * j) : (x.toNat : Int) / 2 ^ m % 256 = ((byteAt x j).toNat : Int) := by
  rw [byteAt, UInt8.toNat_ofNat', h, Int.natCast_emod, Int.natCast_ediv, Int.natCast_pow]; rfl
theorem info38 : (Try.prog.info? 38).map (·.size) = some 64 := by kernel_rfl
set_option maxHeartbeats 400000 in
theorem told_any (s : List UInt32) (hs : s.length = 16) (w : World) :
    Calls Try.prog 31 #[.agg (uv s)] w (RetB (.agg (bva (toldL s))) w) := by
  go_enter Try.func31, Try.ntmps31
  go_wp2
  go_loopw [5] (fun i wr => ∃ k : Nat, k ≤ 64 ∧ i = .int .i64 k ∧ Blk wr w.heap.size (uv s) 30 ∧ Blk wr (w.heap.size + 1) (bva (List.replicate 64 0)) 38 ∧ Blk wr (w.heap.size + 1 + 1) (bva (toldTo s k)) 38 ∧ Below w.heap.size w wr) (fun i _ => 64 - (intOf i).toNat)
  case atStart =>
    obtain ⟨b1, b2, b3, hb⟩ := three_blocks w (.cells (uv s) 30) (.cells (bva (List.replicate 64 0)) 38) (.cells (bva (List.replicate 64 0)) 38)
    exact ⟨0, by omega, rfl, b1, b2, b3, hb⟩
  case round =>
    obtain ⟨k, hk, rfl, B1, B2, B3, hbel⟩ := hrel
    by_cases hlt : k < 64
    · obtain ⟨d, hd⟩ : ∃ d : Nat, d = k / 4 := ⟨_, rfl⟩
      obtain ⟨m, hm⟩ : ∃ m : Nat, m = 8 * (k % 4) := ⟨_, rfl⟩
      have ed : (k : Int) / 4 = (d : Int) := by omega
      have em : 8 * ((k : Int) % 4) = (m : Int) := by omega
      have k0 : (0 : Int) ≤ (k : Int) := by omega
      have k1 : (k : Int) < 64 := by omega
      have d0 : (0 : Int) ≤ (d : Int) := by omega
      have d1 : (d : Int) < 16 := by omega
      have m0 : (0 : Int) ≤ (m : Int) := by omega
      have m1 : (m : Int) ≤ 24 := by omega
      obtain ⟨x, hx⟩ : ∃ x, x = s.getD d 0 := ⟨_, rfl⟩
      have C0 := B1.cellu (k := d) (by omega)
      rw [← hx] at C0
      have D0 := B3.cellb (k := k) (by rw [toldTo_length]; omega)
      have D1 := B3.free k
      have HX := Lib.hid hx
      have HD := Lib.hid hd
      have HM := Lib.hid hm
      have G1 := Lib.hid B1
      have G2 := Lib.hid B2
      have G3 := Lib.hid B3
      clear hx hd hm B1 B2 B3
      go_wp2
      go_roundw
      case rel => exact ⟨k + 1, by omega, by go_num, by exact G1.out.other (by omega) _ _, by exact G2.out.other (by omega) _ _, by rw [toldTo, ← HD.out, ← HX.out]; exact G3.out.setb k _ (int_eq (byteAt_val x HM.out)), by exact hbel.setCell (by simp; omega) _⟩
      case measure => simp [intOf]; omega
    · obtain rfl : k = 64 := by omega
      rw [toldTo_all] at B3
      have hi : (Try.prog.info? 38).map (·.size) = some (bva (toldL s)).size := by rw [bva_size, toldL_length]; exact info38
      have Hi := Lib.hid hi
      have G2 := Lib.hid B2
      have G3 := Lib.hid B3
      clear hi B1 B2 B3
      go_wp2_with (first
        | (refine wpList_load_row rfl 38 (.tmp 3) rfl (w.heap.size + 1 + 1) rfl 38 (bva (toldL s)) (0, 0) _ G3.out Try.underlying38 rfl Hi.out ?_)
        | (refine wpList_store_row rfl 38 (.tmp 2) (.tmp 20) rfl (w.heap.size + 1) (bva (toldL s)) rfl rfl 38 (bva (List.replicate 64 0)) G2.out Hi.out (by rw [bva_size, bva_size, toldL_length]; rfl) (bva_one _) ?_))
      exact bodyPost_ret (v := .agg (bva (toldL s))) (results_cell_row Try.results31 _ _ (w.heap.size + 1) 38 (bva (toldL s)) (0, 0) _ rfl (setRow_heap _ _ _ _ _ _ G2.out) Try.underlying38 rfl Hi.out) rfl ⟨rfl, below_setRow hbel (by omega) _⟩
end Go.Proofs.Ytllgaodnfoehkaa
