/-
  The contract of the little cipher's Pad with an offset: put upon the pad of one key and number.
-/
import Derived.Test.YtobkkbpeoohfkaaCiLit
import Derived.Test.YtobkkbpeoohfkaaEqBytes
import Derived.Test.YtobkkbpeoohfkaaWiXor
import Derived.StillTailTactics
namespace Go.Proofs.Ytobkkbpeoohfkaa.Ci
open Go.RowKit
/-- The cells of a Lit. -/
def litV (at_ : List UInt8) (m : Int) (off : List UInt8) : List Value := bv at_ ++ (.int .u64 m :: bv off)
def litC (at_ : List UInt8) (m : Int) (off : List UInt8) : Array Value := (litV at_ m off).toArray
theorem litC_size {a o : List UInt8} {m : Int} (ha : a.length = 32) (ho : o.length = 32) : (litC a m o).size = 65 := by
  simp [litC, litV, bv_length, ha, ho]
section
variable {w : World} {g : Nat} {a o : List UInt8} {m : Int}
theorem lit_at (h : Blk w g (litC a m o) 46) : w.rangeAt g 0 (bv a) := fun j v hv => by
  have hj : j < (bv a).length := (List.getElem?_eq_some_iff.1 hv).1
  rw [Nat.zero_add, h.cell, litC, List.getElem?_toArray, litV, List.getElem?_append_left hj]
  exact hv
theorem lit_n (h : Blk w g (litC a m o) 46) (ha : a.length = 32) : w.cell? ⟨g, 32, none⟩ = some (.int .u64 m) := by
  rw [h.cell, litC, List.getElem?_toArray, litV, List.getElem?_append_right (by rw [bv_length]; omega), bv_length, ha]
  rfl
theorem lit_off (h : Blk w g (litC a m o) 46) (ha : a.length = 32) {k : Nat} (hk : k < o.length) : w.cell? ⟨g, 33 + k, none⟩ = some (.int .u8 ((o.getD k 0).toNat : Int)) := by
  rw [h.cell, litC, List.getElem?_toArray, litV, List.getElem?_append_right (by rw [bv_length]; omega), bv_length, ha, show 33 + k - 32 = k + 1 by omega, List.getElem?_cons_succ, bv_get hk, List.getD_eq_getElem?_getD, List.getElem?_eq_getElem hk]
  rfl
end
/-- The pad of a Lit. -/
def padL (a : List UInt8) (m : Int) (o k : List UInt8) (n : Int) : List UInt8 := if k = a ∧ n = m then Wi.xorL (litL k n) o else litL k n
theorem padL_length {a o k : List UInt8} {m n : Int} (ho : o.length = 32) : (padL a m o k n).length = 32 := by
  unfold padL; split
  · rw [Wi.xorL_length, litL_length, ho]; rfl
  · exact litL_length _ _
/-- A pad upon whose first k bytes others are put. -/
def xorK (l o : List UInt8) (k : Nat) : List UInt8 := (Wi.xorL l o).take k ++ l.drop k
section
variable {l o : List UInt8} (h : l.length = o.length)
include h
theorem xorK_length {k : Nat} (hk : k ≤ l.length) : (xorK l o k).length = l.length := by
  simp only [xorK, List.length_append, List.length_take, List.length_drop, Wi.xorL_length]; omega
theorem xorK_at {k : Nat} (hk : k < l.length) : (xorK l o k).getD k 0 = l.getD k 0 := by
  rw [List.getD_eq_getElem?_getD, List.getD_eq_getElem?_getD, xorK, List.getElem?_append_right (by rw [List.length_take, Wi.xorL_length]; omega), List.length_take, Wi.xorL_length, List.getElem?_drop]
  congr 2; omega
theorem xorK_set {k : Nat} (hk : k < l.length) : (xorK l o k).set k (l.getD k 0 ^^^ o.getD k 0) = xorK l o (k + 1) := by
  have h1 : k < o.length := by omega
  have h2 : k < (Wi.xorL l o).length := by rw [Wi.xorL_length]; omega
  have h3 : ((Wi.xorL l o).take k).length = k := by rw [List.length_take]; omega
  rw [xorK, xorK, List.set_append_right _ _ (by omega), h3, Nat.sub_self, List.drop_eq_getElem_cons hk, List.set_cons_zero, List.take_succ_eq_append_getElem h2, Wi.xorL_get h2 hk h1, List.append_assoc,
    List.getD_eq_getElem?_getD, List.getD_eq_getElem?_getD, List.getElem?_eq_getElem hk, List.getElem?_eq_getElem h1]
  rfl
theorem xorK_all {k : Nat} (hk : k = l.length) : xorK l o k = Wi.xorL l o := by
  rw [xorK, hk, List.drop_length, List.append_nil, List.take_of_length_le (by rw [Wi.xorL_length]; omega)]
end
theorem eq_keys (a b : List UInt8) (ha : a.length = 32) (hb : b.length = 32) (w : World) : (Op.equalIn 10000 23 (.agg (bva a)) (.agg (bva b))).run Try.prog w = .ok (decide (a = b)) w := by
  obtain ⟨i, hi⟩ : ∃ i, Try.prog.info? 5 = some i := Option.isSome_iff_exists.1 (by kernel_rfl)
  exact run_equal_bytes w Try.underlying23 Try.underlying5 hi (by kernel_rfl) a b ha hb
set_option maxRecDepth 100000 in
set_option maxHeartbeats 1600000 in
theorem pad_any (at_ off key : List UInt8) (m n : Int) (ha : at_.length = 32) (ho : off.length = 32) (hk : key.length = 32) (w : World) :
    Calls Try.prog 87 #[.agg (litC at_ m off), .agg (bva key), .int .u64 n] w (RetB (.agg (bva (padL at_ m off key n))) w) := by
  obtain ⟨z, hz0⟩ : ∃ z : List UInt8, z = List.replicate 32 0 := ⟨_, rfl⟩
  obtain ⟨b1, b2, b3, hb⟩ := three_blocks w (.cells (litC at_ m off) 46) (.cells (bva key) 23) (.cells (bva z) 30)
  have hz : ∀ W, (zeroValue 30).run Try.prog W = .ok (.agg (bva z)) W := fun _ => by rw [hz0]; kernel_rfl
  have Z0 : Hid (z.length = 32) := by show _ = _; rw [hz0]; rfl
  have heq := eq_keys key at_ hk ha
  have B1 := Lib.hid (show Blk _ _ _ _ from b1)
  have B2 := Lib.hid (show Blk _ _ _ _ from b2)
  have B3 := Lib.hid (show Blk _ _ _ _ from b3)
  have BB := Lib.hid hb
  have HA := Lib.hid ha
  have HO := Lib.hid ho
  have HK := Lib.hid hk
  have HI : Hid ((Try.prog.info? 23).map (·.size) = some (bva key).size) := by rw [bva_size, hk]; exact info_key
  have HJ : Hid ((Try.prog.info? 23).map (·.size) = some (bv at_).length) := by rw [bv_length, ha]; exact info_key
  obtain ⟨L, hL⟩ : ∃ L, L = litL key n := ⟨_, rfl⟩
  have HL3 : Hid (L.length = 32) := by show _ = _; rw [hL, litL_length]
  have HL : Hid ((Try.prog.info? 30).map (·.size) = some (bva L).size) := by rw [bva_size, HL3.out]; exact info_blk
  have HLL := Lib.hid hL
  have HQ : Hid ((Try.prog.info? 30).map (·.size) = some (bva (Wi.xorL L off)).size) := by rw [bva_size, Wi.xorL_length, HL3.out, ho]; exact info_blk
  have HX3 : Hid (L.length = off.length) := by show _ = _; rw [HL3.out, ho]
  clear hL hz0 b1 b2 b3 hb ha ho hk
  go_enter Try.func87, Try.ntmps87
  go_wp2_with (refine wpList_load_row rfl 23 (.tmp 4) rfl (w.heap.size + 1) rfl 23 (bva key) (0, 0) _ ?hg Try.underlying23 rfl HI.out ?_; case hg => exact B2.out)
  refine (litpad_any key HK.out n _).mono ?_
  rintro e w1 ⟨rfl, bw⟩
  rw [← HLL.out]
  have C1 := Lib.hid (B1.out.below bw)
  have C2 := Lib.hid (B2.out.below bw)
  have C3 := Lib.hid (B3.out.below bw)
  have CB := Lib.hid (BB.out.trans (bw.mono BB.out.size))
  have hw1 : w.heap.size + 1 + 1 < w1.heap.size := by have h1 := C3.out.lt; omega
  clear bw B1 B2 B3 BB
  go_wp2_with (first
    | (refine wpList_store_row rfl 30 (.tmp 7) (.tmp 11) rfl w1.heap.size (bva L) rfl rfl 30 (bva z) (heap_alloc_new _ _) HL.out (by simp only [bva_size, HL3.out, Z0.out]) (bva_one _) ?_
       generalize hw2 : World.setRow _ _ _ = w2
       have d1 : Blk w2 w.heap.size (litC at_ m off) 46 := by rw [← hw2]; exact blk_past C1.out
       have d2 : Blk w2 (w.heap.size + 1) (bva key) 23 := by rw [← hw2]; exact blk_past C2.out
       have d3 : Blk w2 (w.heap.size + 1 + 1) (bva z) 30 := by rw [← hw2]; exact blk_past C3.out
       have d4 : Blk w2 w1.heap.size (bva L) 30 := by rw [← hw2]; exact blk_new _
       have db : Below w.heap.size w w2 := by rw [← hw2]; exact below_new CB.out CB.out.size
       have D1 := Lib.hid d1
       have D2 := Lib.hid d2
       have D3 := Lib.hid d3
       have D4 := Lib.hid d4
       have DB := Lib.hid db
       have cn := lit_n d1 HA.out
       clear d1 d2 d3 d4 db hw2 C1 C2 C3 CB)
    | (refine wpList_load_row rfl 23 (.tmp 4) rfl (w.heap.size + 1) rfl 23 (bva key) (0, 0) _ D2.out Try.underlying23 rfl HI.out ?_)
    | (refine wpList_load_mid rfl 23 (.tmp 13) rfl w.heap.size 0 rfl (bv at_) _ (lit_at D1.out) Try.underlying23 rfl HJ.out ?_
       change wpList _ _ _ _ (Act.put _ _ (.agg (bva at_))) _)
    | (refine wpList_load_row rfl 30 (.tmp 7) rfl w1.heap.size rfl 30 (bva L) (0, 0) _ D4.out Try.underlying30 rfl HL.out ?_)
    | (refine wpList_store_row rfl 30 (.tmp 6) (.tmp 35) rfl (w.heap.size + 1 + 1) (bva L) rfl rfl 30 (bva z) D3.out HL.out (by simp only [bva_size, HL3.out, Z0.out]) (bva_one _) ?_))
  · rename_i h1 h2
    simp only [h2]
    go_loopw [8] (fun i wr => ∃ k : Nat, k ≤ 32 ∧ i = .int .i64 k ∧ Blk wr w.heap.size (litC at_ m off) 46 ∧ Blk wr (w.heap.size + 1 + 1) (bva z) 30 ∧ Blk wr w1.heap.size (bva (xorK L off k)) 30 ∧ Below w.heap.size w wr) (fun i _ => 32 - (intOf i).toNat)
    case atStart => exact ⟨0, by omega, rfl, D1.out, D3.out, by rw [xorK, List.take_zero, List.drop_zero, List.nil_append]; exact D4.out, DB.out⟩
    case round =>
      clear D1 D2 D3 D4 DB cn
      obtain ⟨k, hk2, rfl, D1, D3, D4, DB⟩ := hrel
      by_cases hlt : k < 32
      · have k0 : (0 : Int) ≤ (k : Int) := by omega
        have k1 : (k : Int) < 32 := by omega
        obtain ⟨x, hx⟩ : ∃ x, x = L.getD k 0 := ⟨_, rfl⟩
        obtain ⟨y, hy⟩ : ∃ y, y = off.getD k 0 := ⟨_, rfl⟩
        have c1 := D4.cellb (k := k) (by rw [xorK_length HX3.out (by rw [HL3.out]; omega), HL3.out]; omega)
        rw [xorK_at HX3.out (by rw [HL3.out]; omega), ← hx] at c1
        have c2 := lit_off D1 HA.out (k := k) (by rw [HO.out]; omega)
        rw [← hy] at c2
        have f1 := D4.free k
        have Hx := Lib.hid hx
        have Hy := Lib.hid hy
        have E1 := Lib.hid D1
        have E3 := Lib.hid D3
        have E4 := Lib.hid D4
        clear hx hy D1 D3 D4
        go_wp2
        go_still_tail 8, (by kernel_rfl)
        go_wp2
        go_roundw
        case rel => exact ⟨k + 1, by omega, by go_num, by exact E1.out.other (by omega) _ _, by exact E3.out.other (by omega) _ _, by rw [← xorK_set HX3.out (k := k) (by rw [HL3.out]; omega), ← Hx.out, ← Hy.out]; exact E4.out.setb k _ (int_eq (by rw [Wi.bits_xor8])), by exact (DB.setCell (by simp; omega) _).drew⟩
        case measure => simp [intOf]; omega
      · obtain rfl : k = 32 := by omega
        rw [xorK_all HX3.out HL3.out.symm] at D4
        have E3 := Lib.hid D3
        have E4 := Lib.hid D4
        clear D1 D3 D4
        go_wp2_with (first
          | (refine wpList_load_row rfl 30 (.tmp 7) rfl w1.heap.size rfl 30 (bva (Wi.xorL L off)) (0, 0) _ E4.out Try.underlying30 rfl HQ.out ?_)
          | (refine wpList_store_row rfl 30 (.tmp 6) (.tmp 35) rfl (w.heap.size + 1 + 1) (bva (Wi.xorL L off)) rfl rfl 30 (bva z) E3.out HQ.out (by simp only [bva_size, Wi.xorL_length, HO.out, HL3.out, Z0.out]; rfl) (bva_one _) ?_))
        exact bodyPost_ret (v := .agg (bva (Wi.xorL L off))) (results_cell_row Try.results87 _ _ (w.heap.size + 1 + 1) 30 (bva (Wi.xorL L off)) (0, 0) _ rfl (setRow_heap _ _ _ _ _ _ E3.out) Try.underlying30 rfl HQ.out) rfl ⟨by rw [padL, if_pos ⟨h1, by simpa using h2⟩, HLL.out], below_setRow DB (by omega) _⟩
  · rename_i h1 h2
    exact bodyPost_ret (v := .agg (bva L)) (results_cell_row Try.results87 _ _ (w.heap.size + 1 + 1) 30 (bva L) (0, 0) _ rfl (setRow_heap _ _ _ _ _ _ D3.out) Try.underlying30 rfl HL.out) rfl ⟨by rw [padL, if_neg (fun hh => by have := hh.2; simp [this] at h2), HLL.out], below_setRow DB.out (by omega) _⟩
  · rename_i h1
    exact bodyPost_ret (v := .agg (bva L)) (results_cell_row Try.results87 _ _ (w.heap.size + 1 + 1) 30 (bva L) (0, 0) _ rfl (setRow_heap _ _ _ _ _ _ D3.out) Try.underlying30 rfl HL.out) rfl ⟨by rw [padL, if_neg (fun hh => h1 hh.1), HLL.out], below_setRow DB.out (by omega) _⟩
end Go.Proofs.Ytobkkbpeoohfkaa.Ci
