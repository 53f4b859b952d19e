/-
  The contracts of the reference's Pad and Split of the real cipher.
-/
import Derived.Test.YtobkkbpeoohfkaaChRBlock
import Derived.Test.YtobkkbpeoohfkaaCiReal
namespace Go.Proofs.Ytobkkbpeoohfkaa.Ci
open Go.RowKit
attribute [local go_sem ↓] Go.wp_at_zero Go.wp_at_succ
theorem lay_take {L : List UInt8} (m N : Nat) (h : m + N ≤ L.length) : layTo 0 (fun i => L.getD (m + i) 0) N N = (L.drop m).take N := by
  rw [layTo_all]
  apply List.ext_getElem?
  intro j
  by_cases hj : j < N
  · rw [List.getElem?_map, List.getElem?_range hj, List.getElem?_take, if_pos hj, List.getElem?_drop, Option.map_some, List.getD_eq_getElem?_getD, List.getElem?_eq_getElem (by omega)]
    rfl
  · rw [List.getElem?_eq_none (by simp; omega), List.getElem?_eq_none (by simp; omega)]
set_option maxRecDepth 100000 in
set_option maxHeartbeats 1600000 in
theorem refpad_any (key : List UInt8) (hk : key.length = 32) (n : Nat) (w : World) :
    Calls Try.prog 14 #[.agg (bva key), .int .u64 (n : Int)] w (RetB (.agg (bva (rpadL key n))) w) := by
  obtain ⟨z, hz0⟩ : ∃ z : List UInt8, z = List.replicate 32 0 := ⟨_, rfl⟩
  obtain ⟨y, hy0⟩ : ∃ y : List UInt8, y = List.replicate 64 0 := ⟨_, rfl⟩
  have hz : ∀ W, (zeroValue 30).run Try.prog W = .ok (.agg (bva z)) W := fun _ => by rw [hz0]; kernel_rfl
  have hy : ∀ W, (zeroValue 52).run Try.prog W = .ok (.agg (bva y)) W := fun _ => by rw [hy0]; kernel_rfl
  have Z0 := Lib.hid hz0
  have Z3 : Hid (z.length = 32) := by show _ = _; rw [hz0]; rfl
  have Y3 : Hid (y.length = 64) := by show _ = _; rw [hy0]; rfl
  obtain ⟨L, hL⟩ : ∃ L, L = blockL key 0 n := ⟨_, rfl⟩
  have HL3 : Hid (L.length = 64) := by show _ = _; rw [hL, blockL_length]
  have HL : Hid ((Try.prog.info? 52).map (·.size) = some (bva L).size) := by rw [bva_size, HL3.out]; exact info_64
  have HLL := Lib.hid hL
  obtain ⟨b1, b2⟩ : Blk ((w.alloc (.cells (bva key) 23)).alloc (.cells (bva z) 30)) w.heap.size (bva key) 23 ∧ Blk ((w.alloc (.cells (bva key) 23)).alloc (.cells (bva z) 30)) (w.heap.size + 1) (bva z) 30 := ⟨heap_alloc2_old _ _ _, heap_alloc2_new _ _ _⟩
  have hb : Below w.heap.size w ((w.alloc (.cells (bva key) 23)).alloc (.cells (bva z) 30)) := ((Below.refl _ _).alloc (Nat.le_refl _) _).alloc (by simp) _
  have B1 := Lib.hid b1
  have B2 := Lib.hid b2
  have BB := Lib.hid hb
  have HK := Lib.hid hk
  have HI : Hid ((Try.prog.info? 23).map (·.size) = some (bva key).size) := by rw [bva_size, hk]; exact info_key
  clear hz0 hy0 b1 b2 hb hk hL
  go_enter Try.func14, Try.ntmps14
  go_wp2_with (refine wpList_load_row rfl 23 (.tmp 2) rfl w.heap.size rfl 23 (bva key) (0, 0) _ ?hg Try.underlying23 rfl HI.out ?_; case hg => exact B1.out)
  refine (rblock_any key HK.out 0 n _).mono ?_
  rintro e w1 ⟨rfl, bw⟩
  rw [← HLL.out]
  have C2 := Lib.hid (B2.out.below bw)
  have CB := Lib.hid (BB.out.trans (bw.mono BB.out.size))
  have hw1 : w.heap.size + 1 < w1.heap.size := by have h1 := C2.out.lt; omega
  clear bw B1 B2 BB
  go_wp2_with (refine wpList_store_row rfl 52 (.tmp 5) (.tmp 10) rfl w1.heap.size (bva L) rfl rfl 52 (bva y) (heap_alloc_new _ _) HL.out (by simp only [bva_size, HL3.out, Y3.out]) (bva_one _) ?_
               generalize hw2 : World.setRow _ _ _ = w2
               have d3 : Blk w2 (w.heap.size + 1) (bva z) 30 := by rw [← hw2]; exact blk_past C2.out
               have d4 : Blk w2 w1.heap.size (bva L) 52 := by rw [← hw2]; exact blk_new _
               have db : Below w.heap.size w w2 := by rw [← hw2]; exact below_new CB.out CB.out.size
               have d5 : w1.heap.size < w2.heap.size := d4.lt
               have D3 := Lib.hid d3
               have D4 := Lib.hid d4
               have DB := Lib.hid db
               clear d3 d4 db hw2 C2 CB)
  have q3 : Blk (w2.alloc (.cells (bva z) 30)) (w.heap.size + 1) (bva z) 30 := (heap_alloc_old _ _ (by omega)).trans D3.out
  have q4 : Blk (w2.alloc (.cells (bva z) 30)) w1.heap.size (bva L) 52 := (heap_alloc_old _ _ d5).trans D4.out
  have q5 : Blk (w2.alloc (.cells (bva z) 30)) w2.heap.size (bva z) 30 := heap_alloc_new _ _
  have qb : Below w.heap.size w (w2.alloc (.cells (bva z) 30)) := DB.out.alloc DB.out.size _
  clear D3 D4 DB
  go_loopw [7] (fun i wr => ∃ k : Nat, k ≤ 32 ∧ i = .int .i64 k ∧ Blk wr (w.heap.size + 1) (bva z) 30 ∧ Blk wr w1.heap.size (bva L) 52 ∧ Blk wr w2.heap.size (bva (layTo 0 (fun i => L.getD (0 + i) 0) 32 k)) 30 ∧ Below w.heap.size w wr) (fun i _ => 32 - (intOf i).toNat)
  case atStart => exact ⟨0, by omega, rfl, q3, q4, by rw [layTo, ← Z0.out]; exact q5, qb⟩
  case round =>
    clear q3 q4 q5 qb
    obtain ⟨k, hk2, rfl, B2, B3, B4, hbel⟩ := hrel
    by_cases hlt : k < 32
    · have k0 : (0 : Int) ≤ (k : Int) := by omega
      have k1 : (k : Int) < 32 := by omega
      have k2 : (k : Int) < 64 := by omega
      obtain ⟨x, hx⟩ : ∃ x, x = L.getD k 0 := ⟨_, rfl⟩
      have C0 := B3.cellb (k := k) (by rw [HL3.out]; omega)
      rw [← hx] at C0
      obtain ⟨v, hv⟩ : ∃ v, v = (layTo 0 (fun i => L.getD (0 + i) 0) 32 k).getD k 0 := ⟨_, rfl⟩
      have D0 := B4.cellb (k := k) (by rw [layTo_length]; omega)
      rw [← hv] at D0
      have D1 := B4.free k
      have Hx := Lib.hid hx
      have G2 := Lib.hid B2
      have G3 := Lib.hid B3
      have G4 := Lib.hid B4
      clear hx hv B2 B3 B4
      go_wp2
      go_roundw
      case rel => exact ⟨k + 1, by omega, by go_num, by exact G2.out.other (by omega) _ _, by exact G3.out.other (by omega) _ _, by rw [layTo]; exact G4.out.setb k _ (int_eq (by rw [Nat.zero_add, Hx.out])), by exact hbel.setCell (by simp; omega) _⟩
      case measure => simp [intOf]; omega
    · obtain rfl : k = 32 := by omega
      have el : layTo 0 (fun i => L.getD (0 + i) 0) 32 32 = rpadL key n := by rw [lay_take 0 32 (by rw [HL3.out]; omega), List.drop_zero, rpadL, HLL.out]
      rw [el] at B4
      have hi : (Try.prog.info? 30).map (·.size) = some (bva (rpadL key n)).size := by rw [bva_size, rpadL_length]; exact info_blk
      have Hi := Lib.hid hi
      have G2 := Lib.hid B2
      have G4 := Lib.hid B4
      clear hi B2 B3 B4 el
      go_wp2_with (first
        | (refine wpList_load_row rfl 30 (.tmp 6) rfl w2.heap.size rfl 30 (bva (rpadL key n)) (0, 0) _ G4.out Try.underlying30 rfl Hi.out ?_)
        | (refine wpList_store_row rfl 30 (.tmp 4) (.tmp 20) rfl (w.heap.size + 1) (bva (rpadL key n)) rfl rfl 30 (bva z) G2.out Hi.out (by simp only [bva_size, rpadL_length, Z3.out]) (bva_one _) ?_))
      exact bodyPost_ret (v := .agg (bva (rpadL key n))) (results_cell_row Try.results14 _ _ (w.heap.size + 1) 30 (bva (rpadL key n)) (0, 0) _ rfl (setRow_heap _ _ _ _ _ _ G2.out) Try.underlying30 rfl Hi.out) rfl ⟨rfl, below_setRow hbel (by omega) _⟩
set_option maxRecDepth 100000 in
set_option maxHeartbeats 1600000 in
theorem refsplit_any (key : List UInt8) (hk : key.length = 32) (w : World) :
    Calls Try.prog 12 #[.agg (bva key)] w (RetB (.tuple #[.agg (bva (leftL key)), .agg (bva (rightL key))]) w) := by
  obtain ⟨z, hz0⟩ : ∃ z : List UInt8, z = List.replicate 32 0 := ⟨_, rfl⟩
  obtain ⟨y, hy0⟩ : ∃ y : List UInt8, y = List.replicate 64 0 := ⟨_, rfl⟩
  have hz : ∀ W, (zeroValue 23).run Try.prog W = .ok (.agg (bva z)) W := fun _ => by rw [hz0]; kernel_rfl
  have hy : ∀ W, (zeroValue 52).run Try.prog W = .ok (.agg (bva y)) W := fun _ => by rw [hy0]; kernel_rfl
  have Z0 := Lib.hid hz0
  have Z3 : Hid (z.length = 32) := by show _ = _; rw [hz0]; rfl
  have Y3 : Hid (y.length = 64) := by show _ = _; rw [hy0]; rfl
  obtain ⟨L, hL⟩ : ∃ L, L = blockL key 1 0 := ⟨_, rfl⟩
  have HL3 : Hid (L.length = 64) := by show _ = _; rw [hL, blockL_length]
  have HL : Hid ((Try.prog.info? 52).map (·.size) = some (bva L).size) := by rw [bva_size, HL3.out]; exact info_64
  have HLL := Lib.hid hL
  obtain ⟨b1, b2, b3, hb⟩ := three_blocks w (.cells (bva key) 23) (.cells (bva z) 23) (.cells (bva z) 23)
  have B1 := Lib.hid (show Blk _ _ _ _ from b1)
  have B2 := Lib.hid (show Blk _ _ _ _ from b2)
  have B3 := Lib.hid (show Blk _ _ _ _ from b3)
  have BB := Lib.hid hb
  have HK := Lib.hid hk
  have HI : Hid ((Try.prog.info? 23).map (·.size) = some (bva key).size) := by rw [bva_size, hk]; exact info_key
  clear hz0 hy0 b1 b2 b3 hb hk hL
  go_enter Try.func12, Try.ntmps12
  go_wp2_with (refine wpList_load_row rfl 23 (.tmp 1) rfl w.heap.size rfl 23 (bva key) (0, 0) _ ?hg Try.underlying23 rfl HI.out ?_; case hg => exact B1.out)
  refine (rblock_any key HK.out 1 0 _).mono ?_
  rintro e w1 ⟨rfl, bw⟩
  rw [← HLL.out]
  have C2 := Lib.hid (B2.out.below bw)
  have C3 := Lib.hid (B3.out.below bw)
  have CB := Lib.hid (BB.out.trans (bw.mono BB.out.size))
  have hw1 : w.heap.size + 1 + 1 < w1.heap.size := by have h1 := C3.out.lt; omega
  clear bw B1 B2 B3 BB
  go_wp2_with (refine wpList_store_row rfl 52 (.tmp 4) (.tmp 9) rfl w1.heap.size (bva L) rfl rfl 52 (bva y) (heap_alloc_new _ _) HL.out (by simp only [bva_size, HL3.out, Y3.out]) (bva_one _) ?_
               generalize hw2 : World.setRow _ _ _ = w2
               have d2 : Blk w2 (w.heap.size + 1) (bva z) 23 := by rw [← hw2]; exact blk_past C2.out
               have d3 : Blk w2 (w.heap.size + 1 + 1) (bva z) 23 := by rw [← hw2]; exact blk_past C3.out
               have d4 : Blk w2 w1.heap.size (bva L) 52 := by rw [← hw2]; exact blk_new _
               have db : Below w.heap.size w w2 := by rw [← hw2]; exact below_new CB.out CB.out.size
               have d5 : w1.heap.size < w2.heap.size := d4.lt
               have D2 := Lib.hid d2
               have D3 := Lib.hid d3
               have D4 := Lib.hid d4
               have DB := Lib.hid db
               clear d2 d3 d4 db hw2 C2 C3 CB)
  have old : ∀ g cs t, g < w2.heap.size → Blk w2 g cs t → Blk ((w2.alloc (.cells (bva z) 23)).alloc (.cells (bva z) 23)) g cs t := fun g cs t hg h => by
    unfold Blk; rw [heap_alloc_old _ _ (by simp; omega), heap_alloc_old _ _ hg]; exact h
  have q2 := old _ _ _ (by omega) D2.out
  have q3 := old _ _ _ (by omega) D3.out
  have q4 := old _ _ _ d5 D4.out
  have q5 : Blk ((w2.alloc (.cells (bva z) 23)).alloc (.cells (bva z) 23)) w2.heap.size (bva z) 23 := heap_alloc2_old _ _ _
  have q6 : Blk ((w2.alloc (.cells (bva z) 23)).alloc (.cells (bva z) 23)) (w2.heap.size + 1) (bva z) 23 := heap_alloc2_new _ _ _
  have qb : Below w.heap.size w ((w2.alloc (.cells (bva z) 23)).alloc (.cells (bva z) 23)) := (DB.out.alloc DB.out.size _).alloc (by have := DB.out.size; simp; omega) _
  clear D2 D3 D4 DB old
  go_loopw [7] (fun i wr => ∃ k : Nat, k ≤ 32 ∧ i = .int .i64 k ∧ Blk wr (w.heap.size + 1) (bva z) 23 ∧ Blk wr (w.heap.size + 1 + 1) (bva z) 23 ∧ Blk wr w1.heap.size (bva L) 52 ∧ Blk wr w2.heap.size (bva (layTo 0 (fun i => L.getD (0 + i) 0) 32 k)) 23 ∧ Blk wr (w2.heap.size + 1) (bva (layTo 0 (fun i => L.getD (32 + i) 0) 32 k)) 23 ∧ Below w.heap.size w wr) (fun i _ => 32 - (intOf i).toNat)
  case atStart => exact ⟨0, by omega, rfl, q2, q3, q4, by rw [layTo, ← Z0.out]; exact q5, by rw [layTo, ← Z0.out]; exact q6, qb⟩
  case round =>
    clear q2 q3 q4 q5 q6 qb
    obtain ⟨k, hk2, rfl, B1, B2, B3, B4, B5, hbel⟩ := hrel
    by_cases hlt : k < 32
    · have k0 : (0 : Int) ≤ (k : Int) := by omega
      have k1 : (k : Int) < 32 := by omega
      have k2 : (k : Int) < 64 := by omega
      obtain ⟨m, hm⟩ : ∃ m : Nat, m = 32 + k := ⟨_, rfl⟩
      have em : 32 + (k : Int) = (m : Int) := by omega
      have m0 : (0 : Int) ≤ (m : Int) := by omega
      have m1 : (m : Int) < 64 := by omega
      obtain ⟨x, hx⟩ : ∃ x, x = L.getD k 0 := ⟨_, rfl⟩
      have C0 := B3.cellb (k := k) (by rw [HL3.out]; omega)
      rw [← hx] at C0
      obtain ⟨x', hx'⟩ : ∃ x, x = L.getD m 0 := ⟨_, rfl⟩
      have C1 := B3.cellb (k := m) (by rw [HL3.out]; omega)
      rw [← hx'] at C1
      obtain ⟨v, hv⟩ : ∃ v, v = (layTo 0 (fun i => L.getD (0 + i) 0) 32 k).getD k 0 := ⟨_, rfl⟩
      have D0 := B4.cellb (k := k) (by rw [layTo_length]; omega)
      rw [← hv] at D0
      have D1 := B4.free k
      obtain ⟨v', hv'⟩ : ∃ v, v = (layTo 0 (fun i => L.getD (32 + i) 0) 32 k).getD k 0 := ⟨_, rfl⟩
      have E0 := B5.cellb (k := k) (by rw [layTo_length]; omega)
      rw [← hv'] at E0
      have E1 := B5.free k
      have Hx := Lib.hid hx
      have Hx' := Lib.hid hx'
      have Hm := Lib.hid hm
      have G1 := Lib.hid B1
      have G2 := Lib.hid B2
      have G3 := Lib.hid B3
      have G4 := Lib.hid B4
      have G5 := Lib.hid B5
      clear hx hx' hv hv' hm B1 B2 B3 B4 B5
      go_wp2
      go_roundw
      case rel =>
        exact ⟨k + 1, by omega, by go_num, by exact (G1.out.other (by omega) _ _).other (by omega) _ _, by exact (G2.out.other (by omega) _ _).other (by omega) _ _, by exact (G3.out.other (by omega) _ _).other (by omega) _ _,
          by rw [layTo]; exact (G4.out.setb k _ (int_eq (by rw [Nat.zero_add, Hx.out]))).other (by omega) _ _, by rw [layTo]; exact (G5.out.other (by omega) _ _).setb k _ (int_eq (by rw [Hx'.out, Hm.out])),
          by exact (hbel.setCell (by simp; omega) _).setCell (by simp; omega) _⟩
      case measure => simp [intOf]; omega
    · obtain rfl : k = 32 := by omega
      have el : layTo 0 (fun i => L.getD (0 + i) 0) 32 32 = leftL key := by rw [lay_take 0 32 (by rw [HL3.out]; omega), List.drop_zero, leftL, HLL.out]
      have er : layTo 0 (fun i => L.getD (32 + i) 0) 32 32 = rightL key := by rw [lay_take 32 32 (by rw [HL3.out]; omega), rightL, HLL.out, List.take_of_length_le]; rw [← HLL.out, List.length_drop, HL3.out]; omega
      rw [el] at B4
      rw [er] at B5
      obtain ⟨p, hp⟩ : ∃ p, p = leftL key := ⟨_, rfl⟩
      obtain ⟨q, hq⟩ : ∃ q, q = rightL key := ⟨_, rfl⟩
      rw [← hp] at B4
      rw [← hq] at B5
      have HP3 : Hid (p.length = 32) := by show _ = _; rw [hp, leftL_length]
      have HQ3 : Hid (q.length = 32) := by show _ = _; rw [hq, rightL_length]
      have HP : Hid ((Try.prog.info? 23).map (·.size) = some (bva p).size) := by rw [bva_size, HP3.out]; exact info_key
      have HQ : Hid ((Try.prog.info? 23).map (·.size) = some (bva q).size) := by rw [bva_size, HQ3.out]; exact info_key
      have HPP := Lib.hid hp
      have HQQ := Lib.hid hq
      have hS : Blk wr.drew (w.heap.size + 1) (bva z) 23 ∧ Blk wr.drew (w.heap.size + 1 + 1) (bva z) 23 ∧ Blk wr.drew w2.heap.size (bva p) 23 ∧ Blk wr.drew (w2.heap.size + 1) (bva q) 23 ∧ Below w.heap.size w wr.drew := ⟨B1, B2, B4, B5, hbel.drew⟩
      have HS := Lib.hid hS
      clear B1 B2 B3 B4 B5 el er hp hq hbel hS
      go_wp2_with fail
      refine wp_region_held_drew (S := fun w' => (∃ l : List UInt8, l.length = 32 ∧ Blk w' (w.heap.size + 1) (bva l) 23) ∧ (∃ l : List UInt8, l.length = 32 ∧ Blk w' (w.heap.size + 1 + 1) (bva l) 23) ∧ Blk w' w2.heap.size (bva p) 23 ∧ Blk w' (w2.heap.size + 1) (bva q) 23 ∧ Below w.heap.size w w') (by kernel_rfl) ⟨⟨z, Z3.out, HS.out.1⟩, ⟨z, Z3.out, HS.out.2.1⟩, HS.out.2.2⟩ (fun hh => ?_)
      have HH := Lib.hid hh
      clear hh
      refine wpAnyH_take (i := 0) (v := .agg (bva p)) rfl (by kernel_rfl) (by kernel_rfl) (by kernel_rfl) (fun _ _ _ h => h) (Or.inl ⟨by rfl, fun w' hw' => ?y0⟩) HH.out ?_
      case y0 => exact exec_load 23 (.tmp 5) rfl rfl hw'.2.2.1 Try.underlying23 rfl HP.out
      refine wpAnyH_take (i := 1) (v := .agg (bva q)) rfl (by kernel_rfl) (by kernel_rfl) (by kernel_rfl) (fun _ _ _ h => h) (Or.inl ⟨by rfl, fun w' hw' => ?y1⟩) HH.out ?_
      case y1 => exact exec_load 23 (.tmp 6) rfl rfl hw'.2.2.2.1 Try.underlying23 rfl HQ.out
      refine wpAnyH_ready (rs := [2]) (by kernel_rfl) (by simp) (AllReadyH.cons rfl (fun K hK => ?_) AllReadyH.nil)
      rw [if_pos (by rfl)]
      refine wp_store_row 23 (.tmp 2) (.tmp 25) rfl (w.heap.size + 1) (bva p) rfl rfl 23 (bva z) HS.out.1 HP.out (by simp only [bva_size, HP3.out, Z3.out]) (bva_one _) ?_
      have u1 : Blk (wr.drew.setRow (w.heap.size + 1) (bva p)) (w.heap.size + 1) (bva p) 23 := setRow_heap _ _ _ _ _ _ HS.out.1
      have u2 : Blk (wr.drew.setRow (w.heap.size + 1) (bva p)) (w.heap.size + 1 + 1) (bva z) 23 := by unfold Blk; rw [setRow_other _ _ _ _ (by omega)]; exact HS.out.2.1
      have u3 : Blk (wr.drew.setRow (w.heap.size + 1) (bva p)) w2.heap.size (bva p) 23 := by unfold Blk; rw [setRow_other _ _ _ _ (by omega)]; exact HS.out.2.2.1
      have u4 : Blk (wr.drew.setRow (w.heap.size + 1) (bva p)) (w2.heap.size + 1) (bva q) 23 := by unfold Blk; rw [setRow_other _ _ _ _ (by omega)]; exact HS.out.2.2.2.1
      have ub : Below w.heap.size w (wr.drew.setRow (w.heap.size + 1) (bva p)) := below_setRow HS.out.2.2.2.2 (by omega) _
      refine hK.out _ _ ⟨⟨p, HP3.out, u1⟩, ⟨z, Z3.out, u2⟩, u3, u4, ub⟩ (fun _ => ?_)
      generalize hw6 : wr.drew.setRow _ _ = w6
      rw [hw6] at u1 u2 u3 u4 ub
      have U1 := Lib.hid u1
      have U2 := Lib.hid u2
      have U3 := Lib.hid u3
      have U4 := Lib.hid u4
      have UB := Lib.hid ub
      clear u1 u2 u3 u4 ub hw6 hK K HH HS
      refine wpAnyH_ready (rs := [3]) (by kernel_rfl) (by simp) (AllReadyH.cons rfl (fun K hK => ?_) AllReadyH.nil)
      rw [if_pos (by rfl)]
      refine wp_store_row 23 (.tmp 3) (.tmp 26) rfl (w.heap.size + 1 + 1) (bva q) rfl rfl 23 (bva z) U2.out HQ.out (by simp only [bva_size, HQ3.out, Z3.out]) (bva_one _) ?_
      have v1 : Blk (w6.setRow (w.heap.size + 1 + 1) (bva q)) (w.heap.size + 1) (bva p) 23 := by unfold Blk; rw [setRow_other _ _ _ _ (by omega)]; exact U1.out
      have v2 : Blk (w6.setRow (w.heap.size + 1 + 1) (bva q)) (w.heap.size + 1 + 1) (bva q) 23 := setRow_heap _ _ _ _ _ _ U2.out
      have v3 : Blk (w6.setRow (w.heap.size + 1 + 1) (bva q)) w2.heap.size (bva p) 23 := by unfold Blk; rw [setRow_other _ _ _ _ (by omega)]; exact U3.out
      have v4 : Blk (w6.setRow (w.heap.size + 1 + 1) (bva q)) (w2.heap.size + 1) (bva q) 23 := by unfold Blk; rw [setRow_other _ _ _ _ (by omega)]; exact U4.out
      have vb : Below w.heap.size w (w6.setRow (w.heap.size + 1 + 1) (bva q)) := below_setRow UB.out (by omega) _
      refine hK.out _ _ ⟨⟨p, HP3.out, v1⟩, ⟨q, HQ3.out, v2⟩, v3, v4, vb⟩ (fun _ => ?_)
      have V1 := Lib.hid v1
      have V2 := Lib.hid v2
      have VB := Lib.hid vb
      clear v1 v2 v3 v4 vb U1 U2 U3 U4 UB hK K
      refine wpAnyH_done (by kernel_rfl) ?_ _
      go_wp2
      exact bodyPost_ret (v := .tuple #[.agg (bva p), .agg (bva q)]) (results_cells2 Try.results12 _ _ (w.heap.size + 1) (w.heap.size + 1 + 1) 23 23 (bva p) (bva q) _ rfl rfl V1.out V2.out Try.underlying23 rfl HP.out HQ.out) rfl ⟨by rw [HPP.out, HQQ.out], VB.out⟩
end Go.Proofs.Ytobkkbpeoohfkaa.Ci
