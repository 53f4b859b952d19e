/-
  What the document tells of two sums: awake.
-/
import Derived.Test.YtdemfaolkmillaaShSum
import Derived.Lib.SlBytesConst
namespace Go.Proofs.Ytdemfaolkmillaa
open Go.RowKit
theorem rd_row {w : World} {g : Nat} {xs : List Value} {t : TypeId} {fr : Nat × Nat} (h : w.heap[g]? = some (.cells xs.toArray t fr)) : Rd w.heap.size w (some ⟨g, 0, none⟩) xs := fun k u hu =>
  ⟨_, rfl, (Array.getElem?_eq_some_iff.1 h).1, by rw [add_head, cell_of_row w g k _ t fr h, List.getElem?_toArray]; exact hu⟩
theorem take4 {l : List UInt8} {a b c d : UInt8} (h : l.take 4 = [a, b, c, d]) : ∃ r, l = a :: b :: c :: d :: r := ⟨l.drop 4, by
  have e := List.take_append_drop 4 l
  rw [h] at e
  exact e.symm⟩
theorem info33b (l : List UInt8) (h : l.length = 32) : (Try.prog.info? 30).map (·.size) = some (bva l).size := by rw [bva_size, h]; exact info33
set_option maxHeartbeats 800000 in
theorem awake_any (w : World) : Calls Try.prog 13 #[] w (RetB (.bool true) w) := by
  have kc := fun (w : World) (C : Array Value) (n c : Nat) => Lib.run_convert_bytes_const (P := Try.prog) w 28 5 C n c Try.underlying28 Try.underlying5
  have r0 : Rd (w.alloc (.cells (bva [97, 98, 99]) 5 (3, 3 + 1))).heap.size (w.alloc (.cells (bva [97, 98, 99]) 5 (3, 3 + 1))) (some ⟨w.heap.size, 0, none⟩) (bv [97, 98, 99]) := rd_row (heap_alloc_new _ _)
  have bw0 : Below w.heap.size w (w.alloc (.cells (bva [97, 98, 99]) 5 (3, 3 + 1))) := (Below.refl _ _).alloc (Nat.le_refl _) _
  have R0 := Lib.hid r0
  have BW0 := Lib.hid bw0
  clear r0 bw0
  go_enter Try.func13, Try.ntmps13
  go_wp2_with fail
  refine (sum_any (some ⟨w.heap.size, 0, none⟩) 3 3 [97, 98, 99] _ rfl (Nat.le_refl _) R0.out (by omega)).mono ?_
  rintro e w1 ⟨rfl, bw1⟩
  have c1 : Below w.heap.size w w1 := BW0.out.trans (bw1.mono BW0.out.size)
  have C1 := Lib.hid c1
  clear R0 BW0 bw1 c1 kc
  go_wp2_with fail
  refine (sum_any none 0 0 [] _ rfl (Nat.le_refl _) Rd.none (by omega)).mono ?_
  rintro e w2 ⟨rfl, bw2⟩
  have c2 : Below w.heap.size w w2 := C1.out.trans (bw2.mono C1.out.size)
  have C2 := Lib.hid c2
  clear C1 bw2 c2
  obtain ⟨x, hx⟩ : ∃ x, x = shaL [97, 98, 99] := ⟨_, rfl⟩
  obtain ⟨y, hy⟩ : ∃ y, y = shaL [] := ⟨_, rfl⟩
  have HX : Hid (x.length = 32) := by show _ = _; rw [hx, shaL_length]
  have HY : Hid (y.length = 32) := by show _ = _; rw [hy, shaL_length]
  have hx4 := sha_abc
  have hy4 := sha_nil
  rw [← hx] at hx4
  rw [← hy] at hy4
  obtain ⟨xr, hxr⟩ := take4 hx4
  obtain ⟨yr, hyr⟩ := take4 hy4
  have HXR := Lib.hid hxr
  have HYR := Lib.hid hyr
  rw [← hx, ← hy]
  clear hx hy hx4 hy4 hxr hyr
  go_wp2_with (first
    | (refine wpList_store_row rfl 30 (.tmp 1) (.tmp 5) rfl w2.heap.size (bva x) rfl rfl 30 (bva (List.replicate 32 0)) (heap_alloc2_old _ _ _) (info33b x HX.out) (by rw [bva_size, bva_size, HX.out]; rfl) (bva_one _) ?_)
    | (refine wpList_store_row rfl 30 (.tmp 2) (.tmp 6) rfl (w2.heap.size + 1) (bva y) rfl rfl 30 (bva (List.replicate 32 0)) (by rw [setRow_other _ _ _ _ (by omega)]; exact heap_alloc2_new _ _ _) (info33b y HY.out) (by rw [bva_size, bva_size, HY.out]; rfl) (bva_one _) ?_
       generalize hw3 : World.setRow _ _ _ = w3
       have q1 : Blk w3 w2.heap.size (bva x) 30 := by
         rw [← hw3]; unfold Blk; rw [setRow_other _ _ _ _ (by omega)]; exact setRow_heap _ _ _ _ _ _ (heap_alloc2_old _ _ _)
       have q2 : Blk w3 (w2.heap.size + 1) (bva y) 30 := by
         rw [← hw3]; exact setRow_heap _ _ _ _ _ _ (by rw [setRow_other _ _ _ _ (by omega)]; exact heap_alloc2_new _ _ _)
       have q3 : Below w.heap.size w w3 := by
         have hs := C2.out.size
         rw [← hw3]; exact below_setRow (below_setRow ((C2.out.alloc hs _).alloc (by simp; omega) _) hs _) (by omega) _
       have h0 : w3.cell? ⟨w2.heap.size, 0, none⟩ = some (.int .u8 186) := by rw [q1.cell, HXR.out]; rfl
       have h1 : w3.cell? ⟨w2.heap.size, 1, none⟩ = some (.int .u8 120) := by rw [q1.cell, HXR.out]; rfl
       have h2 : w3.cell? ⟨w2.heap.size, 2, none⟩ = some (.int .u8 22) := by rw [q1.cell, HXR.out]; rfl
       have h3 : w3.cell? ⟨w2.heap.size, 3, none⟩ = some (.int .u8 191) := by rw [q1.cell, HXR.out]; rfl
       have k0 : w3.cell? ⟨w2.heap.size + 1, 0, none⟩ = some (.int .u8 227) := by rw [q2.cell, HYR.out]; rfl
       have k1 : w3.cell? ⟨w2.heap.size + 1, 1, none⟩ = some (.int .u8 176) := by rw [q2.cell, HYR.out]; rfl
       have k2 : w3.cell? ⟨w2.heap.size + 1, 2, none⟩ = some (.int .u8 196) := by rw [q2.cell, HYR.out]; rfl
       have k3 : w3.cell? ⟨w2.heap.size + 1, 3, none⟩ = some (.int .u8 66) := by rw [q2.cell, HYR.out]; rfl
       have Q3 := Lib.hid q3
       clear q1 q2 q3 hw3 C2))
  refine (pad_any none 0 0 [] _ rfl (Nat.le_refl _) Rd.none (by omega)).mono ?_
  rintro e w4 ⟨A4, n4, c4, rfl, ho4, bw4⟩
  have hn4 : n4 = 64 := by rw [← own_blen ho4, padL_length]; rfl
  subst hn4
  have Q4 := Lib.hid (Q3.out.trans (bw4.mono Q3.out.size))
  clear ho4 bw4 Q3 h0 h1 h2 h3 k0 k1 k2 k3
  go_wp2_with fail
  go_ret
  exact ⟨rfl, Q4.out⟩
end Go.Proofs.Ytdemfaolkmillaa
