/-
  CipherReal holds: of every key and number the law returns true, and its arguments read as they did.
-/
import Derived.Test.YtobkkbpeoohfkaaCiRef
import Derived.Test.YtobkkbpeoohfkaaCiAwake
import Derived.Test.YtobkkbpeoohfkaaOpen
import Derived.Test.YtobkkbpeoohfkaaOpenA
import Derived.ProofKit
import Derived.OpenShut
import Derived.ShutString
import Derived.ChangeOld
namespace Go.Proofs.Ytobkkbpeoohfkaa
open Go.RowKit Go.ChangeShapes Go.WideShapes Go.ChangeAt
attribute [local go_sem ↓] Go.wp_at_zero Go.wp_at_succ
theorem eq_key (a : List UInt8) (ha : a.length = 32) (w : World) : (Op.equalIn 10000 23 (.agg (bva a)) (.agg (bva a))).run Try.prog w = .ok true w := by
  obtain ⟨i, hi⟩ : ∃ i, Try.prog.info? 5 = some i := Option.isSome_iff_exists.1 (by kernel_rfl)
  rw [run_equal_bytes w Try.underlying23 Try.underlying5 hi (by kernel_rfl) a a ha ha, decide_eq_true rfl]
theorem eq_block (a : List UInt8) (ha : a.length = 32) (w : World) : (Op.equalIn 10000 30 (.agg (bva a)) (.agg (bva a))).run Try.prog w = .ok true w := by
  obtain ⟨i, hi⟩ : ∃ i, Try.prog.info? 5 = some i := Option.isSome_iff_exists.1 (by kernel_rfl)
  rw [run_equal_bytes w Try.underlying30 Try.underlying5 hi (by kernel_rfl) a a ha ha, decide_eq_true rfl]
theorem info_real : (Try.prog.info? 27).map (·.size) = some (#[] : Array Value).size := by kernel_rfl
set_option maxRecDepth 100000 in
set_option maxHeartbeats 3200000 in
theorem cipherReal_any (w : World) (k : List UInt8) (hk : k.length = 32) (n0 : Int) (hn0 : 0 ≤ n0 ∧ n0 ≤ 18446744073709551615) :
    Calls Try.prog 3 #[.agg (bva k), .int .u64 n0] w (RetB (.bool true) w) := by
  obtain ⟨n, rfl⟩ := Int.eq_ofNat_of_zero_le hn0.1
  clear hn0
  obtain ⟨z, hz0⟩ : ∃ z : List UInt8, z = List.replicate 32 0 := ⟨_, rfl⟩
  have hz : ∀ W, (zeroValue 23).run Try.prog W = .ok (.agg (bva z)) W := fun _ => by rw [hz0]; kernel_rfl
  have Z3 : Hid (z.length = 32) := by show _ = _; rw [hz0]; rfl
  have b1 : Blk (w.alloc (.cells (bva k) 23)) w.heap.size (bva k) 23 := heap_alloc_new _ _
  have hb : Below w.heap.size w (w.alloc (.cells (bva k) 23)) := (Below.refl _ _).alloc (Nat.le_refl _) _
  obtain ⟨x, hx⟩ : ∃ x, x = Ci.leftL k := ⟨_, rfl⟩
  have hx3 : x.length = 32 := by rw [hx]; exact Ci.leftL_length k
  obtain ⟨y, hy⟩ : ∃ y, y = Ci.rightL k := ⟨_, rfl⟩
  have hy3 : y.length = 32 := by rw [hy]; exact Ci.rightL_length k
  obtain ⟨p, hp⟩ : ∃ p, p = Ci.rpadL k n := ⟨_, rfl⟩
  have hp3 : p.length = 32 := by rw [hp]; exact Ci.rpadL_length k n
  have heqx := eq_key x hx3
  have heqy := eq_key y hy3
  have heqp := eq_block p hp3
  have HX := Lib.hid hx
  have HY := Lib.hid hy
  have HP := Lib.hid hp
  have X3 := Lib.hid hx3
  have Y3 := Lib.hid hy3
  have HIR := Lib.hid info_real
  have HIX : Hid ((Try.prog.info? 23).map (·.size) = some (bva x).size) := by rw [bva_size, hx3]; exact Ci.info_key
  have HIY : Hid ((Try.prog.info? 23).map (·.size) = some (bva y).size) := by rw [bva_size, hy3]; exact Ci.info_key
  have HI : Hid ((Try.prog.info? 23).map (·.size) = some (bva k).size) := by rw [bva_size, hk]; exact Ci.info_key
  have B1 := Lib.hid b1
  have BB := Lib.hid hb
  have HK := Lib.hid hk
  clear b1 hb hx hx3 hk hy hy3 hp hp3 hz0
  go_enter Try.func3, Try.ntmps3
  go_wp2_with fail
  refine (Ci.ciAwake_any _).mono ?_
  rintro e w1 ⟨rfl, bw⟩
  have c1 := B1.out.below bw
  have cb := BB.out.trans (bw.mono BB.out.size)
  have q1 : Blk (w1.alloc (.cells #[] 27)) w.heap.size (bva k) 23 := (heap_alloc_old _ _ c1.lt).trans c1
  have q2 : Blk (w1.alloc (.cells #[] 27)) w1.heap.size #[] 27 := heap_alloc_new _ _
  have qb : Below w.heap.size w (w1.alloc (.cells #[] 27)) := cb.alloc cb.size _
  have CBL : w.heap.size < w1.heap.size := c1.lt
  have C1 := Lib.hid q1
  have C2 := Lib.hid q2
  have CB := Lib.hid qb
  clear bw B1 BB c1 cb q1 q2 qb
  go_wp2_with (first
    | (refine wpList_load_row rfl 27 (.tmp 5) rfl w1.heap.size rfl 27 #[] (0, 0) _ C2.out Try.underlying27 rfl HIR.out ?_)
    | (refine wpList_load_row rfl 23 (.tmp 2) rfl w.heap.size rfl 23 (bva k) (0, 0) _ C1.out Try.underlying23 rfl HI.out ?_))
  refine (Ci.realsplit_any k HK.out _).mono ?_
  rintro e w2 ⟨rfl, bw⟩
  rw [← HX.out, ← HY.out]
  have D1 := Lib.hid (C1.out.below bw)
  have D2 := Lib.hid (C2.out.below bw)
  have DB := Lib.hid (CB.out.trans (bw.mono CB.out.size))
  clear bw C1 C2 CB
  have hw1 : w.heap.size < w1.heap.size := CBL
  have hw2 : w1.heap.size < w2.heap.size := D2.out.lt
  go_wp2_with (first
    | (refine wpList_store_row rfl 23 (.tmp 6) (.tmp 16) rfl w2.heap.size (bva x) rfl rfl 23 (bva z) (heap_alloc2_old _ _ _) HIX.out (by simp only [bva_size, X3.out, Z3.out]) (bva_one _) ?_
       generalize hwx : World.setRow _ _ _ = wx
       have e0 : Blk wx w.heap.size (bva k) 23 := by rw [← hwx]; exact Ci.blk_row (Ci.blk_old2 D1.out) (by have := D1.out.lt; omega)
       have e1 : Blk wx w1.heap.size #[] 27 := by rw [← hwx]; exact Ci.blk_row (Ci.blk_old2 D2.out) (by have := D2.out.lt; omega)
       have ex : Blk wx w2.heap.size (bva x) 23 := by rw [← hwx]; exact setRow_heap _ _ _ _ _ _ (heap_alloc2_old _ _ _)
       have ey : Blk wx (w2.heap.size + 1) (bva z) 23 := by rw [← hwx]; exact Ci.blk_row (heap_alloc2_new _ _ _) (by omega)
       have eb : Below w.heap.size w wx := by rw [← hwx]; exact below_setRow (Ci.below_alloc2 DB.out DB.out.size) DB.out.size _
       have G0 := Lib.hid e0
       have G1 := Lib.hid e1
       have GX := Lib.hid ex
       have GY := Lib.hid ey
       have GB := Lib.hid eb
       clear hwx ex ey eb e0 e1 D1 D2 DB)
    | (refine wpList_store_row rfl 23 (.tmp 7) (.tmp 17) rfl (w2.heap.size + 1) (bva y) rfl rfl 23 (bva z) GY.out HIY.out (by simp only [bva_size, Y3.out, Z3.out]) (bva_one _) ?_
       generalize hwy : World.setRow _ _ _ = wy
       have e0 : Blk wy w.heap.size (bva k) 23 := by rw [← hwy]; exact Ci.blk_row G0.out (by omega)
       have e1 : Blk wy w1.heap.size #[] 27 := by rw [← hwy]; exact Ci.blk_row G1.out (by omega)
       have ex : Blk wy w2.heap.size (bva x) 23 := by rw [← hwy]; exact Ci.blk_row GX.out (by omega)
       have ey : Blk wy (w2.heap.size + 1) (bva y) 23 := by rw [← hwy]; exact setRow_heap _ _ _ _ _ _ GY.out
       have eb : Below w.heap.size w wy := by rw [← hwy]; exact below_setRow GB.out (by omega) _
       have Eo0 := Lib.hid e0
       have Eo1 := Lib.hid e1
       have E1 := Lib.hid ex
       have E2 := Lib.hid ey
       have Eb := Lib.hid eb
       clear hwy ex ey eb e0 e1 G0 G1 GX GY GB)
    | (refine wpList_load_row rfl 23 (.tmp 2) rfl w.heap.size rfl 23 (bva k) (0, 0) _ Eo0.out Try.underlying23 rfl HI.out ?_))
  refine (Ci.refsplit_any k HK.out _).mono ?_
  rintro e w3 ⟨rfl, bw⟩
  rw [← HX.out, ← HY.out]
  have hwy : w2.heap.size + 1 < w3.heap.size := by have h1 := E2.out.lt; have h2 := bw.size; omega
  have F1 := Lib.hid (Eo0.out.below bw)
  have F2 := Lib.hid (Eo1.out.below bw)
  have F3 := Lib.hid (E1.out.below bw)
  have F4 := Lib.hid (E2.out.below bw)
  have FB := Lib.hid (Eb.out.trans (bw.mono Eb.out.size))
  clear bw Eo0 Eo1 E1 E2 Eb
  go_wp2_with (first
    | (refine wpList_store_row rfl 23 (.tmp 8) (.tmp 21) rfl w3.heap.size (bva x) rfl rfl 23 (bva z) (heap_alloc2_old _ _ _) HIX.out (by simp only [bva_size, X3.out, Z3.out]) (bva_one _) ?_
       generalize hwx : World.setRow _ _ _ = wx
       have e0 : Blk wx w.heap.size (bva k) 23 := by rw [← hwx]; exact Ci.blk_row (Ci.blk_old2 F1.out) (by have := F1.out.lt; omega)
       have e1 : Blk wx w1.heap.size #[] 27 := by rw [← hwx]; exact Ci.blk_row (Ci.blk_old2 F2.out) (by have := F2.out.lt; omega)
       have e2 : Blk wx w2.heap.size (bva x) 23 := by rw [← hwx]; exact Ci.blk_row (Ci.blk_old2 F3.out) (by have := F3.out.lt; omega)
       have e3 : Blk wx (w2.heap.size + 1) (bva y) 23 := by rw [← hwx]; exact Ci.blk_row (Ci.blk_old2 F4.out) (by have := F4.out.lt; omega)
       have ex : Blk wx w3.heap.size (bva x) 23 := by rw [← hwx]; exact setRow_heap _ _ _ _ _ _ (heap_alloc2_old _ _ _)
       have ey : Blk wx (w3.heap.size + 1) (bva z) 23 := by rw [← hwx]; exact Ci.blk_row (heap_alloc2_new _ _ _) (by omega)
       have eb : Below w.heap.size w wx := by rw [← hwx]; exact below_setRow (Ci.below_alloc2 FB.out FB.out.size) FB.out.size _
       have G0 := Lib.hid e0
       have G1 := Lib.hid e1
       have G2 := Lib.hid e2
       have G3 := Lib.hid e3
       have GX := Lib.hid ex
       have GY := Lib.hid ey
       have GB := Lib.hid eb
       clear hwx ex ey eb e0 e1 e2 e3 F1 F2 F3 F4 FB)
    | (refine wpList_store_row rfl 23 (.tmp 9) (.tmp 22) rfl (w3.heap.size + 1) (bva y) rfl rfl 23 (bva z) GY.out HIY.out (by simp only [bva_size, Y3.out, Z3.out]) (bva_one _) ?_
       generalize hwy : World.setRow _ _ _ = wy
       have e0 : Blk wy w.heap.size (bva k) 23 := by rw [← hwy]; exact Ci.blk_row G0.out (by omega)
       have e1 : Blk wy w1.heap.size #[] 27 := by rw [← hwy]; exact Ci.blk_row G1.out (by omega)
       have e2 : Blk wy w2.heap.size (bva x) 23 := by rw [← hwy]; exact Ci.blk_row G2.out (by omega)
       have e3 : Blk wy (w2.heap.size + 1) (bva y) 23 := by rw [← hwy]; exact Ci.blk_row G3.out (by omega)
       have ex : Blk wy w3.heap.size (bva x) 23 := by rw [← hwy]; exact Ci.blk_row GX.out (by omega)
       have ey : Blk wy (w3.heap.size + 1) (bva y) 23 := by rw [← hwy]; exact setRow_heap _ _ _ _ _ _ GY.out
       have eb : Below w.heap.size w wy := by rw [← hwy]; exact below_setRow GB.out (by omega) _
       have Ho0 := Lib.hid e0
       have Ho1 := Lib.hid e1
       have Ho2 := Lib.hid e2
       have Ho3 := Lib.hid e3
       have H1 := Lib.hid ex
       have H2 := Lib.hid ey
       have Hb := Lib.hid eb
       clear hwy ex ey eb e0 e1 e2 e3 G0 G1 G2 G3 GX GY GB))
  refine wp_region_held_drew (S := fun w' => Blk w' w.heap.size (bva k) 23 ∧ Blk w' w1.heap.size #[] 27 ∧ Blk w' w2.heap.size (bva x) 23 ∧ Blk w' (w2.heap.size + 1) (bva y) 23 ∧ Blk w' w3.heap.size (bva x) 23 ∧ Blk w' (w3.heap.size + 1) (bva y) 23 ∧ Below w.heap.size w w') (by kernel_rfl) ⟨Ho0.out, Ho1.out, Ho2.out, Ho3.out, H1.out, H2.out, Hb.out.drew⟩ (fun hh => ?_)
  have HH := Lib.hid hh
  clear hh
  refine wpAnyH_take (i := 0) (v := .agg #[]) rfl (by kernel_rfl) (by kernel_rfl) (by kernel_rfl) (fun _ _ _ h => h) (Or.inl ⟨by rfl, fun w' hw' => ?ya0⟩) HH.out ?_
  case ya0 => exact exec_load 27 (.tmp 5) rfl rfl hw'.2.1 Try.underlying27 rfl HIR.out
  refine wpAnyH_take (i := 1) (v := .agg (bva k)) rfl (by kernel_rfl) (by kernel_rfl) (by kernel_rfl) (fun _ _ _ h => h) (Or.inl ⟨by rfl, fun w' hw' => ?ya1⟩) HH.out ?_
  case ya1 => exact exec_load 23 (.tmp 2) rfl rfl hw'.1 Try.underlying23 rfl HI.out
  try simp only [List.getElem_toArray, List.getElem_cons_succ, List.getElem_cons_zero, Act.put, List.setIfInBounds_toArray, List.set_cons_zero, List.set_cons_succ]
  refine wpAnyH_take (i := 2) (v := ?va2) rfl (by kernel_rfl) (by kernel_rfl) (by kernel_rfl) (fun _ _ _ h => h) (Or.inl ⟨by rfl, fun w' _ => ?ya2⟩) HH.out ?_
  case ya2 => (go_simp; try with_reducible rfl)
  refine wpAnyH_take (i := 4) (v := .agg (bva k)) rfl (by kernel_rfl) (by kernel_rfl) (by kernel_rfl) (fun _ _ _ h => h) (Or.inl ⟨by rfl, fun w' hw' => ?ya4⟩) HH.out ?_
  case ya4 => exact exec_load 23 (.tmp 2) rfl rfl hw'.1 Try.underlying23 rfl HI.out
  refine wpAnyH_take (i := 5) (v := ?va5) rfl (by kernel_rfl) (by kernel_rfl) (by kernel_rfl) (fun _ _ _ h => h) (Or.inl ⟨by rfl, fun w' _ => ?ya5⟩) HH.out ?_
  case ya5 => (go_simp; try with_reducible rfl)
  try simp only [List.getElem_toArray, List.getElem_cons_succ, List.getElem_cons_zero, Act.put, List.setIfInBounds_toArray, List.set_cons_zero, List.set_cons_succ]
  refine wpAnyH_ready (rs := [3]) (by kernel_rfl) (by simp) (AllReadyH.cons rfl (fun K hK => ?_) AllReadyH.nil)
  go_simp
  refine (Ci.realpad_any k HK.out n _).mono ?_
  rintro e w5 ⟨rfl, bw⟩
  rw [← HP.out]
  go_simp
  refine hK.out _ _ ⟨HH.out.1.below bw, HH.out.2.1.below bw, HH.out.2.2.1.below bw, HH.out.2.2.2.1.below bw, HH.out.2.2.2.2.1.below bw, HH.out.2.2.2.2.2.1.below bw, HH.out.2.2.2.2.2.2.trans (bw.mono HH.out.2.2.2.2.2.2.size)⟩ (fun hh => ?_)
  have HH' := Lib.hid hh
  clear hh hK K HH bw
  have HH := Lib.hid HH'.out
  clear HH'
  try simp only [List.getElem_toArray, List.getElem_cons_succ, List.getElem_cons_zero, Act.put, List.setIfInBounds_toArray, List.set_cons_zero, List.set_cons_succ]
  refine wpAnyH_ready (rs := [6]) (by kernel_rfl) (by simp) (AllReadyH.cons rfl (fun K hK => ?_) AllReadyH.nil)
  go_simp
  refine (Ci.refpad_any k HK.out n _).mono ?_
  rintro e w6 ⟨rfl, bw⟩
  rw [← HP.out]
  go_simp
  refine hK.out _ _ ⟨HH.out.1.below bw, HH.out.2.1.below bw, HH.out.2.2.1.below bw, HH.out.2.2.2.1.below bw, HH.out.2.2.2.2.1.below bw, HH.out.2.2.2.2.2.1.below bw, HH.out.2.2.2.2.2.2.trans (bw.mono HH.out.2.2.2.2.2.2.size)⟩ (fun hh => ?_)
  have HH' := Lib.hid hh
  clear hh hK K HH bw
  have HH := Lib.hid HH'.out
  clear HH'
  refine wpAnyH_take (i := 7) (v := ?va7) rfl (by kernel_rfl) (by kernel_rfl) (by kernel_rfl) (fun _ _ _ h => h) (Or.inl ⟨by rfl, fun w' _ => ?ya7⟩) HH.out ?_
  case ya7 => (go_simp; try with_reducible rfl)
  try simp only [List.getElem_toArray, List.getElem_cons_succ, List.getElem_cons_zero, Act.put, List.setIfInBounds_toArray, List.set_cons_zero, List.set_cons_succ]
  refine wpAnyH_take (i := 8) (v := ?va8) rfl (by kernel_rfl) (by kernel_rfl) (by kernel_rfl) (fun _ _ _ h => h) (Or.inl ⟨by rfl, fun w' _ => ?ya8⟩) HH.out ?_
  case ya8 => (go_simp; try with_reducible rfl)
  refine wpAnyH_take (i := 9) (v := .agg (bva x)) rfl (by kernel_rfl) (by kernel_rfl) (by kernel_rfl) (fun _ _ _ h => h) (Or.inl ⟨by rfl, fun w' hw' => ?ya9⟩) HH.out ?_
  case ya9 => exact exec_load 23 (.tmp 6) rfl rfl hw'.2.2.1 Try.underlying23 rfl HIX.out
  refine wpAnyH_take (i := 10) (v := .agg (bva x)) rfl (by kernel_rfl) (by kernel_rfl) (by kernel_rfl) (fun _ _ _ h => h) (Or.inl ⟨by rfl, fun w' hw' => ?ya10⟩) HH.out ?_
  case ya10 => exact exec_load 23 (.tmp 8) rfl rfl hw'.2.2.2.2.1 Try.underlying23 rfl HIX.out
  try simp only [List.getElem_toArray, List.getElem_cons_succ, List.getElem_cons_zero, Act.put, List.setIfInBounds_toArray, List.set_cons_zero, List.set_cons_succ]
  refine wpAnyH_take (i := 11) (v := ?va11) rfl (by kernel_rfl) (by kernel_rfl) (by kernel_rfl) (fun _ _ _ h => h) (Or.inl ⟨by rfl, fun w' _ => ?ya11⟩) HH.out ?_
  case ya11 => (go_simp; try with_reducible rfl)
  refine wpAnyH_take (i := 12) (v := ?va12) rfl (by kernel_rfl) (by kernel_rfl) (by kernel_rfl) (fun _ _ _ h => h) (Or.inl ⟨by rfl, fun w' _ => ?ya12⟩) HH.out ?_
  case ya12 => (go_simp; try with_reducible rfl)
  refine wpAnyH_take (i := 13) (v := ?va13) rfl (by kernel_rfl) (by kernel_rfl) (by kernel_rfl) (fun _ _ _ h => h) (Or.inl ⟨by rfl, fun w' _ => ?ya13⟩) HH.out ?_
  case ya13 => (go_simp; try with_reducible rfl)
  try simp only [List.getElem_toArray, List.getElem_cons_succ, List.getElem_cons_zero, Act.put, List.setIfInBounds_toArray, List.set_cons_zero, List.set_cons_succ]
  refine wpAnyH_take (i := 14) (v := .agg (bva y)) rfl (by kernel_rfl) (by kernel_rfl) (by kernel_rfl) (fun _ _ _ h => h) (Or.inl ⟨by rfl, fun w' hw' => ?ya14⟩) HH.out ?_
  case ya14 => exact exec_load 23 (.tmp 7) rfl rfl hw'.2.2.2.1 Try.underlying23 rfl HIY.out
  refine wpAnyH_take (i := 15) (v := .agg (bva y)) rfl (by kernel_rfl) (by kernel_rfl) (by kernel_rfl) (fun _ _ _ h => h) (Or.inl ⟨by rfl, fun w' hw' => ?ya15⟩) HH.out ?_
  case ya15 => exact exec_load 23 (.tmp 9) rfl rfl hw'.2.2.2.2.2.1 Try.underlying23 rfl HIY.out
  try simp only [List.getElem_toArray, List.getElem_cons_succ, List.getElem_cons_zero, Act.put, List.setIfInBounds_toArray, List.set_cons_zero, List.set_cons_succ]
  refine wpAnyH_take (i := 16) (v := ?va16) rfl (by kernel_rfl) (by kernel_rfl) (by kernel_rfl) (fun _ _ _ h => h) (Or.inl ⟨by rfl, fun w' _ => ?ya16⟩) HH.out ?_
  case ya16 => (go_simp; try with_reducible rfl)
  try simp only [List.getElem_toArray, List.getElem_cons_succ, List.getElem_cons_zero, Act.put, List.setIfInBounds_toArray, List.set_cons_zero, List.set_cons_succ]
  refine wpAnyH_take (i := 17) (v := ?va17) rfl (by kernel_rfl) (by kernel_rfl) (by kernel_rfl) (fun _ _ _ h => h) (Or.inl ⟨by rfl, fun w' _ => ?ya17⟩) HH.out ?_
  case ya17 => (go_simp; try with_reducible rfl)
  refine wpAnyH_take (i := 18) (v := ?va18) rfl (by kernel_rfl) (by kernel_rfl) (by kernel_rfl) (fun _ _ _ h => h) (Or.inl ⟨by rfl, fun w' _ => ?ya18⟩) HH.out ?_
  case ya18 => (go_simp; try with_reducible rfl)
  try simp only [List.getElem_toArray, List.getElem_cons_succ, List.getElem_cons_zero, Act.put, List.setIfInBounds_toArray, List.set_cons_zero, List.set_cons_succ]
  refine wpAnyH_done (by kernel_rfl) ?_ _
  go_wp2_with fail
  go_ret
  exact ⟨rfl, HH.out.2.2.2.2.2.2⟩
theorem cipherReal_own : ownKnob Try.prog.godebug = none := by kernel_rfl
theorem cipherReal_laid : laidOutB Try.prog = true := by kernel_rfl

set_option maxRecDepth 100000 in
theorem cipherReal_lifted (os : Os) (started : os.Started) (H : Type) (enc : TypeId × Value → H) :
    ReturnsInHanded {} Try.checked os 3 .any (Rows.cipherRealSpec.pre6 enc Try.prog Try.f3 Rows.cipherRealRow.domain false) (Rows.cipherRealSpec.post enc Try.prog Try.f3 false true false false) := by
  refine returnsInHanded_of_change (C := Try.checked) cipherReal_own started (by kernel_rfl) Try.func3
    (ChangeSpec.witness6 (enc := enc) (C := Try.checked) false ⟨#[], #[.agg #[.int .u8 0, .int .u8 0, .int .u8 0, .int .u8 0, .int .u8 0, .int .u8 0, .int .u8 0, .int .u8 0, .int .u8 0, .int .u8 0, .int .u8 0, .int .u8 0, .int .u8 0, .int .u8 0, .int .u8 0, .int .u8 0, .int .u8 0, .int .u8 0, .int .u8 0, .int .u8 0, .int .u8 0, .int .u8 0, .int .u8 0, .int .u8 0, .int .u8 0, .int .u8 0, .int .u8 0, .int .u8 0, .int .u8 0, .int .u8 0, .int .u8 0, .int .u8 0], .int .u64 0], []⟩ 8 (by kernel_rfl) (by kernel_rfl) (by kernel_rfl) (by kernel_rfl)) ?_
  intro W base args ds gs before hval0 hW _ _
  have hval : ∀ (j : Nat) t v, Try.f3.params[j]? = some t → args[j]? = some v → Value.okWide Try.prog W .any base t v := hval0
  have hW' := hW
  obtain ⟨p, q, hA0, hV, rfl, hfz, hnd⟩ := hW
  have hA : DataW.TrodAll enc Try.prog W 0 (fun _ => true) true Try.f3.params.toList args.toList ds p := hA0
  rw [Try.params3] at hA hval
  obtain ⟨v0, vs0, d0, ds0, p0, q0, hargs, rfl, rfl, h0, r0⟩ := trodAll_cons hA
  obtain ⟨v1, vs1, d1, ds1, p1, q1, rfl, rfl, rfl, h1, r1⟩ := trodAll_cons r0
  obtain ⟨rfl, rfl, rfl⟩ := trodAll_nil r1
  obtain rfl : args = #[v0, v1] := by cases args; simp_all
  obtain ⟨rfl, rfl⟩ := trodVars_none hV
  have lt0 : ∀ x ∈ p0, x.block < W.heap.size := by obtain ⟨m, hm⟩ := h0; exact DataW.trod_lt m _ _ _ hm
  obtain ⟨l0, hl0, rfl⟩ := open_u8s Try.underlying23 Try.underlying5 (by kernel_rfl) (by kernel_rfl) (hval 0 23 v0 rfl rfl) h0
  obtain ⟨a1, rfl, rfl, rfl, w1⟩ := open_int Try.underlying24 (hval 1 24 v1 rfl rfl) h1
  have b1 := bounds_u64 w1
  clear hA0 hval0
  refine (cipherReal_any W l0 hl0 a1 b1).mono fun e W' ⟨he, bel⟩ => ?_
  subst he
  exact ⟨_, rfl, _, _, _, [], _, [], hW', trodAll_mk1 (shut_bool Try.underlying4 _), (trodAll_cons_mk (Below.trod cipherReal_laid (by kernel_rfl) (of_decide_eq_true (by kernel_rfl)) h0 bel lt0) (trodAll_cons_mk (shut_int Try.underlying24 w1) trodAll_mk0)), rfl, bel.frame _, fun h => by cases h⟩

theorem cipherReal_holds : Rows.CipherRealSaid :=
  OpenClaim.holds_of_wide 3 Try.f3 rfl rfl rfl rfl rfl rfl rfl ⟨rfl, rfl, rfl, rfl, rfl⟩ rfl rfl rfl rfl rfl (by kernel_rfl) Try.func3 (by kernel_rfl)
    (of_decide_eq_true (by kernel_rfl)) (by unfold Func.isWrapper; rw [if_neg (of_decide_eq_false (by kernel_rfl))]; exact ⟨rfl, rfl⟩)
    (fun os started H enc _ => cipherReal_lifted os started H enc)

#print axioms cipherReal_holds

end Go.Proofs.Ytobkkbpeoohfkaa
