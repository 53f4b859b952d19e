/-
  Texts of this seat, one behind the other: MiAwake, MiMissP, OpenA.
-/
import Derived.OrdersHeld
import Derived.Deep.RegionHeld
import Derived.OpenShut
import Derived.ProofKit
import Derived.Test.YtfofkjcdohmkpaaMm3
/-
  The laws' example, awake.
-/
namespace Go.Proofs.Ytfofkjcdohmkpaa.Mi
open Go.RowKit Kd
attribute [local go_sem ↓] Go.wp_at_zero Go.wp_at_succ
def mw0 : Md := Md.new 5
def mw1 : Md := (mw0.write 3 (secN 1 0)).2
def mw2 : Md := mw1.rot 0 3 0 1
def mw3 : Md := (mw2.heal goodN 3).2
theorem mw_facts : (mw0.write 3 (secN 1 0)).1 = 0 ∧ (mw1.o0 && mw1.o1) = false ∧ hasByte mw1.a.length 3 0 = true ∧ mw2.read goodN 3 = (secN 1 0, 0) ∧ (mw2.heal goodN 3).1 = (1, 0) := by decide +kernel
theorem sec_size (x y : UInt8) : (Try.prog.info? 38).map (·.size) = some (bva (secN x y)).size := by rw [bva_size, secN_length]; exact info_sec
set_option maxRecDepth 100000 in
set_option maxHeartbeats 6400000 in
theorem awake_any (w : World) : Calls Try.prog 23 #[] w (RetB (.bool true) w) := by
  obtain ⟨f1, f2, f3, f4, f5⟩ := mw_facts
  have HF1 := Lib.hid f1
  have HF2 := Lib.hid f2
  have HF3 := Lib.hid f3
  have HF4 := Lib.hid f4
  have HF5 := Lib.hid f5
  clear f1 f2 f3 f4 f5
  obtain ⟨z, hz0⟩ : ∃ z : List UInt8, z = zeroS := ⟨_, rfl⟩
  have hz : ∀ W, (zeroValue 38).run Try.prog W = .ok (.agg (bva z)) W := fun _ => by rw [hz0]; kernel_rfl
  have HZ3 := Lib.hid (show z.length = 128 by rw [hz0]; exact zeroS_length)
  clear hz0
  obtain ⟨y, hy⟩ : ∃ y, y = secN 1 0 := ⟨_, rfl⟩
  have HY := Lib.hid hy
  have HY3 := Lib.hid (show y.length = 128 by rw [hy]; exact secN_length _ _)
  have HIY := Lib.hid (show (Try.prog.info? 38).map (·.size) = some (bva y).size by rw [hy]; exact sec_size _ _)
  have HSY := Lib.hid (show ∀ w, Calls Try.prog 30 #[.int .u8 1, .int .u8 0] w (RetB (.agg (bva y)) w) from fun w => by rw [hy]; exact sector9_any w 1 0)
  have HW1 := Lib.hid (show (mw0.write 3 y).2 = mw1 by rw [hy]; rfl)
  rw [← hy] at HF1 HF4
  have heq := eq_sec y y HY3.out HY3.out
  rw [decide_eq_true (rfl : y = y)] at heq
  have HQ := Lib.hid heq
  clear heq hy
  go_enter Try.func23, Try.ntmps23
  go_wp2_with fail
  refine (live_new0 5).mono ?_
  rintro e w1 ⟨p1, g1, rfl, F1, h⟩
  have H1 := Lib.hid h
  clear h
  go_wp2_with fail
  refine (live_new0 5).mono ?_
  rintro e w2 ⟨p2, g2, rfl, F2, h⟩
  have HD2 := Lib.hid (ld_new H1.out h (see_new 5 (by omega)) (see_new 5 (by omega)))
  clear h H1
  go_wp2_with fail
  refine (lm_new (G := gG) (fun _ _ _ _ _ _ => trivial) HD2.out (n := 5) rfl rfl).mono ?_
  rintro e w3 ⟨g, s3, F3, rfl, h, hn, hb⟩
  have H3 := Lib.hid (show LM p1 g1 p2 g2 gG g w w3 s3 F3 mw0 0 from h)
  clear h hn hb HD2
  go_wp2_with fail
  have hc := HSY.out w3
  refine hc.mono ?_
  clear hc
  rintro e w4 ⟨rfl, bw⟩
  have H4 := Lib.hid (H3.out.below bw)
  clear bw H3
  go_wp2_with fail
  have hc := lm_write H4.out 3 y HY3.out (by omega)
  rw [HF1.out, HW1.out] at hc
  refine hc.mono ?_
  clear hc
  rintro e w5 ⟨rfl, s5, F5, h, hm5⟩
  have H5 := Lib.hid (show LM p1 g1 p2 g2 gG g w w5 s5 F5 mw1 (0 + 2) from h)
  clear h hm5 H4
  go_wp2_with fail
  have hc := lm_flush H5.out
  rw [HF2.out, if_neg (by simp)] at hc
  refine hc.mono ?_
  clear hc
  rintro e w6 ⟨rfl, s6, F6, h, hm6⟩
  have H6 := Lib.hid (show LM p1 g1 p2 g2 gG g w w6 s6 F6 mw1 0 from h)
  clear h hm6 H5
  go_wp2_with fail
  have hc := lm_rot0 H6.out 3 0 1
  rw [HF3.out] at hc
  refine hc.mono ?_
  clear hc
  rintro e w7 ⟨rfl, s7, F7, h, hm7⟩
  have H7 := Lib.hid (show LM p1 g1 p2 g2 gG g w w7 s7 F7 mw2 0 from h)
  clear h hm7 H6
  go_wp2_with fail
  have hc := lm_read H7.out 3
  rw [show Md.read gG.f mw2 3 = (y, 0) from HF4.out] at hc
  refine hc.mono ?_
  clear hc
  rintro e w8 ⟨rfl, s8, F8, h, hm8⟩
  have H8 := Lib.hid (show LM p1 g1 p2 g2 gG g w w8 s8 F8 mw2 0 from h)
  clear h hm8 H7
  go_wp2_with (show wpList _ _ _ ({ dst := none, op := .store 38 (.tmp 6) (.tmp 26), type := _, pos := _, after := _, guard := _ } :: _) _ _; apply Classical.byContradiction; intro hneg)
  refine hneg ?_
  clear hneg
  refine wpList_store_row rfl 38 (.tmp 6) (.tmp 26) rfl w8.heap.size (bva y) rfl rfl 38 (bva z) (heap_alloc_new _ _) HIY.out (by rw [bva_size, bva_size, HY3.out, HZ3.out]) (bva_one _) ?_
  obtain ⟨w9, hw9⟩ : ∃ w9, w9 = (w8.alloc (.cells (bva z) 38)).setRow w8.heap.size (bva y) := ⟨_, rfl⟩
  have bw : Below w8.heap.size w8 w9 := by rw [hw9]; exact below_setRow ((Below.refl _ _).alloc (Nat.le_refl _) _) (Nat.le_refl _) _
  have hbx : Blk w9 w8.heap.size (bva y) 38 := by rw [hw9]; exact setRow_heap _ _ _ _ _ _ (heap_alloc_new _ _)
  rw [← hw9]
  clear hw9
  obtain ⟨b9, hb9⟩ : ∃ b9, b9 = w8.heap.size := ⟨_, rfl⟩
  rw [← hb9] at hbx
  rw [← hb9]
  have BX9 := Lib.hid (show Bx w w9 F8 b9 (bva y) 38 from ⟨hbx, by rw [hb9]; exact H8.out.live.bel.size, fun hf => by have := (ML (Two p1 g1 p2 g2) gG g).lt H8.out.live.at_ _ hf; omega⟩)
  clear hb9 hbx
  have H9 := Lib.hid (H8.out.below bw)
  clear bw H8
  go_wp2_with fail
  have hc := lm_heal H9.out 3 (by omega)
  rw [show (Md.heal gG.f mw2 3).1 = (1, 0) from HF5.out, show tup2 (1, 0) = .tuple #[.int .i64 1, .int .i64 0] from rfl] at hc
  refine hc.mono ?_
  clear hc
  rintro e w10 ⟨rfl, s10, F10, h, hm10⟩
  have H10 := Lib.hid (show LM p1 g1 p2 g2 gG g w w10 s10 F10 mw3 (0 + 1) from h)
  have BX10 := Lib.hid (BX9.out.step hm10)
  clear h hm10 H9 BX9
  go_wp2_with fail
  refine wp_region_held_drew (S := fun w' => Below w10.heap.size w10 w') (by kernel_rfl) (Below.refl _ _).drew (fun hh => ?_)
  have HH := Lib.hid hh
  clear hh
  refine wpAnyH_take (i := 0) (v := ?vA0) rfl (by kernel_rfl) (by kernel_rfl) (by kernel_rfl) (fun _ _ _ h => h) (Or.inl ⟨by rfl, fun w' _ => ?yA0⟩) HH.out ?_
  case yA0 => (go_simp; try with_reducible rfl)
  refine wpAnyH_take (i := 1) (v := ?vA1) rfl (by kernel_rfl) (by kernel_rfl) (by kernel_rfl) (fun _ _ _ h => h) (Or.inl ⟨by rfl, fun w' _ => ?yA1⟩) HH.out ?_
  case yA1 => (go_simp; try with_reducible rfl)
  try simp only [List.getElem_toArray, List.getElem_cons_succ, List.getElem_cons_zero, Act.put, List.setIfInBounds_toArray, List.set_cons_zero, List.set_cons_succ]
  refine wpAnyH_take (i := 2) (v := ?vA2) rfl (by kernel_rfl) (by kernel_rfl) (by kernel_rfl) (fun _ _ _ h => h) (Or.inl ⟨by rfl, fun w' _ => ?yA2⟩) HH.out ?_
  case yA2 => (go_simp; try with_reducible rfl)
  try simp only [List.getElem_toArray, List.getElem_cons_succ, List.getElem_cons_zero, Act.put, List.setIfInBounds_toArray, List.set_cons_zero, List.set_cons_succ]
  refine wpAnyH_take (i := 3) (v := ?vA3) rfl (by kernel_rfl) (by kernel_rfl) (by kernel_rfl) (fun _ _ _ h => h) (Or.inl ⟨by rfl, fun w' _ => ?yA3⟩) HH.out ?_
  case yA3 => (go_simp; try with_reducible rfl)
  try simp only [List.getElem_toArray, List.getElem_cons_succ, List.getElem_cons_zero, Act.put, List.setIfInBounds_toArray, List.set_cons_zero, List.set_cons_succ]
  refine wpAnyH_take (i := 4) (v := ?vA4) rfl (by kernel_rfl) (by kernel_rfl) (by kernel_rfl) (fun _ _ _ h => h) (Or.inl ⟨by rfl, fun w' _ => ?yA4⟩) HH.out ?_
  case yA4 => (go_simp; try with_reducible rfl)
  try simp only [List.getElem_toArray, List.getElem_cons_succ, List.getElem_cons_zero, Act.put, List.setIfInBounds_toArray, List.set_cons_zero, List.set_cons_succ]
  refine wpAnyH_take (i := 5) (v := ?vA5) rfl (by kernel_rfl) (by kernel_rfl) (by kernel_rfl) (fun _ _ _ h => h) (Or.inl ⟨by rfl, fun w' _ => ?yA5⟩) HH.out ?_
  case yA5 => (go_simp; try with_reducible rfl)
  refine wpAnyH_take (i := 6) (v := ?vA6) rfl (by kernel_rfl) (by kernel_rfl) (by kernel_rfl) (fun _ _ _ h => h) (Or.inl ⟨by rfl, fun w' _ => ?yA6⟩) HH.out ?_
  case yA6 => (go_simp; try with_reducible rfl)
  try simp only [List.getElem_toArray, List.getElem_cons_succ, List.getElem_cons_zero, Act.put, List.setIfInBounds_toArray, List.set_cons_zero, List.set_cons_succ]
  refine wpAnyH_take (i := 7) (v := ?vA7) rfl (by kernel_rfl) (by kernel_rfl) (by kernel_rfl) (fun _ _ _ h => h) (Or.inl ⟨by rfl, fun w' _ => ?yA7⟩) HH.out ?_
  case yA7 => (go_simp; try with_reducible rfl)
  try simp only [List.getElem_toArray, List.getElem_cons_succ, List.getElem_cons_zero, Act.put, List.setIfInBounds_toArray, List.set_cons_zero, List.set_cons_succ]
  refine wpAnyH_take (i := 8) (v := ?vA8) rfl (by kernel_rfl) (by kernel_rfl) (by kernel_rfl) (fun _ _ _ h => h) (Or.inl ⟨by rfl, fun w' _ => ?yA8⟩) HH.out ?_
  case yA8 => (go_simp; try with_reducible rfl)
  refine wpAnyH_take (i := 9) (v := ?vA9) rfl (by kernel_rfl) (by kernel_rfl) (by kernel_rfl) (fun _ _ _ h => h) (Or.inl ⟨by rfl, fun w' _ => ?yA9⟩) HH.out ?_
  case yA9 => (go_simp; try with_reducible rfl)
  refine wpAnyH_take (i := 10) (v := ?vA10) rfl (by kernel_rfl) (by kernel_rfl) (by kernel_rfl) (fun _ _ _ h => h) (Or.inl ⟨by rfl, fun w' _ => ?yA10⟩) HH.out ?_
  case yA10 => (go_simp; try with_reducible rfl)
  try simp only [List.getElem_toArray, List.getElem_cons_succ, List.getElem_cons_zero, Act.put, List.setIfInBounds_toArray, List.set_cons_zero, List.set_cons_succ]
  refine wpAnyH_take (i := 11) (v := ?vA11) rfl (by kernel_rfl) (by kernel_rfl) (by kernel_rfl) (fun _ _ _ h => h) (Or.inl ⟨by rfl, fun w' _ => ?yA11⟩) HH.out ?_
  case yA11 => (go_simp; try with_reducible rfl)
  try simp only [List.getElem_toArray, List.getElem_cons_succ, List.getElem_cons_zero, Act.put, List.setIfInBounds_toArray, List.set_cons_zero, List.set_cons_succ]
  refine wpAnyH_take (i := 12) (v := ?vA12) rfl (by kernel_rfl) (by kernel_rfl) (by kernel_rfl) (fun _ _ _ h => h) (Or.inl ⟨by rfl, fun w' _ => ?yA12⟩) HH.out ?_
  case yA12 => (go_simp; try with_reducible rfl)
  refine wpAnyH_take (i := 13) (v := ?vA13) rfl (by kernel_rfl) (by kernel_rfl) (by kernel_rfl) (fun _ _ _ h => h) (Or.inl ⟨by rfl, fun w' _ => ?yA13⟩) HH.out ?_
  case yA13 => (go_simp; try with_reducible rfl)
  try simp only [List.getElem_toArray, List.getElem_cons_succ, List.getElem_cons_zero, Act.put, List.setIfInBounds_toArray, List.set_cons_zero, List.set_cons_succ]
  refine wpAnyH_take (i := 14) (v := ?vA14) rfl (by kernel_rfl) (by kernel_rfl) (by kernel_rfl) (fun _ _ _ h => h) (Or.inl ⟨by rfl, fun w' _ => ?yA14⟩) HH.out ?_
  case yA14 => (go_simp; try with_reducible rfl)
  refine wpAnyH_take (i := 15) (v := .agg (bva y)) rfl (by kernel_rfl) (by kernel_rfl) (by kernel_rfl) (fun _ _ _ h => h) (Or.inl ⟨by rfl, fun w' hw' => ?yA15⟩) HH.out ?_
  case yA15 => exact exec_load 38 (.tmp 6) rfl rfl (BX10.out.1.below hw') Try.underlying38 rfl HIY.out
  try simp only [List.getElem_toArray, List.getElem_cons_succ, List.getElem_cons_zero, Act.put, List.setIfInBounds_toArray, List.set_cons_zero, List.set_cons_succ]
  refine wpAnyH_ready (rs := [16]) (by kernel_rfl) (by simp) (AllReadyH.cons rfl (fun K hK => ?_) AllReadyH.nil)
  go_simp
  refine (HSY.out _).mono ?_
  rintro e v1 ⟨rfl, bw1⟩
  go_simp
  refine hK.out _ _ (HH.out.trans (bw1.mono HH.out.size)) (fun hh => ?_)
  have HH' := Lib.hid hh
  clear hh hK K HH bw1
  have HH := Lib.hid HH'.out
  clear HH'
  try simp only [List.getElem_toArray, List.getElem_cons_succ, List.getElem_cons_zero, Act.put, List.setIfInBounds_toArray, List.set_cons_zero, List.set_cons_succ]
  refine wpAnyH_take (i := 17) (v := .bool true) rfl (by kernel_rfl) (by kernel_rfl) (by kernel_rfl) (fun _ _ _ h => h) (Or.inl ⟨by rfl, fun w' hw' => ?yA17⟩) HH.out ?_
  case yA17 => (go_simp; rw [HQ.out]; rfl)
  refine wpAnyH_take (i := 18) (v := ?vA18) rfl (by kernel_rfl) (by kernel_rfl) (by kernel_rfl) (fun _ _ _ h => h) (Or.inl ⟨by rfl, fun w' _ => ?yA18⟩) HH.out ?_
  case yA18 => (go_simp; try with_reducible rfl)
  refine wpAnyH_take (i := 19) (v := ?vA19) rfl (by kernel_rfl) (by kernel_rfl) (by kernel_rfl) (fun _ _ _ h => h) (Or.inl ⟨by rfl, fun w' _ => ?yA19⟩) HH.out ?_
  case yA19 => (go_simp; try with_reducible rfl)
  try simp only [List.getElem_toArray, List.getElem_cons_succ, List.getElem_cons_zero, Act.put, List.setIfInBounds_toArray, List.set_cons_zero, List.set_cons_succ]
  refine wpAnyH_take (i := 20) (v := ?vA20) rfl (by kernel_rfl) (by kernel_rfl) (by kernel_rfl) (fun _ _ _ h => h) (Or.inl ⟨by rfl, fun w' _ => ?yA20⟩) HH.out ?_
  case yA20 => (go_simp; try with_reducible rfl)
  try simp only [List.getElem_toArray, List.getElem_cons_succ, List.getElem_cons_zero, Act.put, List.setIfInBounds_toArray, List.set_cons_zero, List.set_cons_succ]
  refine wpAnyH_take (i := 21) (v := ?vA21) rfl (by kernel_rfl) (by kernel_rfl) (by kernel_rfl) (fun _ _ _ h => h) (Or.inl ⟨by rfl, fun w' _ => ?yA21⟩) HH.out ?_
  case yA21 => (go_simp; try with_reducible rfl)
  refine wpAnyH_take (i := 22) (v := ?vA22) rfl (by kernel_rfl) (by kernel_rfl) (by kernel_rfl) (fun _ _ _ h => h) (Or.inl ⟨by rfl, fun w' _ => ?yA22⟩) HH.out ?_
  case yA22 => (go_simp; try with_reducible rfl)
  try simp only [List.getElem_toArray, List.getElem_cons_succ, List.getElem_cons_zero, Act.put, List.setIfInBounds_toArray, List.set_cons_zero, List.set_cons_succ]
  refine wpAnyH_take (i := 23) (v := ?vA23) rfl (by kernel_rfl) (by kernel_rfl) (by kernel_rfl) (fun _ _ _ h => h) (Or.inl ⟨by rfl, fun w' _ => ?yA23⟩) HH.out ?_
  case yA23 => (go_simp; try with_reducible rfl)
  try simp only [List.getElem_toArray, List.getElem_cons_succ, List.getElem_cons_zero, Act.put, List.setIfInBounds_toArray, List.set_cons_zero]
  refine wpAnyH_done (by kernel_rfl) ?_ _
  go_wp2_with fail
  go_ret
  exact ⟨rfl, H10.out.live.bel.trans (HH.out.mono H10.out.live.bel.size)⟩
end Go.Proofs.Ytfofkjcdohmkpaa.Mi
/-
  How a mirror's states go on: a write, a reading, one place that catches up. The states of the law MirrorMisses. No program.
-/
namespace Go.Proofs.Ytfofkjcdohmkpaa.Mi
open Kd
section
variable {x : Md} {f : Int → List UInt8 → Bool} {k : Nat}
theorem has_in (hk : k < x.a.length) : x.has (k : Int) = true := by
  rw [Md.has, decide_eq_true (by omega : (0 : Int) ≤ (k : Int)), decide_eq_true (by omega : (k : Int) < x.a.length)]; rfl
theorem write_eq (hk : k < x.a.length) (ho : (x.o0 && x.o1) = false) (y : List UInt8) : x.write (k : Int) y = (0, ⟨if x.o0 then x.l0 else x.l0.set k y, if x.o1 then x.l1 else x.l1.set k y, x.o0, x.o1, x.a.set k x.o0, x.b.set k x.o1⟩) := by
  rw [Md.write, has_in hk, if_pos rfl, ho, if_neg (by simp), Int.toNat_natCast]
  obtain ⟨l0, l1, o0, o1, a, b⟩ := x
  cases o0 <;> cases o1 <;> rfl
theorem read_eq (hk : k < x.a.length) : x.read f (k : Int) = if x.right f 0 k then (x.l0.getD k zeroS, 0) else if x.right f 1 k then (x.l1.getD k zeroS, 0) else (zeroS, if x.o0 && x.o1 then 13 else 9) := by
  rw [Md.read, has_in hk, if_pos rfl, Int.toNat_natCast]
theorem getD_set_eq {α : Type} {l : List α} {k : Nat} (hk : k < l.length) (v d : α) : (l.set k v).getD k d = v := by
  rw [List.getD_eq_getElem?_getD, List.getElem?_set_self hk]; rfl
theorem getD_set_ne {α : Type} {l : List α} {k j : Nat} (h : j ≠ k) (v d : α) : (l.set k v).getD j d = l.getD j d := by
  rw [List.getD_eq_getElem?_getD, List.getD_eq_getElem?_getD, List.getElem?_set_ne (fun e => h e.symm)]
theorem catch1_none {i : Nat} (h : (x.st i).getD k false = false) : x.catch1 f i k = x := by rw [Md.catch1, h, Bool.false_and, if_neg (by simp)]
theorem mend_st {i j : Nat} {y : List UInt8} (h : j ≠ k) : ((x.mend i k y).st i).getD j false = (x.st i).getD j false := by
  rw [Md.mend, Md.put, Md.setL]
  by_cases hi : i = 0
  · rw [if_pos hi, if_pos hi, Md.st, Md.st, if_pos hi, if_pos hi]; exact getD_set_ne h _ _
  · rw [if_neg hi, if_neg hi, Md.st, Md.st, if_neg hi, if_neg hi]; exact getD_set_ne h _ _
theorem catch1_st {i j : Nat} (h : j ≠ k) : ((x.catch1 f i k).st i).getD j false = (x.st i).getD j false := by
  rw [Md.catch1]; split
  · exact mend_st h
  · rfl
theorem catchTo_zero {i : Nat} : ∀ n, (∀ j, j < n → (x.st i).getD j false = false) → x.catchTo f i n = x
  | 0, _ => rfl
  | n + 1, h => by rw [Md.catchTo, catchTo_zero n (fun j hj => h j (by omega)), catch1_none (h n (by omega))]
theorem catchTo_one {i : Nat} : ∀ n, (∀ j, j < n → j ≠ k → (x.st i).getD j false = false) → x.catchTo f i n = if k < n then x.catch1 f i k else x
  | 0, _ => by rw [if_neg (by omega)]; rfl
  | n + 1, h => by
    rw [Md.catchTo, catchTo_one n (fun j hj hne => h j (by omega) hne)]
    by_cases h1 : k < n
    · rw [if_pos h1, if_pos (by omega)]
      exact catch1_none (by rw [catch1_st (by omega)]; exact h n (by omega) (by omega))
    · rw [if_neg h1]
      by_cases h2 : k = n
      · subst h2; rw [if_pos (by omega)]
      · rw [if_neg (by omega)]; exact catch1_none (h n (by omega) (by omega))
end
theorem rep_set (n k : Nat) (v : Bool) : (List.replicate n v).set k v = List.replicate n v := by
  apply List.ext_getElem?
  intro j
  rw [List.getElem?_set]
  split
  · rename_i h; subst h
    split
    · rename_i h; rw [List.length_replicate] at h; rw [List.getElem?_replicate, if_pos h]
    · rename_i h; rw [List.getElem?_eq_none (by omega)]
  · rfl
theorem cnt_one : ∀ k, k < 6 → cnt ((List.replicate 6 false).set k true) = 1 := by decide
theorem cnt_none : cnt (List.replicate 6 false) = 0 := by decide
theorem f6_len : (List.replicate 6 false).length = 6 := rfl
theorem z6_len : (List.replicate 6 zeroS).length = 6 := rfl
theorem miss {k : Nat} (hk : k < 6) {s t : List UInt8} (ht : goodN k t = true) :
    ∃ x1 x3 x6 : Md, (Md.new 6).write k s = (0, x1) ∧ x1.o0 = false ∧ x1.o1 = false ∧ (x1.out 0 true).write k t = (0, x3) ∧ x3.o0 = true ∧ x3.o1 = false ∧
      (x3.out 0 false).read goodN k = (t, 0) ∧ cnt (x3.out 0 false).a = 1 ∧ cnt (x3.out 0 false).b = 0 ∧ (((x3.out 0 false).out 1 true).read goodN k).2 = 9 ∧ (((x3.out 0 false).out 1 true).read goodN k).1 = zeroS ∧ (((x3.out 0 false).out 1 true).out 1 false).sync goodN = (0, x6) ∧ (x6.out 1 true).read goodN k = (t, 0) ∧ (((x3.out 0 false).out 1 true).out 1 false).a.length = 6 := by
  obtain ⟨L, hL⟩ : ∃ L, L = (List.replicate 6 zeroS).set k s := ⟨_, rfl⟩
  have hLl : L.length = 6 := by rw [hL, List.length_set]; rfl
  obtain ⟨A, hA⟩ : ∃ A, A = (List.replicate 6 false).set k true := ⟨_, rfl⟩
  have hAl : A.length = 6 := by rw [hA, List.length_set]; rfl
  have e1 : (Md.new 6).write k s = (0, ⟨L, L, false, false, List.replicate 6 false, List.replicate 6 false⟩) := by
    rw [write_eq (x := Md.new 6) hk rfl]
    show (0, (⟨(List.replicate 6 zeroS).set k s, (List.replicate 6 zeroS).set k s, false, false, (List.replicate 6 false).set k false, (List.replicate 6 false).set k false⟩ : Md)) = _
    rw [rep_set, ← hL]
  have e3 : ((⟨L, L, false, false, List.replicate 6 false, List.replicate 6 false⟩ : Md).out 0 true).write k t = (0, ⟨L, L.set k t, true, false, A, List.replicate 6 false⟩) := by
    rw [write_eq (x := (⟨L, L, false, false, List.replicate 6 false, List.replicate 6 false⟩ : Md).out 0 true) hk rfl]
    show (0, (⟨L, L.set k t, true, false, (List.replicate 6 false).set k true, (List.replicate 6 false).set k false⟩ : Md)) = _
    rw [rep_set, ← hA]
  have hAk : A.getD k false = true := by rw [hA]; exact getD_set_eq hk _ _
  have hfk : (List.replicate 6 false).getD k false = false := by rw [List.getD_eq_getElem?_getD, List.getElem?_replicate, if_pos hk]; rfl
  have hTk : (L.set k t).getD k zeroS = t := getD_set_eq (by rw [hLl]; exact hk) _ _
  have r4 : (⟨L, L.set k t, false, false, A, List.replicate 6 false⟩ : Md).read goodN k = (t, 0) := by
    rw [read_eq (x := ⟨L, L.set k t, false, false, A, List.replicate 6 false⟩) (by show k < A.length; rw [hAl]; exact hk)]
    have h0 : (⟨L, L.set k t, false, false, A, List.replicate 6 false⟩ : Md).right goodN 0 k = false := by show (!(A.getD k false) && _) = false; rw [hAk]; rfl
    have h1 : (⟨L, L.set k t, false, false, A, List.replicate 6 false⟩ : Md).right goodN 1 k = true := by show (!((List.replicate 6 false).getD k false) && (true && goodN k ((L.set k t).getD k zeroS))) = true; rw [hfk, hTk, ht]; rfl
    rw [h0, h1]
    show ((L.set k t).getD k zeroS, (0 : Int)) = _
    rw [hTk]
  have r5 : (⟨L, L.set k t, false, true, A, List.replicate 6 false⟩ : Md).read goodN k = (zeroS, 9) := by
    rw [read_eq (x := ⟨L, L.set k t, false, true, A, List.replicate 6 false⟩) (by show k < A.length; rw [hAl]; exact hk)]
    have h0 : (⟨L, L.set k t, false, true, A, List.replicate 6 false⟩ : Md).right goodN 0 k = false := by show (!(A.getD k false) && _) = false; rw [hAk]; rfl
    have h1 : (⟨L, L.set k t, false, true, A, List.replicate 6 false⟩ : Md).right goodN 1 k = false := by show (!((List.replicate 6 false).getD k false) && (false && _)) = false; rw [Bool.false_and, Bool.and_false]
    rw [h0, h1]; rfl
  have hAj : ∀ j, j < 6 → j ≠ k → A.getD j false = false := fun j hj hne => by
    rw [hA, getD_set_ne hne, List.getD_eq_getElem?_getD, List.getElem?_replicate, if_pos hj]; rfl
  have e6 : (⟨L, L.set k t, false, false, A, List.replicate 6 false⟩ : Md).sync goodN = (0, ⟨L.set k t, L.set k t, false, false, List.replicate 6 false, List.replicate 6 false⟩) := by
    have hl : (⟨L, L.set k t, false, false, A, List.replicate 6 false⟩ : Md).a.length = 6 := hAl
    have c0 : (⟨L, L.set k t, false, false, A, List.replicate 6 false⟩ : Md).catchTo goodN 0 6 = ⟨L.set k t, L.set k t, false, false, List.replicate 6 false, List.replicate 6 false⟩ := by
      rw [catchTo_one (k := k) (i := 0) (x := ⟨L, L.set k t, false, false, A, List.replicate 6 false⟩) 6 (fun j hj hne => hAj j hj hne), if_pos hk, Md.catch1]
      have h1 : (⟨L, L.set k t, false, false, A, List.replicate 6 false⟩ : Md).right goodN (1 - 0) k = true := by show (!((List.replicate 6 false).getD k false) && (true && goodN k ((L.set k t).getD k zeroS))) = true; rw [hfk, hTk, ht]; rfl
      have h2 : ((⟨L, L.set k t, false, false, A, List.replicate 6 false⟩ : Md).st 0).getD k false = true := hAk
      rw [h1, h2, if_pos (show (true && true) = true from rfl)]
      show (⟨L.set k ((L.set k t).getD k zeroS), L.set k t, false, false, A.set k false, List.replicate 6 false⟩ : Md) = _
      rw [hTk, hA, List.set_set, rep_set]
    have c1 : (⟨L, L.set k t, false, false, A, List.replicate 6 false⟩ : Md).caught goodN = ⟨L.set k t, L.set k t, false, false, List.replicate 6 false, List.replicate 6 false⟩ := by
      rw [Md.caught, hl, c0]
      refine catchTo_zero 6 (fun j hj => ?_)
      show (List.replicate 6 false).getD j false = false
      rw [List.getD_eq_getElem?_getD, List.getElem?_replicate, if_pos hj]; rfl
    rw [Md.sync, c1]
    rfl
  have r7 : (⟨L.set k t, L.set k t, false, true, List.replicate 6 false, List.replicate 6 false⟩ : Md).read goodN k = (t, 0) := by
    rw [read_eq (x := ⟨L.set k t, L.set k t, false, true, List.replicate 6 false, List.replicate 6 false⟩) hk]
    have h0 : (⟨L.set k t, L.set k t, false, true, List.replicate 6 false, List.replicate 6 false⟩ : Md).right goodN 0 k = true := by show (!((List.replicate 6 false).getD k false) && (true && goodN k ((L.set k t).getD k zeroS))) = true; rw [hfk, hTk, ht]; rfl
    rw [h0]
    show ((L.set k t).getD k zeroS, (0 : Int)) = _
    rw [hTk]
  refine ⟨_, _, _, e1, rfl, rfl, e3, rfl, rfl, r4, ?_, cnt_none, ?_, ?_, e6, r7, hAl⟩
  · show cnt A = 1
    rw [hA]; exact cnt_one k hk
  · exact congrArg Prod.snd r5
  · exact congrArg Prod.fst r5
end Go.Proofs.Ytfofkjcdohmkpaa.Mi
/-
  How an array of numbers that came in by value is opened: its numbers, as a list.
-/
namespace Go.Proofs.Ytfofkjcdohmkpaa
open Go.RowKit Go.ChangeShapes Go.WideShapes

section
variable {H : Type} {enc : TypeId × Value → H} {P : Program} {w : World} {r : Reach} {b0 base : Nat} {spare : Nat → Bool} {held : Bool}

theorem open_arr {t e n : Nat} {k : IntKind} {v : Value} {d : DataW H} {ps : List MemPlace} (ht : P.underlying t = some (.array n e)) (he : P.underlying e = some (.int k)) (hc : P.cellsOf e = 1) (hn : P.cellsOf t = n)
    (hval : Value.okWide P w r b0 t v) (h : DataW.Trod enc P w base spare held t v d ps) :
    ∃ zs : List Int, zs.length = n ∧ v = .agg (zs.map (Value.int k)).toArray ∧ ∀ z ∈ zs, (Lit.int k z).wf = true := by
  obtain ⟨cs, rfl, hsz⟩ : ∃ cs, v = .agg cs ∧ cs.size = n := by
    have h1 := hval
    simp only [Value.okWide, ht] at h1
    obtain ⟨cs, e1, e2, _⟩ := h1
    exact ⟨cs, e1, by rw [e2, hn]⟩
  obtain ⟨fuel, hf⟩ := h
  obtain ⟨xs, m, _, _, hl, hx, hel⟩ := DataW.trod_array ht hf
  have each : ∀ i (hi : i < cs.size), ∃ z, cs[i] = .int k z ∧ (Lit.int k z).wf = true := by
    intro i hi
    have h1 := hel i (by omega)
    have hxi : i < xs.length := by omega
    rw [List.getElem?_eq_getElem hxi, hc, Nat.mul_one] at h1
    obtain ⟨z, e1, _, hw⟩ := DataW.trod_int he h1
    have e2 : ((Value.agg cs).cells.toList.drop i).take 1 = [cs[i]] := by
      show (cs.toList.drop i).take 1 = [cs[i]]
      rw [List.drop_eq_getElem_cons (by simpa using hi)]
      simp
    rw [e2] at e1
    injection e1 with e1
    exact ⟨z, e1, hw⟩
  refine ⟨cs.toList.map (fun v => match v with | .int _ z => z | _ => 0), by simpa using hsz, ?_, ?_⟩
  · congr 1
    apply Array.ext
    · simp
    · intro i h1 h2
      obtain ⟨z, hz, _⟩ := each i h1
      simp [hz]
  · intro z hz
    simp only [List.mem_map] at hz
    obtain ⟨v, hv, rfl⟩ := hz
    obtain ⟨i, hi, rfl⟩ := List.getElem_of_mem hv
    obtain ⟨z, hz, hw⟩ := each i (by simpa using hi)
    have : cs.toList[i] = .int k z := by simpa using hz
    rw [this]
    exact hw

theorem open_u32s {t e n : Nat} {v : Value} {d : DataW H} {ps : List MemPlace} (ht : P.underlying t = some (.array n e)) (he : P.underlying e = some (.int .u32)) (hc : P.cellsOf e = 1) (hn : P.cellsOf t = n)
    (hval : Value.okWide P w r b0 t v) (h : DataW.Trod enc P w base spare held t v d ps) : ∃ s : List UInt32, s.length = n ∧ v = .agg (uv s) := by
  obtain ⟨zs, hl, rfl, hw⟩ := open_arr ht he hc hn hval h
  refine ⟨zs.map fun z => UInt32.ofNat z.toNat, by simpa using hl, ?_⟩
  unfold uv
  rw [List.map_map]
  congr 2
  apply List.map_congr_left
  intro z hz
  have hb := bounds_u32 (hw z hz)
  simp only [Function.comp]
  exact int_eq (by rw [UInt32.toNat_ofNat']; omega)
theorem open_u8s {t e n : Nat} {v : Value} {d : DataW H} {ps : List MemPlace} (ht : P.underlying t = some (.array n e)) (he : P.underlying e = some (.int .u8)) (hc : P.cellsOf e = 1) (hn : P.cellsOf t = n)
    (hval : Value.okWide P w r b0 t v) (h : DataW.Trod enc P w base spare held t v d ps) : ∃ l : List UInt8, l.length = n ∧ v = .agg (bva l) := by
  obtain ⟨zs, hl, rfl, hw⟩ := open_arr ht he hc hn hval h
  refine ⟨zs.map fun z => UInt8.ofNat z.toNat, by simpa using hl, ?_⟩
  unfold bva bv
  rw [List.map_map]
  congr 2
  apply List.map_congr_left
  intro z hz
  have hb := bounds_u8 (hw z hz)
  simp only [Function.comp]
  exact int_eq (by rw [UInt8.toNat_ofNat']; omega)
end
end Go.Proofs.Ytfofkjcdohmkpaa
