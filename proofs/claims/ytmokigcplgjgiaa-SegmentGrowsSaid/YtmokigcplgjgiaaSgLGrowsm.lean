/-
  SegmentGrows holds: of any shape and any three bytes the law returns true.
-/
import Derived.Test.YtmokigcplgjgiaaSgAwake
import Derived.Test.YtmokigcplgjgiaaSgOpen
import Derived.Deep.RegionHeld
import Derived.Test.YtmokigcplgjgiaaRows
import Derived.Test.YtmokigcplgjgiaaOpen
import Derived.Test.YtmokigcplgjgiaaOpenA
import Derived.ProofKit
import Derived.OpenShut
import Derived.ShutString
import Derived.ChangeOld
namespace Go.Proofs.Ytmokigcplgjgiaa
open Go.RowKit Sg Go.ChangeShapes Go.WideShapes Go.ChangeAt
attribute [local go_sem ↓] Go.wp_at_zero Go.wp_at_succ
theorem most_let {a b m : Int} (hok : okS a b) (hm : m = (a - 2) * b) (W : World) : Calls Try.prog 16 #[.agg #[.int .i64 a, .int .i64 b]] W (RetB (.int .i64 m) W) := by
  rw [hm]; exact most_yes a b hok W
theorem sectors_let {a b m : Int} (hok : okS a b) (hm : m = 2 + a * b) (W : World) : Calls Try.prog 15 #[.agg #[.int .i64 a, .int .i64 b]] W (RetB (.int .i64 m) W) := by
  rw [hm]; exact sectors_yes a b hok W
theorem sector_let {a b i j n : Int} (hin : inS a b i j) (hn : n = 2 + i * b + j) (W : World) : Calls Try.prog 17 #[.agg #[.int .i64 a, .int .i64 b], .int .i64 i, .int .i64 j] W (RetB (.tuple #[.int .i64 n, .bool true]) W) := by
  rw [hn]; exact sector_yes a b i j hin W
theorem mod_in {a x : Int} (hx : 0 ≤ x) (ha : 0 < a) : 0 ≤ x.tmod a ∧ x.tmod a < a := by
  rw [Int.tmod_eq_emod_of_nonneg hx]; exact ⟨Int.emod_nonneg _ (by omega), Int.emod_lt_of_pos _ ha⟩
set_option maxRecDepth 100000 in
set_option maxHeartbeats 12800000 in
theorem segmentGrows_any (w : World) (a b : Int) (_ : Sg.i64B a) (_ : Sg.i64B b) (m : Int) (hm : 0 ≤ m ∧ m ≤ 255) (x : Int) (hx : 0 ≤ x ∧ x ≤ 255) (y : Int) (hy : 0 ≤ y ∧ y ≤ 255) : Calls Try.prog 10 #[.agg #[.int .i64 a, .int .i64 b], .int .u8 m, .int .u8 x, .int .u8 y] w (RetB (.bool true) w) := by
  obtain ⟨t, ht⟩ : ∃ z, z = IntKind.i64.wrap (a + m) := ⟨_, rfl⟩
  have z0 : wrap64 m = m := by unfold wrap64; omega
  have z3 : IntKind.i64.wrap (a + m) = t := ht.symm
  have HTT := Lib.hid ht
  clear ht
  have b1 : Blk (w.alloc (.cells #[.int .i64 a, .int .i64 b] 23)) w.heap.size #[.int .i64 a, .int .i64 b] 23 := heap_alloc_new _ _
  have bb : Below w.heap.size w (w.alloc (.cells #[.int .i64 a, .int .i64 b] 23)) := (Below.refl _ _).alloc (Nat.le_refl _) _
  have B1 := Lib.hid b1
  have BB := Lib.hid bb
  clear b1 bb
  by_cases hok : okS a b
  · skip
    by_cases hot : okS t b
    · skip
      have ho := hok
      unfold okS at ho
      have htt := HTT.out
      rw [IntWalk.i64_in _ (by omega)] at htt
      have ho2 := hot
      unfold okS at ho2
      obtain ⟨i, hi⟩ : ∃ z, z = x.tmod a := ⟨_, rfl⟩
      obtain ⟨j, hj⟩ : ∃ z, z = y.tmod b := ⟨_, rfl⟩
      have hi2 := mod_in hx.1 (show 0 < a by omega)
      have hj2 := mod_in hy.1 (show 0 < b by omega)
      rw [← hi] at hi2
      rw [← hj] at hj2
      have HIN := Lib.hid (show inS a b i j from ⟨hok, hi2, hj2⟩)
      have HI2 := Lib.hid (show inS t b i j from ⟨hot, ⟨hi2.1, by omega⟩, hj2⟩)
      have q1 : x.tmod a = i := hi.symm
      have q2 : y.tmod b = j := hj.symm
      have z1 : wrap64 x = x := by unfold wrap64; omega
      have z2 : wrap64 y = y := by unfold wrap64; omega
      have z5 : IntKind.i64.wrap m = m := IntWalk.i64_in _ (by omega)
      have na : a ≠ 0 := by omega
      have nb : b ≠ 0 := by omega
      obtain ⟨n, hn⟩ : ∃ z, z = 2 + i * b + j := ⟨_, rfl⟩
      obtain ⟨m1, hm1⟩ : ∃ x, x = (a - 2) * b := ⟨_, rfl⟩
      obtain ⟨m2, hm2⟩ : ∃ x, x = (t - 2) * b := ⟨_, rfl⟩
      obtain ⟨u, hu⟩ : ∃ x, x = m * b := ⟨_, rfl⟩
      have HN := Lib.hid hn
      have HM1 := Lib.hid hm1
      have HM2 := Lib.hid hm2
      have k1 : (t - 2) * b = (a - 2) * b + m * b := by rw [htt, ← Int.add_mul]; congr 1; omega
      have k2 : 0 ≤ m * b := Int.mul_nonneg hm.1 (by omega)
      have k3 : m * b ≤ 255 * 32 := Int.mul_le_mul hm.2 (by omega) (by omega) (by omega)
      have e1 : IntKind.i64.wrap (m * b) = u := by rw [IntWalk.i64_in _ (by omega)]; omega
      have e2 : IntKind.i64.wrap (m2 - m1) = u := by rw [IntWalk.i64_in _ (by omega)]; omega
      have d1 : decide (m1 ≤ m2) = true := decide_eq_true (by omega)
      clear ho ho2 htt hi hj hi2 hj2 hn hm1 hm2 hu k1 k2 k3 hx hy hm
      go_enter Try.func10, Try.ntmps10
      go_wp2_with fail
      obtain ⟨w2, hw2⟩ : ∃ x, x = (w.alloc (.cells #[.int .i64 a, .int .i64 b] 23)).alloc (.cells #[.int .i64 t, .int .i64 b] 23) := ⟨_, rfl⟩
      rw [← hw2]
      have bw : Below (w.alloc (.cells #[.int .i64 a, .int .i64 b] 23)).heap.size (w.alloc (.cells #[.int .i64 a, .int .i64 b] 23)) w2 := by rw [hw2]; exact (Below.refl _ _).alloc (Nat.le_refl _) _
      have bx : Blk w2 (w.heap.size + 1) #[.int .i64 t, .int .i64 b] 23 := by rw [hw2]; exact heap_alloc2_new _ _ _
      obtain ⟨g2, hg2⟩ : ∃ x, x = w.heap.size + 1 := ⟨_, rfl⟩
      rw [← hg2] at bx ⊢
      clear hw2
      have B1' := Lib.hid (B1.out.below bw)
      have BB' := Lib.hid (BB.out.trans (bw.mono BB.out.size))
      clear B1 BB bw
      have B1 := Lib.hid B1'.out
      have BB := Lib.hid BB'.out
      clear B1' BB'
      have B2 := Lib.hid bx
      clear bx hg2
      refine (Sg.awake_any _).mono ?_
      rintro e w3 ⟨rfl, bw⟩
      have B1' := Lib.hid (B1.out.below bw)
      have B2' := Lib.hid (B2.out.below bw)
      have BB' := Lib.hid (BB.out.trans (bw.mono BB.out.size))
      clear B1 B2 BB bw
      have B1 := Lib.hid B1'.out
      have B2 := Lib.hid B2'.out
      have BB := Lib.hid BB'.out
      clear B1' B2' BB'
      have c00 := B1.out.cell 0
      have c01 := B1.out.cell 1
      have c10 := B2.out.cell 0
      have c11 := B2.out.cell 1
      go_wp2_with fail
      clear c00 c01 c10 c11
      refine (Sg.check_yes a b hok _).mono ?_
      rintro e w4 ⟨rfl, bw⟩
      have B1' := Lib.hid (B1.out.below bw)
      have B2' := Lib.hid (B2.out.below bw)
      have BB' := Lib.hid (BB.out.trans (bw.mono BB.out.size))
      clear B1 B2 BB bw
      have B1 := Lib.hid B1'.out
      have B2 := Lib.hid B2'.out
      have BB := Lib.hid BB'.out
      clear B1' B2' BB'
      have c00 := B1.out.cell 0
      have c01 := B1.out.cell 1
      have c10 := B2.out.cell 0
      have c11 := B2.out.cell 1
      go_wp2_with fail
      clear c00 c01 c10 c11
      refine (Sg.check_yes t b hot _).mono ?_
      rintro e w5 ⟨rfl, bw⟩
      have B1' := Lib.hid (B1.out.below bw)
      have B2' := Lib.hid (B2.out.below bw)
      have BB' := Lib.hid (BB.out.trans (bw.mono BB.out.size))
      clear B1 B2 BB bw
      have B1 := Lib.hid B1'.out
      have B2 := Lib.hid B2'.out
      have BB := Lib.hid BB'.out
      clear B1' B2' BB'
      have c00 := B1.out.cell 0
      have c01 := B1.out.cell 1
      go_wp2_with fail
      go_quiet (fail)
      clear c00 c01
      have B1' := Lib.hid (B1.out.drewN nq)
      have B2' := Lib.hid (B2.out.drewN nq)
      have BB' := Lib.hid (below_drewN' BB.out nq)
      obtain ⟨wq, hwq⟩ : ∃ z, z = w5.drewN nq := ⟨_, rfl⟩
      rw [← hwq] at B1' B2' BB' ⊢
      clear hwq B1 B2 BB
      have B1 := Lib.hid B1'.out
      have B2 := Lib.hid B2'.out
      have BB := Lib.hid BB'.out
      clear B1' B2' BB'
      have c00 := B1.out.cell 0
      have c01 := B1.out.cell 1
      have c10 := B2.out.cell 0
      have c11 := B2.out.cell 1
      go_wp2_with fail
      clear c00 c01 c10 c11
      refine (sector_let HIN.out HN.out _).mono ?_
      rintro e w6 ⟨rfl, bw⟩
      have B1' := Lib.hid (B1.out.below bw)
      have B2' := Lib.hid (B2.out.below bw)
      have BB' := Lib.hid (BB.out.trans (bw.mono BB.out.size))
      clear B1 B2 BB bw
      have B1 := Lib.hid B1'.out
      have B2 := Lib.hid B2'.out
      have BB := Lib.hid BB'.out
      clear B1' B2' BB'
      have c00 := B1.out.cell 0
      have c01 := B1.out.cell 1
      have c10 := B2.out.cell 0
      have c11 := B2.out.cell 1
      go_wp2_with fail
      clear c00 c01 c10 c11
      refine (sector_let HI2.out HN.out _).mono ?_
      rintro e w7 ⟨rfl, bw⟩
      have B1' := Lib.hid (B1.out.below bw)
      have B2' := Lib.hid (B2.out.below bw)
      have BB' := Lib.hid (BB.out.trans (bw.mono BB.out.size))
      clear B1 B2 BB bw
      have B1 := Lib.hid B1'.out
      have B2 := Lib.hid B2'.out
      have BB := Lib.hid BB'.out
      clear B1' B2' BB'
      have c00 := B1.out.cell 0
      have c01 := B1.out.cell 1
      have c10 := B2.out.cell 0
      have c11 := B2.out.cell 1
      go_wp2_with fail
      clear c00 c01 c10 c11
      refine wp_region_held_drew (S := (fun w' => Blk w' w.heap.size #[.int .i64 a, .int .i64 b] 23 ∧ Blk w' g2 #[.int .i64 t, .int .i64 b] 23 ∧ Below w.heap.size w w')) (by kernel_rfl) ⟨(show Blk (World.drew _) _ _ _ from B1.out), (show Blk (World.drew _) _ _ _ from B2.out), BB.out.drew⟩ (fun hh => ?_)
      have HH := Lib.hid hh
      clear hh
      refine wpAnyH_take (i := 0) (v := ?vR10) rfl (by kernel_rfl) (by kernel_rfl) (by kernel_rfl) (fun _ _ _ h => h) (Or.inl ⟨by rfl, fun w' _ => ?yR10⟩) HH.out ?_
      case yR10 => (go_simp; try with_reducible rfl)
      refine wpAnyH_take (i := 1) (v := ?vR11) rfl (by kernel_rfl) (by kernel_rfl) (by kernel_rfl) (fun _ _ _ h => h) (Or.inl ⟨by rfl, fun w' _ => ?yR11⟩) HH.out ?_
      case yR11 => (go_simp; try with_reducible rfl)
      try simp only [List.getElem_toArray, List.getElem_cons_succ, List.getElem_cons_zero, Act.put, List.setIfInBounds_toArray, List.set_cons_zero, List.set_cons_succ]
      refine wpAnyH_take (i := 2) (v := ?vR12) rfl (by kernel_rfl) (by kernel_rfl) (by kernel_rfl) (fun _ _ _ h => h) (Or.inl ⟨by rfl, fun w' _ => ?yR12⟩) HH.out ?_
      case yR12 => (go_simp; try with_reducible rfl)
      refine wpAnyH_take (i := 3) (v := ?vR13) rfl (by kernel_rfl) (by kernel_rfl) (by kernel_rfl) (fun _ _ _ h => h) (Or.inl ⟨by rfl, fun w' _ => ?yR13⟩) HH.out ?_
      case yR13 => (go_simp; try with_reducible rfl)
      refine wpAnyH_take (i := 4) (v := ?vR14) rfl (by kernel_rfl) (by kernel_rfl) (by kernel_rfl) (fun _ _ _ h => h) (Or.inl ⟨by rfl, fun w' _ => ?yR14⟩) HH.out ?_
      case yR14 => (go_simp; try with_reducible rfl)
      try simp only [List.getElem_toArray, List.getElem_cons_succ, List.getElem_cons_zero, Act.put, List.setIfInBounds_toArray, List.set_cons_zero, List.set_cons_succ]
      refine wpAnyH_take (i := 5) (v := ?vR15) rfl (by kernel_rfl) (by kernel_rfl) (by kernel_rfl) (fun _ _ _ h => h) (Or.inl ⟨by rfl, fun w' _ => ?yR15⟩) HH.out ?_
      case yR15 => (go_simp; try with_reducible rfl)
      try simp only [List.getElem_toArray, List.getElem_cons_succ, List.getElem_cons_zero, Act.put, List.setIfInBounds_toArray, List.set_cons_zero, List.set_cons_succ]
      refine wpAnyH_take (i := 6) (v := ?vR16) rfl (by kernel_rfl) (by kernel_rfl) (by kernel_rfl) (fun _ _ _ h => h) (Or.inl ⟨by rfl, fun w' _ => ?yR16⟩) HH.out ?_
      case yR16 => (go_simp; try with_reducible rfl)
      try simp only [List.getElem_toArray, List.getElem_cons_succ, List.getElem_cons_zero, Act.put, List.setIfInBounds_toArray, List.set_cons_zero, List.set_cons_succ]
      refine wpAnyH_take (i := 7) (v := ?vR17) rfl (by kernel_rfl) (by kernel_rfl) (by kernel_rfl) (fun _ _ _ h => h) (Or.inl ⟨by rfl, fun w' _ => ?yR17⟩) HH.out ?_
      case yR17 => (go_simp; try with_reducible rfl)
      try simp only [List.getElem_toArray, List.getElem_cons_succ, List.getElem_cons_zero, Act.put, List.setIfInBounds_toArray, List.set_cons_zero, List.set_cons_succ]
      refine wpAnyH_take (i := 8) (v := ?vR18) rfl (by kernel_rfl) (by kernel_rfl) (by kernel_rfl) (fun _ _ _ h => h) (Or.inl ⟨by rfl, fun w' _ => ?yR18⟩) HH.out ?_
      case yR18 => (go_simp; try with_reducible rfl)
      refine wpAnyH_take (i := 9) (v := ?vR19) rfl (by kernel_rfl) (by kernel_rfl) (by kernel_rfl) (fun _ _ _ h => h) (Or.inl ⟨by rfl, fun w' _ => ?yR19⟩) HH.out ?_
      case yR19 => (go_simp; try with_reducible rfl)
      refine wpAnyH_take (i := 10) (v := .agg #[.int .i64 t, .int .i64 b]) rfl (by kernel_rfl) (by kernel_rfl) (by kernel_rfl) (fun _ _ _ h => h) (Or.inl ⟨by rfl, fun w' hw' => ?yR110⟩) HH.out ?_
      case yR110 => exact exec_load 23 (.tmp 9) rfl rfl hw'.2.1 Try.underlying23 rfl rfl
      try simp only [List.getElem_toArray, List.getElem_cons_succ, List.getElem_cons_zero, Act.put, List.setIfInBounds_toArray, List.set_cons_zero, List.set_cons_succ]
      refine wpAnyH_take (i := 12) (v := .agg #[.int .i64 a, .int .i64 b]) rfl (by kernel_rfl) (by kernel_rfl) (by kernel_rfl) (fun _ _ _ h => h) (Or.inl ⟨by rfl, fun w' hw' => ?yR112⟩) HH.out ?_
      case yR112 => exact exec_load 23 (.tmp 4) rfl rfl hw'.1 Try.underlying23 rfl rfl
      try simp only [List.getElem_toArray, List.getElem_cons_succ, List.getElem_cons_zero, Act.put, List.setIfInBounds_toArray, List.set_cons_zero, List.set_cons_succ]
      refine wpAnyH_ready (rs := [11]) (by kernel_rfl) (by simp) (AllReadyH.cons rfl (fun K hK => ?_) AllReadyH.nil)
      rw [if_pos (by rfl)]
      go_simp
      refine (most_let hot HM2.out _).mono ?_
      rintro e w9111 ⟨rfl, bw⟩
      go_simp
      refine hK.out _ _ ⟨HH.out.1.below bw, HH.out.2.1.below bw, HH.out.2.2.trans (bw.mono HH.out.2.2.size)⟩ (fun hh => ?_)
      have HH' := Lib.hid hh
      clear hh hK K HH bw
      have HH := Lib.hid HH'.out
      clear HH'
      try simp only [List.getElem_toArray, List.getElem_cons_succ, List.getElem_cons_zero, Act.put, List.setIfInBounds_toArray, List.set_cons_zero, List.set_cons_succ]
      refine wpAnyH_ready (rs := [13]) (by kernel_rfl) (by simp) (AllReadyH.cons rfl (fun K hK => ?_) AllReadyH.nil)
      rw [if_pos (by rfl)]
      go_simp
      refine (most_let hok HM1.out _).mono ?_
      rintro e w9113 ⟨rfl, bw⟩
      go_simp
      refine hK.out _ _ ⟨HH.out.1.below bw, HH.out.2.1.below bw, HH.out.2.2.trans (bw.mono HH.out.2.2.size)⟩ (fun hh => ?_)
      have HH' := Lib.hid hh
      clear hh hK K HH bw
      have HH := Lib.hid HH'.out
      clear HH'
      try simp only [List.getElem_toArray, List.getElem_cons_succ, List.getElem_cons_zero, Act.put, List.setIfInBounds_toArray, List.set_cons_zero, List.set_cons_succ]
      refine wpAnyH_take (i := 14) (v := ?vR114) rfl (by kernel_rfl) (by kernel_rfl) (by kernel_rfl) (fun _ _ _ h => h) (Or.inl ⟨by rfl, fun w' _ => ?yR114⟩) HH.out ?_
      case yR114 => (go_simp; try with_reducible rfl)
      refine wpAnyH_take (i := 15) (v := ?vR115) rfl (by kernel_rfl) (by kernel_rfl) (by kernel_rfl) (fun _ _ _ h => h) (Or.inl ⟨by rfl, fun w' _ => ?yR115⟩) HH.out ?_
      case yR115 => (go_simp; try with_reducible rfl)
      refine wpAnyH_take (i := 16) (v := ?vR116) rfl (by kernel_rfl) (by kernel_rfl) (by kernel_rfl) (fun _ _ _ h => h) (Or.inl ⟨by rfl, fun w' _ => ?yR116⟩) HH.out ?_
      case yR116 => (go_simp; try with_reducible rfl)
      try simp only [List.getElem_toArray, List.getElem_cons_succ, List.getElem_cons_zero, Act.put, List.setIfInBounds_toArray, List.set_cons_zero, List.set_cons_succ]
      refine wpAnyH_take (i := 17) (v := .agg #[.int .i64 t, .int .i64 b]) rfl (by kernel_rfl) (by kernel_rfl) (by kernel_rfl) (fun _ _ _ h => h) (Or.inl ⟨by rfl, fun w' hw' => ?yR117⟩) HH.out ?_
      case yR117 => exact exec_load 23 (.tmp 9) rfl rfl hw'.2.1 Try.underlying23 rfl rfl
      refine wpAnyH_take (i := 19) (v := .agg #[.int .i64 a, .int .i64 b]) rfl (by kernel_rfl) (by kernel_rfl) (by kernel_rfl) (fun _ _ _ h => h) (Or.inl ⟨by rfl, fun w' hw' => ?yR119⟩) HH.out ?_
      case yR119 => exact exec_load 23 (.tmp 4) rfl rfl hw'.1 Try.underlying23 rfl rfl
      try simp only [List.getElem_toArray, List.getElem_cons_succ, List.getElem_cons_zero, Act.put, List.setIfInBounds_toArray, List.set_cons_zero, List.set_cons_succ]
      refine wpAnyH_take (i := 22) (v := ?vR122) rfl (by kernel_rfl) (by kernel_rfl) (by kernel_rfl) (fun _ _ _ h => h) (Or.inl ⟨by rfl, fun w' _ => ?yR122⟩) HH.out ?_
      case yR122 => (go_simp; try with_reducible rfl)
      try simp only [List.getElem_toArray, List.getElem_cons_succ, List.getElem_cons_zero, Act.put, List.setIfInBounds_toArray, List.set_cons_zero, List.set_cons_succ]
      refine wpAnyH_take (i := 23) (v := ?vR123) rfl (by kernel_rfl) (by kernel_rfl) (by kernel_rfl) (fun _ _ _ h => h) (Or.inl ⟨by rfl, fun w' _ => ?yR123⟩) HH.out ?_
      case yR123 => (go_simp; try with_reducible rfl)
      try simp only [List.getElem_toArray, List.getElem_cons_succ, List.getElem_cons_zero, Act.put, List.setIfInBounds_toArray, List.set_cons_zero, List.set_cons_succ]
      refine wpAnyH_take (i := 24) (v := ?vR124) rfl (by kernel_rfl) (by kernel_rfl) (by kernel_rfl) (fun _ _ _ h => h) (Or.inl ⟨by rfl, fun w' _ => ?yR124⟩) HH.out ?_
      case yR124 => (go_simp; try with_reducible rfl)
      try simp only [List.getElem_toArray, List.getElem_cons_succ, List.getElem_cons_zero, Act.put, List.setIfInBounds_toArray, List.set_cons_zero, List.set_cons_succ]
      refine wpAnyH_take (i := 25) (v := .int .i64 b) rfl (by kernel_rfl) (by kernel_rfl) (by kernel_rfl) (fun _ _ _ h => h) (Or.inl ⟨by rfl, fun w' hw' => ?yR125⟩) HH.out ?_
      case yR125 => (have hc := Blk.cell hw'.1 1; go_simp; try with_reducible rfl)
      try simp only [List.getElem_toArray, List.getElem_cons_succ, List.getElem_cons_zero, Act.put, List.setIfInBounds_toArray, List.set_cons_zero, List.set_cons_succ]
      refine wpAnyH_take (i := 26) (v := ?vR126) rfl (by kernel_rfl) (by kernel_rfl) (by kernel_rfl) (fun _ _ _ h => h) (Or.inl ⟨by rfl, fun w' _ => ?yR126⟩) HH.out ?_
      case yR126 => (go_simp; try with_reducible rfl)
      try simp only [List.getElem_toArray, List.getElem_cons_succ, List.getElem_cons_zero, Act.put, List.setIfInBounds_toArray, List.set_cons_zero, List.set_cons_succ]
      refine wpAnyH_ready (rs := [18]) (by kernel_rfl) (by simp) (AllReadyH.cons rfl (fun K hK => ?_) AllReadyH.nil)
      rw [if_pos (by rfl)]
      go_simp
      refine (most_let hot HM2.out _).mono ?_
      rintro e w9118 ⟨rfl, bw⟩
      go_simp
      refine hK.out _ _ ⟨HH.out.1.below bw, HH.out.2.1.below bw, HH.out.2.2.trans (bw.mono HH.out.2.2.size)⟩ (fun hh => ?_)
      have HH' := Lib.hid hh
      clear hh hK K HH bw
      have HH := Lib.hid HH'.out
      clear HH'
      try simp only [List.getElem_toArray, List.getElem_cons_succ, List.getElem_cons_zero, Act.put, List.setIfInBounds_toArray, List.set_cons_zero, List.set_cons_succ]
      refine wpAnyH_ready (rs := [20]) (by kernel_rfl) (by simp) (AllReadyH.cons rfl (fun K hK => ?_) AllReadyH.nil)
      rw [if_pos (by rfl)]
      go_simp
      refine (most_let hok HM1.out _).mono ?_
      rintro e w9120 ⟨rfl, bw⟩
      go_simp
      refine hK.out _ _ ⟨HH.out.1.below bw, HH.out.2.1.below bw, HH.out.2.2.trans (bw.mono HH.out.2.2.size)⟩ (fun hh => ?_)
      have HH' := Lib.hid hh
      clear hh hK K HH bw
      have HH := Lib.hid HH'.out
      clear HH'
      try simp only [List.getElem_toArray, List.getElem_cons_succ, List.getElem_cons_zero, Act.put, List.setIfInBounds_toArray, List.set_cons_zero, List.set_cons_succ]
      refine wpAnyH_take (i := 21) (v := ?vR121) rfl (by kernel_rfl) (by kernel_rfl) (by kernel_rfl) (fun _ _ _ h => h) (Or.inl ⟨by rfl, fun w' _ => ?yR121⟩) HH.out ?_
      case yR121 => (go_simp; try with_reducible rfl)
      try simp only [List.getElem_toArray, List.getElem_cons_succ, List.getElem_cons_zero, Act.put, List.setIfInBounds_toArray, List.set_cons_zero, List.set_cons_succ]
      refine wpAnyH_take (i := 27) (v := ?vR127) rfl (by kernel_rfl) (by kernel_rfl) (by kernel_rfl) (fun _ _ _ h => h) (Or.inl ⟨by rfl, fun w' _ => ?yR127⟩) HH.out ?_
      case yR127 => (go_simp; try with_reducible rfl)
      refine wpAnyH_take (i := 28) (v := ?vR128) rfl (by kernel_rfl) (by kernel_rfl) (by kernel_rfl) (fun _ _ _ h => h) (Or.inl ⟨by rfl, fun w' _ => ?yR128⟩) HH.out ?_
      case yR128 => (go_simp; try with_reducible rfl)
      try simp only [List.getElem_toArray, List.getElem_cons_succ, List.getElem_cons_zero, Act.put, List.setIfInBounds_toArray, List.set_cons_zero, List.set_cons_succ]
      refine wpAnyH_take (i := 29) (v := ?vR129) rfl (by kernel_rfl) (by kernel_rfl) (by kernel_rfl) (fun _ _ _ h => h) (Or.inl ⟨by rfl, fun w' _ => ?yR129⟩) HH.out ?_
      case yR129 => (go_simp; try with_reducible rfl)
      try simp only [List.getElem_toArray, List.getElem_cons_succ, List.getElem_cons_zero, Act.put, List.setIfInBounds_toArray, List.set_cons_zero, List.set_cons_succ]
      refine wpAnyH_done (by kernel_rfl) ?_ _
      have B1' := Lib.hid HH.out.1
      have B2' := Lib.hid HH.out.2.1
      have BB' := Lib.hid HH.out.2.2
      clear HH B1 B2 BB
      have B1 := Lib.hid B1'.out
      have B2 := Lib.hid B2'.out
      have BB := Lib.hid BB'.out
      clear B1' B2' BB'
      have c00 := B1.out.cell 0
      have c01 := B1.out.cell 1
      have c10 := B2.out.cell 0
      have c11 := B2.out.cell 1
      go_wp2_with fail
      clear c00 c01 c10 c11
      go_ret
      exact ⟨rfl, BB.out⟩
    · skip
      go_enter Try.func10, Try.ntmps10
      go_wp2_with fail
      obtain ⟨w2, hw2⟩ : ∃ x, x = (w.alloc (.cells #[.int .i64 a, .int .i64 b] 23)).alloc (.cells #[.int .i64 t, .int .i64 b] 23) := ⟨_, rfl⟩
      rw [← hw2]
      have bw : Below (w.alloc (.cells #[.int .i64 a, .int .i64 b] 23)).heap.size (w.alloc (.cells #[.int .i64 a, .int .i64 b] 23)) w2 := by rw [hw2]; exact (Below.refl _ _).alloc (Nat.le_refl _) _
      have bx : Blk w2 (w.heap.size + 1) #[.int .i64 t, .int .i64 b] 23 := by rw [hw2]; exact heap_alloc2_new _ _ _
      obtain ⟨g2, hg2⟩ : ∃ x, x = w.heap.size + 1 := ⟨_, rfl⟩
      rw [← hg2] at bx ⊢
      clear hw2
      have B1' := Lib.hid (B1.out.below bw)
      have BB' := Lib.hid (BB.out.trans (bw.mono BB.out.size))
      clear B1 BB bw
      have B1 := Lib.hid B1'.out
      have BB := Lib.hid BB'.out
      clear B1' BB'
      have B2 := Lib.hid bx
      clear bx hg2
      refine (Sg.awake_any _).mono ?_
      rintro e w3 ⟨rfl, bw⟩
      have B1' := Lib.hid (B1.out.below bw)
      have B2' := Lib.hid (B2.out.below bw)
      have BB' := Lib.hid (BB.out.trans (bw.mono BB.out.size))
      clear B1 B2 BB bw
      have B1 := Lib.hid B1'.out
      have B2 := Lib.hid B2'.out
      have BB := Lib.hid BB'.out
      clear B1' B2' BB'
      have c00 := B1.out.cell 0
      have c01 := B1.out.cell 1
      have c10 := B2.out.cell 0
      have c11 := B2.out.cell 1
      go_wp2_with fail
      clear c00 c01 c10 c11
      refine (Sg.check_yes a b hok _).mono ?_
      rintro e w4 ⟨rfl, bw⟩
      have B1' := Lib.hid (B1.out.below bw)
      have B2' := Lib.hid (B2.out.below bw)
      have BB' := Lib.hid (BB.out.trans (bw.mono BB.out.size))
      clear B1 B2 BB bw
      have B1 := Lib.hid B1'.out
      have B2 := Lib.hid B2'.out
      have BB := Lib.hid BB'.out
      clear B1' B2' BB'
      have c00 := B1.out.cell 0
      have c01 := B1.out.cell 1
      have c10 := B2.out.cell 0
      have c11 := B2.out.cell 1
      go_wp2_with fail
      clear c00 c01 c10 c11
      refine (Sg.check_no t b hot _).mono ?_
      rintro e w5 ⟨rfl, bw⟩
      have B1' := Lib.hid (B1.out.below bw)
      have B2' := Lib.hid (B2.out.below bw)
      have BB' := Lib.hid (BB.out.trans (bw.mono BB.out.size))
      clear B1 B2 BB bw
      have B1 := Lib.hid B1'.out
      have B2 := Lib.hid B2'.out
      have BB := Lib.hid BB'.out
      clear B1' B2' BB'
      have c00 := B1.out.cell 0
      have c01 := B1.out.cell 1
      have c10 := B2.out.cell 0
      have c11 := B2.out.cell 1
      go_wp2_with fail
      clear c00 c01 c10 c11
      refine (Sg.awake_any _).mono ?_
      rintro e w6 ⟨rfl, bw⟩
      have B1' := Lib.hid (B1.out.below bw)
      have B2' := Lib.hid (B2.out.below bw)
      have BB' := Lib.hid (BB.out.trans (bw.mono BB.out.size))
      clear B1 B2 BB bw
      have B1 := Lib.hid B1'.out
      have B2 := Lib.hid B2'.out
      have BB := Lib.hid BB'.out
      clear B1' B2' BB'
      go_wp2_with fail
      go_ret
      exact ⟨rfl, BB.out⟩
  · skip
    go_enter Try.func10, Try.ntmps10
    go_wp2_with fail
    obtain ⟨w2, hw2⟩ : ∃ x, x = (w.alloc (.cells #[.int .i64 a, .int .i64 b] 23)).alloc (.cells #[.int .i64 t, .int .i64 b] 23) := ⟨_, rfl⟩
    rw [← hw2]
    have bw : Below (w.alloc (.cells #[.int .i64 a, .int .i64 b] 23)).heap.size (w.alloc (.cells #[.int .i64 a, .int .i64 b] 23)) w2 := by rw [hw2]; exact (Below.refl _ _).alloc (Nat.le_refl _) _
    have bx : Blk w2 (w.heap.size + 1) #[.int .i64 t, .int .i64 b] 23 := by rw [hw2]; exact heap_alloc2_new _ _ _
    obtain ⟨g2, hg2⟩ : ∃ x, x = w.heap.size + 1 := ⟨_, rfl⟩
    rw [← hg2] at bx ⊢
    clear hw2
    have B1' := Lib.hid (B1.out.below bw)
    have BB' := Lib.hid (BB.out.trans (bw.mono BB.out.size))
    clear B1 BB bw
    have B1 := Lib.hid B1'.out
    have BB := Lib.hid BB'.out
    clear B1' BB'
    have B2 := Lib.hid bx
    clear bx hg2
    refine (Sg.awake_any _).mono ?_
    rintro e w3 ⟨rfl, bw⟩
    have B1' := Lib.hid (B1.out.below bw)
    have B2' := Lib.hid (B2.out.below bw)
    have BB' := Lib.hid (BB.out.trans (bw.mono BB.out.size))
    clear B1 B2 BB bw
    have B1 := Lib.hid B1'.out
    have B2 := Lib.hid B2'.out
    have BB := Lib.hid BB'.out
    clear B1' B2' BB'
    have c00 := B1.out.cell 0
    have c01 := B1.out.cell 1
    have c10 := B2.out.cell 0
    have c11 := B2.out.cell 1
    go_wp2_with fail
    clear c00 c01 c10 c11
    refine (Sg.check_no a b hok _).mono ?_
    rintro e w4 ⟨rfl, bw⟩
    have B1' := Lib.hid (B1.out.below bw)
    have B2' := Lib.hid (B2.out.below bw)
    have BB' := Lib.hid (BB.out.trans (bw.mono BB.out.size))
    clear B1 B2 BB bw
    have B1 := Lib.hid B1'.out
    have B2 := Lib.hid B2'.out
    have BB := Lib.hid BB'.out
    clear B1' B2' BB'
    have c00 := B1.out.cell 0
    have c01 := B1.out.cell 1
    have c10 := B2.out.cell 0
    have c11 := B2.out.cell 1
    go_wp2_with fail
    clear c00 c01 c10 c11
    refine (Sg.awake_any _).mono ?_
    rintro e w5 ⟨rfl, bw⟩
    have B1' := Lib.hid (B1.out.below bw)
    have B2' := Lib.hid (B2.out.below bw)
    have BB' := Lib.hid (BB.out.trans (bw.mono BB.out.size))
    clear B1 B2 BB bw
    have B1 := Lib.hid B1'.out
    have B2 := Lib.hid B2'.out
    have BB := Lib.hid BB'.out
    clear B1' B2' BB'
    go_wp2_with fail
    go_ret
    exact ⟨rfl, BB.out⟩
theorem segmentGrows_own : ownKnob Try.prog.godebug = none := by kernel_rfl
theorem segmentGrows_laid : laidOutB Try.prog = true := by kernel_rfl

set_option maxRecDepth 100000 in
theorem segmentGrows_lifted (os : Os) (started : os.Started) (H : Type) (enc : TypeId × Value → H) :
    ReturnsInHanded {} Try.checked os 10 .any (Rows.segmentGrowsSpec.pre6 enc Try.prog Try.f10 Rows.segmentGrowsRow.domain false) (Rows.segmentGrowsSpec.post enc Try.prog Try.f10 false true false false) := by
  refine returnsInHanded_of_change (C := Try.checked) segmentGrows_own started (by kernel_rfl) Try.func10
    (ChangeSpec.witness6 (enc := enc) (C := Try.checked) false ⟨#[], #[.agg #[.int .i64 0, .int .i64 0], .int .u8 0, .int .u8 0, .int .u8 0], []⟩ 8 (by kernel_rfl) (by kernel_rfl) (by kernel_rfl) (by kernel_rfl)) ?_
  intro W base args ds gs before hval0 hW _ _
  have hval : ∀ (j : Nat) t v, Try.f10.params[j]? = some t → args[j]? = some v → Value.okWide Try.prog W .any base t v := hval0
  have hW' := hW
  obtain ⟨p, q, hA0, hV, rfl, hfz, hnd⟩ := hW
  have hA : DataW.TrodAll enc Try.prog W 0 (fun _ => true) true Try.f10.params.toList args.toList ds p := hA0
  rw [Try.params10] at hA hval
  obtain ⟨v0, vs0, d0, ds0, p0, q0, hargs, rfl, rfl, h0, r0⟩ := trodAll_cons hA
  obtain ⟨v1, vs1, d1, ds1, p1, q1, rfl, rfl, rfl, h1, r1⟩ := trodAll_cons r0
  obtain ⟨v2, vs2, d2, ds2, p2, q2, rfl, rfl, rfl, h2, r2⟩ := trodAll_cons r1
  obtain ⟨v3, vs3, d3, ds3, p3, q3, rfl, rfl, rfl, h3, r3⟩ := trodAll_cons r2
  obtain ⟨rfl, rfl, rfl⟩ := trodAll_nil r3
  obtain rfl : args = #[v0, v1, v2, v3] := by cases args; simp_all
  obtain ⟨rfl, rfl⟩ := trodVars_none hV
  have lt0 : ∀ x ∈ p0, x.block < W.heap.size := by obtain ⟨m, hm⟩ := h0; exact DataW.trod_lt m _ _ _ hm
  obtain ⟨x0, y0, rfl, bx0, by0⟩ := Sg.open_shape (hval 0 23 v0 rfl rfl) h0
  obtain ⟨a1, rfl, rfl, rfl, w1⟩ := open_int Try.underlying5 (hval 1 5 v1 rfl rfl) h1
  have b1 := bounds_u8 w1
  obtain ⟨a2, rfl, rfl, rfl, w2⟩ := open_int Try.underlying5 (hval 2 5 v2 rfl rfl) h2
  have b2 := bounds_u8 w2
  obtain ⟨a3, rfl, rfl, rfl, w3⟩ := open_int Try.underlying5 (hval 3 5 v3 rfl rfl) h3
  have b3 := bounds_u8 w3
  clear hA0 hval0
  refine (segmentGrows_any W x0 y0 bx0 by0 a1 b1 a2 b2 a3 b3).mono fun e W' ⟨he, bel⟩ => ?_
  subst he
  exact ⟨_, rfl, _, _, _, [], _, [], hW', trodAll_mk1 (shut_bool Try.underlying4 _), (trodAll_cons_mk (Below.trod segmentGrows_laid (by kernel_rfl) (of_decide_eq_true (by kernel_rfl)) h0 bel lt0) (trodAll_cons_mk (shut_int Try.underlying5 w1) (trodAll_cons_mk (shut_int Try.underlying5 w2) (trodAll_cons_mk (shut_int Try.underlying5 w3) trodAll_mk0)))), rfl, bel.frame _, fun h => by cases h⟩

theorem segmentGrows_holds : Rows.SegmentGrowsSaid :=
  OpenClaim.holds_of_wide 10 Try.f10 rfl rfl rfl rfl rfl rfl rfl ⟨rfl, rfl, rfl, rfl, rfl⟩ rfl rfl rfl rfl rfl (by kernel_rfl) Try.func10 (by kernel_rfl)
    (of_decide_eq_true (by kernel_rfl)) (by unfold Func.isWrapper; rw [if_neg (of_decide_eq_false (by kernel_rfl))]; exact ⟨rfl, rfl⟩)
    (fun os started H enc _ => segmentGrows_lifted os started H enc)

#print axioms segmentGrows_holds

end Go.Proofs.Ytmokigcplgjgiaa
