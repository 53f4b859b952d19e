/-
  SegmentMost holds: of any shape the law returns true.
-/
import Derived.Test.YtmokigcplgjgiaaSgAwake
import Derived.Test.YtmokigcplgjgiaaSgOpen
import Derived.Deep.RegionHeld
import Derived.Test.YtmokigcplgjgiaaRows
import Derived.Test.YtmokigcplgjgiaaOpen
import Derived.Test.YtmokigcplgjgiaaOpenA
import Derived.ProofKit
import Derived.OpenShut
import Derived.ShutString
import Derived.ChangeOld
namespace Go.Proofs.Ytmokigcplgjgiaa
open Go.RowKit Sg Go.ChangeShapes Go.WideShapes Go.ChangeAt
attribute [local go_sem ↓] Go.wp_at_zero Go.wp_at_succ
theorem most_let {a b m : Int} (hok : okS a b) (hm : m = (a - 2) * b) (W : World) : Calls Try.prog 16 #[.agg #[.int .i64 a, .int .i64 b]] W (RetB (.int .i64 m) W) := by
  rw [hm]; exact most_yes a b hok W
theorem sectors_let {a b m : Int} (hok : okS a b) (hm : m = 2 + a * b) (W : World) : Calls Try.prog 15 #[.agg #[.int .i64 a, .int .i64 b]] W (RetB (.int .i64 m) W) := by
  rw [hm]; exact sectors_yes a b hok W
set_option maxRecDepth 100000 in
theorem segmentMost_any (w : World) (a b : Int) (_ : Sg.i64B a) (_ : Sg.i64B b) : Calls Try.prog 7 #[.agg #[.int .i64 a, .int .i64 b]] w (RetB (.bool true) w) := by
  have b1 : Blk (w.alloc (.cells #[.int .i64 a, .int .i64 b] 23)) w.heap.size #[.int .i64 a, .int .i64 b] 23 := heap_alloc_new _ _
  have bb : Below w.heap.size w (w.alloc (.cells #[.int .i64 a, .int .i64 b] 23)) := (Below.refl _ _).alloc (Nat.le_refl _) _
  have B1 := Lib.hid b1
  have BB := Lib.hid bb
  clear b1 bb
  by_cases hok : okS a b
  · skip
    by_cases hot : okS (a + 1) b
    · skip
      have ho := hok
      have hmm := Sg.ok_mul hok
      unfold okS at ho
      have k0 : IntKind.i64.wrap (a + 1) = a + 1 := by rw [IntWalk.i64_in _ (by omega)]
      obtain ⟨m1, hm1⟩ : ∃ x, x = (a - 2) * b := ⟨_, rfl⟩
      obtain ⟨t1, ht1⟩ : ∃ x, x = 2 + a * b := ⟨_, rfl⟩
      have HM1 := Lib.hid hm1
      have HT1 := Lib.hid ht1
      have k1 : (a - 2) * b = a * b - 2 * b := Int.sub_mul a 2 b
      have k2 : 1 * b ≤ (a - 2) * b := Int.mul_le_mul_of_nonneg_right (by omega) (by omega)
      obtain ⟨m2, hm2⟩ : ∃ x, x = (a + 1 - 2) * b := ⟨_, rfl⟩
      obtain ⟨t2, ht2⟩ : ∃ x, x = 2 + (a + 1) * b := ⟨_, rfl⟩
      have HM2 := Lib.hid hm2
      have HT2 := Lib.hid ht2
      have k3 : (a + 1 - 2) * b = (a + 1) * b - 2 * b := Int.sub_mul _ 2 b
      have k4 : (a + 1) * b = a * b + 1 * b := Int.add_mul a 1 b
      have e3 : IntKind.i64.wrap (m1 + b) = m2 := by rw [IntWalk.i64_in _ (by omega)]; omega
      have e4 : IntKind.i64.wrap (t1 + b) = t2 := by rw [IntWalk.i64_in _ (by omega)]; omega
      have e5 : IntKind.i64.wrap (t1 - 2) = t1 - 2 := by rw [IntWalk.i64_in _ (by omega)]
      have e6 : IntKind.i64.wrap (2 * b) = 2 * b := by rw [IntWalk.i64_in _ (by omega)]
      have e7 : IntKind.i64.wrap (t1 - 2 - 2 * b) = m1 := by rw [IntWalk.i64_in _ (by omega)]; omega
      have d1 : decide (b ≤ m1) = true := decide_eq_true (by omega)
      clear ho hmm k1 k2 hm1 ht1 k3 k4 hm2 ht2
      go_enter Try.func7, Try.ntmps7
      go_wp2_with fail
      refine (Sg.awake_any _).mono ?_
      rintro e w2 ⟨rfl, bw⟩
      have B1' := Lib.hid (B1.out.below bw)
      have BB' := Lib.hid (BB.out.trans (bw.mono BB.out.size))
      clear B1 BB bw
      have B1 := Lib.hid B1'.out
      have BB := Lib.hid BB'.out
      clear B1' BB'
      have c00 := B1.out.cell 0
      have c01 := B1.out.cell 1
      go_wp2_with fail
      clear c00 c01
      refine (Sg.check_yes a b hok _).mono ?_
      rintro e w3 ⟨rfl, bw⟩
      have B1' := Lib.hid (B1.out.below bw)
      have BB' := Lib.hid (BB.out.trans (bw.mono BB.out.size))
      clear B1 BB bw
      have B1 := Lib.hid B1'.out
      have BB := Lib.hid BB'.out
      clear B1' BB'
      have c00 := B1.out.cell 0
      have c01 := B1.out.cell 1
      go_wp2_with fail
      clear c00 c01
      obtain ⟨w4, hw4⟩ : ∃ x, x = w3.alloc (.cells #[.int .i64 (a + 1), .int .i64 b] 23) := ⟨_, rfl⟩
      rw [← hw4]
      have bw : Below w3.heap.size w3 w4 := by rw [hw4]; exact (Below.refl _ _).alloc (Nat.le_refl _) _
      have bx : Blk w4 w3.heap.size #[.int .i64 (a + 1), .int .i64 b] 23 := by rw [hw4]; exact heap_alloc_new _ _
      obtain ⟨g4, hg4⟩ : ∃ x, x = w3.heap.size := ⟨_, rfl⟩
      rw [← hg4] at bx ⊢
      clear hw4
      have B1' := Lib.hid (B1.out.below bw)
      have BB' := Lib.hid (BB.out.trans (bw.mono BB.out.size))
      clear B1 BB bw
      have B1 := Lib.hid B1'.out
      have BB := Lib.hid BB'.out
      clear B1' BB'
      have B2 := Lib.hid bx
      clear bx hg4
      refine wp_region_held_drew (S := (fun w' => Blk w' w.heap.size #[.int .i64 a, .int .i64 b] 23 ∧ Blk w' g4 #[.int .i64 (a + 1), .int .i64 b] 23 ∧ Below w.heap.size w w')) (by kernel_rfl) ⟨(show Blk (World.drew _) _ _ _ from B1.out), (show Blk (World.drew _) _ _ _ from B2.out), BB.out.drew⟩ (fun hh => ?_)
      have HH := Lib.hid hh
      clear hh
      refine wpAnyH_take (i := 0) (v := .agg #[.int .i64 (a + 1), .int .i64 b]) rfl (by kernel_rfl) (by kernel_rfl) (by kernel_rfl) (fun _ _ _ h => h) (Or.inl ⟨by rfl, fun w' hw' => ?yR10⟩) HH.out ?_
      case yR10 => exact exec_load 23 (.tmp 3) rfl rfl hw'.2.1 Try.underlying23 rfl rfl
      try simp only [List.getElem_toArray, List.getElem_cons_zero, Act.put, List.setIfInBounds_toArray, List.set_cons_zero, List.set_cons_succ]
      refine wpAnyH_ready (rs := [1]) (by kernel_rfl) (by simp) (AllReadyH.cons rfl (fun K hK => ?_) AllReadyH.nil)
      go_simp
      refine (Sg.check_yes (a + 1) b hot _).mono ?_
      rintro e w911 ⟨rfl, bw⟩
      go_simp
      refine hK.out _ _ ⟨HH.out.1.below bw, HH.out.2.1.below bw, HH.out.2.2.trans (bw.mono HH.out.2.2.size)⟩ (fun hh => ?_)
      have HH' := Lib.hid hh
      clear hh hK K HH bw
      have HH := Lib.hid HH'.out
      clear HH'
      try simp only [List.getElem_toArray, List.getElem_cons_succ, List.getElem_cons_zero, Act.put, List.setIfInBounds_toArray, List.set_cons_zero, List.set_cons_succ]
      refine wpAnyH_take (i := 2) (v := ?vR12) rfl (by kernel_rfl) (by kernel_rfl) (by kernel_rfl) (fun _ _ _ h => h) (Or.inl ⟨by rfl, fun w' _ => ?yR12⟩) HH.out ?_
      case yR12 => (go_simp; try with_reducible rfl)
      refine wpAnyH_take (i := 3) (v := ?vR13) rfl (by kernel_rfl) (by kernel_rfl) (by kernel_rfl) (fun _ _ _ h => h) (Or.inl ⟨by rfl, fun w' _ => ?yR13⟩) HH.out ?_
      case yR13 => (go_simp; try with_reducible rfl)
      refine wpAnyH_take (i := 4) (v := .agg #[.int .i64 (a + 1), .int .i64 b]) rfl (by kernel_rfl) (by kernel_rfl) (by kernel_rfl) (fun _ _ _ h => h) (Or.inl ⟨by rfl, fun w' hw' => ?yR14⟩) HH.out ?_
      case yR14 => exact exec_load 23 (.tmp 3) rfl rfl hw'.2.1 Try.underlying23 rfl rfl
      try simp only [List.getElem_toArray, List.getElem_cons_succ, List.getElem_cons_zero, Act.put, List.setIfInBounds_toArray, List.set_cons_zero, List.set_cons_succ]
      refine wpAnyH_take (i := 6) (v := .agg #[.int .i64 a, .int .i64 b]) rfl (by kernel_rfl) (by kernel_rfl) (by kernel_rfl) (fun _ _ _ h => h) (Or.inl ⟨by rfl, fun w' hw' => ?yR16⟩) HH.out ?_
      case yR16 => exact exec_load 23 (.tmp 1) rfl rfl hw'.1 Try.underlying23 rfl rfl
      try simp only [List.getElem_toArray, List.getElem_cons_succ, List.getElem_cons_zero, Act.put, List.setIfInBounds_toArray, List.set_cons_zero, List.set_cons_succ]
      refine wpAnyH_take (i := 8) (v := ?vR18) rfl (by kernel_rfl) (by kernel_rfl) (by kernel_rfl) (fun _ _ _ h => h) (Or.inl ⟨by rfl, fun w' _ => ?yR18⟩) HH.out ?_
      case yR18 => (go_simp; try with_reducible rfl)
      try simp only [List.getElem_toArray, List.getElem_cons_succ, List.getElem_cons_zero, Act.put, List.setIfInBounds_toArray, List.set_cons_zero, List.set_cons_succ]
      refine wpAnyH_take (i := 9) (v := .int .i64 b) rfl (by kernel_rfl) (by kernel_rfl) (by kernel_rfl) (fun _ _ _ h => h) (Or.inl ⟨by rfl, fun w' hw' => ?yR19⟩) HH.out ?_
      case yR19 => (have hc := Blk.cell hw'.1 1; go_simp; try with_reducible rfl)
      try simp only [List.getElem_toArray, List.getElem_cons_succ, List.getElem_cons_zero, Act.put, List.setIfInBounds_toArray, List.set_cons_zero, List.set_cons_succ]
      try simp only [List.getElem_toArray, List.getElem_cons_succ, List.getElem_cons_zero, Act.put, List.setIfInBounds_toArray, List.set_cons_zero, List.set_cons_succ]
      refine wpAnyH_ready (rs := [5]) (by kernel_rfl) (by simp) (AllReadyH.cons rfl (fun K hK => ?_) AllReadyH.nil)
      rw [if_pos (by rfl)]
      go_simp
      refine (most_let hot HM2.out _).mono ?_
      rintro e w915 ⟨rfl, bw⟩
      go_simp
      refine hK.out _ _ ⟨HH.out.1.below bw, HH.out.2.1.below bw, HH.out.2.2.trans (bw.mono HH.out.2.2.size)⟩ (fun hh => ?_)
      have HH' := Lib.hid hh
      clear hh hK K HH bw
      have HH := Lib.hid HH'.out
      clear HH'
      try simp only [List.getElem_toArray, List.getElem_cons_succ, List.getElem_cons_zero, Act.put, List.setIfInBounds_toArray, List.set_cons_zero, List.set_cons_succ]
      refine wpAnyH_ready (rs := [7]) (by kernel_rfl) (by simp) (AllReadyH.cons rfl (fun K hK => ?_) AllReadyH.nil)
      rw [if_pos (by rfl)]
      go_simp
      refine (most_let hok HM1.out _).mono ?_
      rintro e w917 ⟨rfl, bw⟩
      go_simp
      refine hK.out _ _ ⟨HH.out.1.below bw, HH.out.2.1.below bw, HH.out.2.2.trans (bw.mono HH.out.2.2.size)⟩ (fun hh => ?_)
      have HH' := Lib.hid hh
      clear hh hK K HH bw
      have HH := Lib.hid HH'.out
      clear HH'
      try simp only [List.getElem_toArray, List.getElem_cons_succ, List.getElem_cons_zero, Act.put, List.setIfInBounds_toArray, List.set_cons_zero, List.set_cons_succ]
      refine wpAnyH_take (i := 10) (v := ?vR110) rfl (by kernel_rfl) (by kernel_rfl) (by kernel_rfl) (fun _ _ _ h => h) (Or.inl ⟨by rfl, fun w' _ => ?yR110⟩) HH.out ?_
      case yR110 => (go_simp; try with_reducible rfl)
      try simp only [List.getElem_toArray, List.getElem_cons_succ, List.getElem_cons_zero, Act.put, List.setIfInBounds_toArray, List.set_cons_zero, List.set_cons_succ]
      refine wpAnyH_take (i := 11) (v := ?vR111) rfl (by kernel_rfl) (by kernel_rfl) (by kernel_rfl) (fun _ _ _ h => h) (Or.inl ⟨by rfl, fun w' _ => ?yR111⟩) HH.out ?_
      case yR111 => (go_simp; try with_reducible rfl)
      try simp only [List.getElem_toArray, List.getElem_cons_succ, List.getElem_cons_zero, Act.put, List.setIfInBounds_toArray, List.set_cons_zero, List.set_cons_succ]
      refine wpAnyH_take (i := 12) (v := ?vR112) rfl (by kernel_rfl) (by kernel_rfl) (by kernel_rfl) (fun _ _ _ h => h) (Or.inl ⟨by rfl, fun w' _ => ?yR112⟩) HH.out ?_
      case yR112 => (go_simp; try with_reducible rfl)
      refine wpAnyH_take (i := 13) (v := .agg #[.int .i64 (a + 1), .int .i64 b]) rfl (by kernel_rfl) (by kernel_rfl) (by kernel_rfl) (fun _ _ _ h => h) (Or.inl ⟨by rfl, fun w' hw' => ?yR113⟩) HH.out ?_
      case yR113 => exact exec_load 23 (.tmp 3) rfl rfl hw'.2.1 Try.underlying23 rfl rfl
      try simp only [List.getElem_toArray, List.getElem_cons_succ, List.getElem_cons_zero, Act.put, List.setIfInBounds_toArray, List.set_cons_zero, List.set_cons_succ]
      refine wpAnyH_take (i := 15) (v := .agg #[.int .i64 a, .int .i64 b]) rfl (by kernel_rfl) (by kernel_rfl) (by kernel_rfl) (fun _ _ _ h => h) (Or.inl ⟨by rfl, fun w' hw' => ?yR115⟩) HH.out ?_
      case yR115 => exact exec_load 23 (.tmp 1) rfl rfl hw'.1 Try.underlying23 rfl rfl
      try simp only [List.getElem_toArray, List.getElem_cons_succ, List.getElem_cons_zero, Act.put, List.setIfInBounds_toArray, List.set_cons_zero, List.set_cons_succ]
      refine wpAnyH_take (i := 17) (v := ?vR117) rfl (by kernel_rfl) (by kernel_rfl) (by kernel_rfl) (fun _ _ _ h => h) (Or.inl ⟨by rfl, fun w' _ => ?yR117⟩) HH.out ?_
      case yR117 => (go_simp; try with_reducible rfl)
      try simp only [List.getElem_toArray, List.getElem_cons_succ, List.getElem_cons_zero, Act.put, List.setIfInBounds_toArray, List.set_cons_zero, List.set_cons_succ]
      refine wpAnyH_take (i := 18) (v := .int .i64 b) rfl (by kernel_rfl) (by kernel_rfl) (by kernel_rfl) (fun _ _ _ h => h) (Or.inl ⟨by rfl, fun w' hw' => ?yR118⟩) HH.out ?_
      case yR118 => (have hc := Blk.cell hw'.1 1; go_simp; try with_reducible rfl)
      try simp only [List.getElem_toArray, List.getElem_cons_succ, List.getElem_cons_zero, Act.put, List.setIfInBounds_toArray, List.set_cons_zero, List.set_cons_succ]
      try simp only [List.getElem_toArray, List.getElem_cons_succ, List.getElem_cons_zero, Act.put, List.setIfInBounds_toArray, List.set_cons_zero, List.set_cons_succ]
      refine wpAnyH_ready (rs := [14]) (by kernel_rfl) (by simp) (AllReadyH.cons rfl (fun K hK => ?_) AllReadyH.nil)
      rw [if_pos (by rfl)]
      go_simp
      refine (sectors_let hot HT2.out _).mono ?_
      rintro e w9114 ⟨rfl, bw⟩
      go_simp
      refine hK.out _ _ ⟨HH.out.1.below bw, HH.out.2.1.below bw, HH.out.2.2.trans (bw.mono HH.out.2.2.size)⟩ (fun hh => ?_)
      have HH' := Lib.hid hh
      clear hh hK K HH bw
      have HH := Lib.hid HH'.out
      clear HH'
      try simp only [List.getElem_toArray, List.getElem_cons_succ, List.getElem_cons_zero, Act.put, List.setIfInBounds_toArray, List.set_cons_zero, List.set_cons_succ]
      refine wpAnyH_ready (rs := [16]) (by kernel_rfl) (by simp) (AllReadyH.cons rfl (fun K hK => ?_) AllReadyH.nil)
      rw [if_pos (by rfl)]
      go_simp
      refine (sectors_let hok HT1.out _).mono ?_
      rintro e w9116 ⟨rfl, bw⟩
      go_simp
      refine hK.out _ _ ⟨HH.out.1.below bw, HH.out.2.1.below bw, HH.out.2.2.trans (bw.mono HH.out.2.2.size)⟩ (fun hh => ?_)
      have HH' := Lib.hid hh
      clear hh hK K HH bw
      have HH := Lib.hid HH'.out
      clear HH'
      try simp only [List.getElem_toArray, List.getElem_cons_succ, List.getElem_cons_zero, Act.put, List.setIfInBounds_toArray, List.set_cons_zero, List.set_cons_succ]
      refine wpAnyH_take (i := 19) (v := ?vR119) rfl (by kernel_rfl) (by kernel_rfl) (by kernel_rfl) (fun _ _ _ h => h) (Or.inl ⟨by rfl, fun w' _ => ?yR119⟩) HH.out ?_
      case yR119 => (go_simp; try with_reducible rfl)
      try simp only [List.getElem_toArray, List.getElem_cons_succ, List.getElem_cons_zero, Act.put, List.setIfInBounds_toArray, List.set_cons_zero, List.set_cons_succ]
      refine wpAnyH_take (i := 20) (v := ?vR120) rfl (by kernel_rfl) (by kernel_rfl) (by kernel_rfl) (fun _ _ _ h => h) (Or.inl ⟨by rfl, fun w' _ => ?yR120⟩) HH.out ?_
      case yR120 => (go_simp; try with_reducible rfl)
      try simp only [List.getElem_toArray, List.getElem_cons_succ, List.getElem_cons_zero, Act.put, List.setIfInBounds_toArray, List.set_cons_zero, List.set_cons_succ]
      refine wpAnyH_take (i := 21) (v := ?vR121) rfl (by kernel_rfl) (by kernel_rfl) (by kernel_rfl) (fun _ _ _ h => h) (Or.inl ⟨by rfl, fun w' _ => ?yR121⟩) HH.out ?_
      case yR121 => (go_simp; try with_reducible rfl)
      refine wpAnyH_take (i := 22) (v := ?vR122) rfl (by kernel_rfl) (by kernel_rfl) (by kernel_rfl) (fun _ _ _ h => h) (Or.inl ⟨by rfl, fun w' _ => ?yR122⟩) HH.out ?_
      case yR122 => (go_simp; try with_reducible rfl)
      try simp only [List.getElem_toArray, List.getElem_cons_succ, List.getElem_cons_zero, Act.put, List.setIfInBounds_toArray, List.set_cons_zero, List.set_cons_succ]
      refine wpAnyH_done (by kernel_rfl) ?_ _
      have B1' := Lib.hid HH.out.1
      have B2' := Lib.hid HH.out.2.1
      have BB' := Lib.hid HH.out.2.2
      clear HH B1 B2 BB
      have B1 := Lib.hid B1'.out
      have B2 := Lib.hid B2'.out
      have BB := Lib.hid BB'.out
      clear B1' B2' BB'
      have c00 := B1.out.cell 0
      have c01 := B1.out.cell 1
      have c10 := B2.out.cell 0
      have c11 := B2.out.cell 1
      go_wp2_with fail
      clear c00 c01 c10 c11
      refine wp_region_held_drew (S := (fun w' => Blk w' w.heap.size #[.int .i64 a, .int .i64 b] 23 ∧ Blk w' g4 #[.int .i64 (a + 1), .int .i64 b] 23 ∧ Below w.heap.size w w')) (by kernel_rfl) ⟨(show Blk (World.drew _) _ _ _ from B1.out), (show Blk (World.drew _) _ _ _ from B2.out), BB.out.drew⟩ (fun hh => ?_)
      have HH := Lib.hid hh
      clear hh
      refine wpAnyH_take (i := 0) (v := .agg #[.int .i64 a, .int .i64 b]) rfl (by kernel_rfl) (by kernel_rfl) (by kernel_rfl) (fun _ _ _ h => h) (Or.inl ⟨by rfl, fun w' hw' => ?yR20⟩) HH.out ?_
      case yR20 => exact exec_load 23 (.tmp 1) rfl rfl hw'.1 Try.underlying23 rfl rfl
      refine wpAnyH_take (i := 2) (v := .agg #[.int .i64 a, .int .i64 b]) rfl (by kernel_rfl) (by kernel_rfl) (by kernel_rfl) (fun _ _ _ h => h) (Or.inl ⟨by rfl, fun w' hw' => ?yR22⟩) HH.out ?_
      case yR22 => exact exec_load 23 (.tmp 1) rfl rfl hw'.1 Try.underlying23 rfl rfl
      try simp only [List.getElem_toArray, List.getElem_cons_succ, List.getElem_cons_zero, Act.put, List.setIfInBounds_toArray, List.set_cons_zero, List.set_cons_succ]
      refine wpAnyH_take (i := 5) (v := ?vR25) rfl (by kernel_rfl) (by kernel_rfl) (by kernel_rfl) (fun _ _ _ h => h) (Or.inl ⟨by rfl, fun w' _ => ?yR25⟩) HH.out ?_
      case yR25 => (go_simp; try with_reducible rfl)
      try simp only [List.getElem_toArray, List.getElem_cons_succ, List.getElem_cons_zero, Act.put, List.setIfInBounds_toArray, List.set_cons_zero, List.set_cons_succ]
      refine wpAnyH_take (i := 6) (v := .int .i64 b) rfl (by kernel_rfl) (by kernel_rfl) (by kernel_rfl) (fun _ _ _ h => h) (Or.inl ⟨by rfl, fun w' hw' => ?yR26⟩) HH.out ?_
      case yR26 => (have hc := Blk.cell hw'.1 1; go_simp; try with_reducible rfl)
      refine wpAnyH_take (i := 7) (v := ?vR27) rfl (by kernel_rfl) (by kernel_rfl) (by kernel_rfl) (fun _ _ _ h => h) (Or.inl ⟨by rfl, fun w' _ => ?yR27⟩) HH.out ?_
      case yR27 => (go_simp; try with_reducible rfl)
      try simp only [List.getElem_toArray, List.getElem_cons_succ, List.getElem_cons_zero, Act.put, List.setIfInBounds_toArray, List.set_cons_zero, List.set_cons_succ]
      refine wpAnyH_ready (rs := [1]) (by kernel_rfl) (by simp) (AllReadyH.cons rfl (fun K hK => ?_) AllReadyH.nil)
      go_simp
      refine (most_let hok HM1.out _).mono ?_
      rintro e w921 ⟨rfl, bw⟩
      go_simp
      refine hK.out _ _ ⟨HH.out.1.below bw, HH.out.2.1.below bw, HH.out.2.2.trans (bw.mono HH.out.2.2.size)⟩ (fun hh => ?_)
      have HH' := Lib.hid hh
      clear hh hK K HH bw
      have HH := Lib.hid HH'.out
      clear HH'
      try simp only [List.getElem_toArray, List.getElem_cons_succ, List.getElem_cons_zero, Act.put, List.setIfInBounds_toArray, List.set_cons_zero, List.set_cons_succ]
      refine wpAnyH_ready (rs := [3]) (by kernel_rfl) (by simp) (AllReadyH.cons rfl (fun K hK => ?_) AllReadyH.nil)
      go_simp
      refine (sectors_let hok HT1.out _).mono ?_
      rintro e w923 ⟨rfl, bw⟩
      go_simp
      refine hK.out _ _ ⟨HH.out.1.below bw, HH.out.2.1.below bw, HH.out.2.2.trans (bw.mono HH.out.2.2.size)⟩ (fun hh => ?_)
      have HH' := Lib.hid hh
      clear hh hK K HH bw
      have HH := Lib.hid HH'.out
      clear HH'
      refine wpAnyH_take (i := 4) (v := ?vR24) rfl (by kernel_rfl) (by kernel_rfl) (by kernel_rfl) (fun _ _ _ h => h) (Or.inl ⟨by rfl, fun w' _ => ?yR24⟩) HH.out ?_
      case yR24 => (go_simp; try with_reducible rfl)
      try simp only [List.getElem_toArray, List.getElem_cons_succ, List.getElem_cons_zero, Act.put, List.setIfInBounds_toArray, List.set_cons_zero, List.set_cons_succ]
      refine wpAnyH_take (i := 8) (v := ?vR28) rfl (by kernel_rfl) (by kernel_rfl) (by kernel_rfl) (fun _ _ _ h => h) (Or.inl ⟨by rfl, fun w' _ => ?yR28⟩) HH.out ?_
      case yR28 => (go_simp; try with_reducible rfl)
      refine wpAnyH_take (i := 9) (v := ?vR29) rfl (by kernel_rfl) (by kernel_rfl) (by kernel_rfl) (fun _ _ _ h => h) (Or.inl ⟨by rfl, fun w' _ => ?yR29⟩) HH.out ?_
      case yR29 => (go_simp; try with_reducible rfl)
      refine wpAnyH_take (i := 10) (v := ?vR210) rfl (by kernel_rfl) (by kernel_rfl) (by kernel_rfl) (fun _ _ _ h => h) (Or.inl ⟨by rfl, fun w' _ => ?yR210⟩) HH.out ?_
      case yR210 => (go_simp; try with_reducible rfl)
      try simp only [List.getElem_toArray, List.getElem_cons_succ, List.getElem_cons_zero, Act.put, List.setIfInBounds_toArray, List.set_cons_zero, List.set_cons_succ]
      refine wpAnyH_take (i := 11) (v := .agg #[.int .i64 a, .int .i64 b]) rfl (by kernel_rfl) (by kernel_rfl) (by kernel_rfl) (fun _ _ _ h => h) (Or.inl ⟨by rfl, fun w' hw' => ?yR211⟩) HH.out ?_
      case yR211 => exact exec_load 23 (.tmp 1) rfl rfl hw'.1 Try.underlying23 rfl rfl
      try simp only [List.getElem_toArray, List.getElem_cons_succ, List.getElem_cons_zero, Act.put, List.setIfInBounds_toArray, List.set_cons_zero, List.set_cons_succ]
      refine wpAnyH_take (i := 13) (v := ?vR213) rfl (by kernel_rfl) (by kernel_rfl) (by kernel_rfl) (fun _ _ _ h => h) (Or.inl ⟨by rfl, fun w' _ => ?yR213⟩) HH.out ?_
      case yR213 => (go_simp; try with_reducible rfl)
      try simp only [List.getElem_toArray, List.getElem_cons_succ, List.getElem_cons_zero, Act.put, List.setIfInBounds_toArray, List.set_cons_zero, List.set_cons_succ]
      refine wpAnyH_take (i := 14) (v := .int .i64 b) rfl (by kernel_rfl) (by kernel_rfl) (by kernel_rfl) (fun _ _ _ h => h) (Or.inl ⟨by rfl, fun w' hw' => ?yR214⟩) HH.out ?_
      case yR214 => (have hc := Blk.cell hw'.1 1; go_simp; try with_reducible rfl)
      try simp only [List.getElem_toArray, List.getElem_cons_succ, List.getElem_cons_zero, Act.put, List.setIfInBounds_toArray, List.set_cons_zero, List.set_cons_succ]
      try simp only [List.getElem_toArray, List.getElem_cons_succ, List.getElem_cons_zero, Act.put, List.setIfInBounds_toArray, List.set_cons_zero, List.set_cons_succ]
      refine wpAnyH_ready (rs := [12]) (by kernel_rfl) (by simp) (AllReadyH.cons rfl (fun K hK => ?_) AllReadyH.nil)
      rw [if_pos (by rfl)]
      go_simp
      refine (most_let hok HM1.out _).mono ?_
      rintro e w9212 ⟨rfl, bw⟩
      go_simp
      refine hK.out _ _ ⟨HH.out.1.below bw, HH.out.2.1.below bw, HH.out.2.2.trans (bw.mono HH.out.2.2.size)⟩ (fun hh => ?_)
      have HH' := Lib.hid hh
      clear hh hK K HH bw
      have HH := Lib.hid HH'.out
      clear HH'
      try simp only [List.getElem_toArray, List.getElem_cons_succ, List.getElem_cons_zero, Act.put, List.setIfInBounds_toArray, List.set_cons_zero, List.set_cons_succ]
      refine wpAnyH_take (i := 15) (v := ?vR215) rfl (by kernel_rfl) (by kernel_rfl) (by kernel_rfl) (fun _ _ _ h => h) (Or.inl ⟨by rfl, fun w' _ => ?yR215⟩) HH.out ?_
      case yR215 => (go_simp; try with_reducible rfl)
      try simp only [List.getElem_toArray, List.getElem_cons_succ, List.getElem_cons_zero, Act.put, List.setIfInBounds_toArray, List.set_cons_zero, List.set_cons_succ]
      refine wpAnyH_take (i := 16) (v := ?vR216) rfl (by kernel_rfl) (by kernel_rfl) (by kernel_rfl) (fun _ _ _ h => h) (Or.inl ⟨by rfl, fun w' _ => ?yR216⟩) HH.out ?_
      case yR216 => (go_simp; try with_reducible rfl)
      try simp only [List.getElem_toArray, List.getElem_cons_succ, List.getElem_cons_zero, Act.put, List.setIfInBounds_toArray, List.set_cons_zero, List.set_cons_succ]
      refine wpAnyH_take (i := 17) (v := ?vR217) rfl (by kernel_rfl) (by kernel_rfl) (by kernel_rfl) (fun _ _ _ h => h) (Or.inl ⟨by rfl, fun w' _ => ?yR217⟩) HH.out ?_
      case yR217 => (go_simp; try with_reducible rfl)
      try simp only [List.getElem_toArray, List.getElem_cons_succ, List.getElem_cons_zero, Act.put, List.setIfInBounds_toArray, List.set_cons_zero, List.set_cons_succ]
      refine wpAnyH_done (by kernel_rfl) ?_ _
      have B1' := Lib.hid HH.out.1
      have B2' := Lib.hid HH.out.2.1
      have BB' := Lib.hid HH.out.2.2
      clear HH B1 B2 BB
      have B1 := Lib.hid B1'.out
      have B2 := Lib.hid B2'.out
      have BB := Lib.hid BB'.out
      clear B1' B2' BB'
      have c00 := B1.out.cell 0
      have c01 := B1.out.cell 1
      have c10 := B2.out.cell 0
      have c11 := B2.out.cell 1
      go_wp2_with fail
      clear c00 c01 c10 c11
      go_ret
      exact ⟨rfl, BB.out⟩
    · skip
      have ho := hok
      have hmm := Sg.ok_mul hok
      unfold okS at ho
      have k0 : IntKind.i64.wrap (a + 1) = a + 1 := by rw [IntWalk.i64_in _ (by omega)]
      obtain ⟨m1, hm1⟩ : ∃ x, x = (a - 2) * b := ⟨_, rfl⟩
      obtain ⟨t1, ht1⟩ : ∃ x, x = 2 + a * b := ⟨_, rfl⟩
      have HM1 := Lib.hid hm1
      have HT1 := Lib.hid ht1
      have k1 : (a - 2) * b = a * b - 2 * b := Int.sub_mul a 2 b
      have k2 : 1 * b ≤ (a - 2) * b := Int.mul_le_mul_of_nonneg_right (by omega) (by omega)
      have e5 : IntKind.i64.wrap (t1 - 2) = t1 - 2 := by rw [IntWalk.i64_in _ (by omega)]
      have e6 : IntKind.i64.wrap (2 * b) = 2 * b := by rw [IntWalk.i64_in _ (by omega)]
      have e7 : IntKind.i64.wrap (t1 - 2 - 2 * b) = m1 := by rw [IntWalk.i64_in _ (by omega)]; omega
      have d1 : decide (b ≤ m1) = true := decide_eq_true (by omega)
      clear ho hmm k1 k2 hm1 ht1
      go_enter Try.func7, Try.ntmps7
      go_wp2_with fail
      refine (Sg.awake_any _).mono ?_
      rintro e w2 ⟨rfl, bw⟩
      have B1' := Lib.hid (B1.out.below bw)
      have BB' := Lib.hid (BB.out.trans (bw.mono BB.out.size))
      clear B1 BB bw
      have B1 := Lib.hid B1'.out
      have BB := Lib.hid BB'.out
      clear B1' BB'
      have c00 := B1.out.cell 0
      have c01 := B1.out.cell 1
      go_wp2_with fail
      clear c00 c01
      refine (Sg.check_yes a b hok _).mono ?_
      rintro e w3 ⟨rfl, bw⟩
      have B1' := Lib.hid (B1.out.below bw)
      have BB' := Lib.hid (BB.out.trans (bw.mono BB.out.size))
      clear B1 BB bw
      have B1 := Lib.hid B1'.out
      have BB := Lib.hid BB'.out
      clear B1' BB'
      have c00 := B1.out.cell 0
      have c01 := B1.out.cell 1
      go_wp2_with fail
      clear c00 c01
      obtain ⟨w4, hw4⟩ : ∃ x, x = w3.alloc (.cells #[.int .i64 (a + 1), .int .i64 b] 23) := ⟨_, rfl⟩
      rw [← hw4]
      have bw : Below w3.heap.size w3 w4 := by rw [hw4]; exact (Below.refl _ _).alloc (Nat.le_refl _) _
      have bx : Blk w4 w3.heap.size #[.int .i64 (a + 1), .int .i64 b] 23 := by rw [hw4]; exact heap_alloc_new _ _
      obtain ⟨g4, hg4⟩ : ∃ x, x = w3.heap.size := ⟨_, rfl⟩
      rw [← hg4] at bx ⊢
      clear hw4
      have B1' := Lib.hid (B1.out.below bw)
      have BB' := Lib.hid (BB.out.trans (bw.mono BB.out.size))
      clear B1 BB bw
      have B1 := Lib.hid B1'.out
      have BB := Lib.hid BB'.out
      clear B1' BB'
      have B2 := Lib.hid bx
      clear bx hg4
      refine wp_region_held_drew (S := (fun w' => Blk w' w.heap.size #[.int .i64 a, .int .i64 b] 23 ∧ Blk w' g4 #[.int .i64 (a + 1), .int .i64 b] 23 ∧ Below w.heap.size w w')) (by kernel_rfl) ⟨(show Blk (World.drew _) _ _ _ from B1.out), (show Blk (World.drew _) _ _ _ from B2.out), BB.out.drew⟩ (fun hh => ?_)
      have HH := Lib.hid hh
      clear hh
      refine wpAnyH_take (i := 0) (v := .agg #[.int .i64 (a + 1), .int .i64 b]) rfl (by kernel_rfl) (by kernel_rfl) (by kernel_rfl) (fun _ _ _ h => h) (Or.inl ⟨by rfl, fun w' hw' => ?yR30⟩) HH.out ?_
      case yR30 => exact exec_load 23 (.tmp 3) rfl rfl hw'.2.1 Try.underlying23 rfl rfl
      try simp only [List.getElem_toArray, List.getElem_cons_zero, Act.put, List.setIfInBounds_toArray, List.set_cons_zero, List.set_cons_succ]
      refine wpAnyH_ready (rs := [1]) (by kernel_rfl) (by simp) (AllReadyH.cons rfl (fun K hK => ?_) AllReadyH.nil)
      go_simp
      refine (Sg.check_no (a + 1) b hot _).mono ?_
      rintro e w931 ⟨rfl, bw⟩
      go_simp
      refine hK.out _ _ ⟨HH.out.1.below bw, HH.out.2.1.below bw, HH.out.2.2.trans (bw.mono HH.out.2.2.size)⟩ (fun hh => ?_)
      have HH' := Lib.hid hh
      clear hh hK K HH bw
      have HH := Lib.hid HH'.out
      clear HH'
      try simp only [List.getElem_toArray, List.getElem_cons_succ, List.getElem_cons_zero, Act.put, List.setIfInBounds_toArray, List.set_cons_zero, List.set_cons_succ]
      refine wpAnyH_take (i := 2) (v := ?vR32) rfl (by kernel_rfl) (by kernel_rfl) (by kernel_rfl) (fun _ _ _ h => h) (Or.inl ⟨by rfl, fun w' _ => ?yR32⟩) HH.out ?_
      case yR32 => (go_simp; try with_reducible rfl)
      refine wpAnyH_take (i := 3) (v := ?vR33) rfl (by kernel_rfl) (by kernel_rfl) (by kernel_rfl) (fun _ _ _ h => h) (Or.inl ⟨by rfl, fun w' _ => ?yR33⟩) HH.out ?_
      case yR33 => (go_simp; try with_reducible rfl)
      refine wpAnyH_take (i := 4) (v := undef) rfl (by kernel_rfl) (by kernel_rfl) (by kernel_rfl) (fun _ _ _ h => h) (Or.inr ⟨by rfl, rfl⟩) HH.out ?_
      try simp only [List.getElem_toArray, List.getElem_cons_succ, List.getElem_cons_zero, Act.put, List.setIfInBounds_toArray, List.set_cons_zero, List.set_cons_succ]
      refine wpAnyH_take (i := 5) (v := undef) rfl (by kernel_rfl) (by kernel_rfl) (by kernel_rfl) (fun _ _ _ h => h) (Or.inr ⟨by rfl, rfl⟩) HH.out ?_
      refine wpAnyH_take (i := 6) (v := undef) rfl (by kernel_rfl) (by kernel_rfl) (by kernel_rfl) (fun _ _ _ h => h) (Or.inr ⟨by rfl, rfl⟩) HH.out ?_
      refine wpAnyH_take (i := 7) (v := undef) rfl (by kernel_rfl) (by kernel_rfl) (by kernel_rfl) (fun _ _ _ h => h) (Or.inr ⟨by rfl, rfl⟩) HH.out ?_
      try simp only [List.getElem_toArray, List.getElem_cons_succ, List.getElem_cons_zero, Act.put, List.setIfInBounds_toArray, List.set_cons_zero, List.set_cons_succ]
      refine wpAnyH_take (i := 8) (v := undef) rfl (by kernel_rfl) (by kernel_rfl) (by kernel_rfl) (fun _ _ _ h => h) (Or.inr ⟨by rfl, rfl⟩) HH.out ?_
      refine wpAnyH_take (i := 9) (v := undef) rfl (by kernel_rfl) (by kernel_rfl) (by kernel_rfl) (fun _ _ _ h => h) (Or.inr ⟨by rfl, rfl⟩) HH.out ?_
      refine wpAnyH_take (i := 10) (v := undef) rfl (by kernel_rfl) (by kernel_rfl) (by kernel_rfl) (fun _ _ _ h => h) (Or.inr ⟨by rfl, rfl⟩) HH.out ?_
      try simp only [List.getElem_toArray, List.getElem_cons_succ, List.getElem_cons_zero, Act.put, List.setIfInBounds_toArray, List.set_cons_zero, List.set_cons_succ]
      refine wpAnyH_take (i := 11) (v := undef) rfl (by kernel_rfl) (by kernel_rfl) (by kernel_rfl) (fun _ _ _ h => h) (Or.inr ⟨by rfl, rfl⟩) HH.out ?_
      refine wpAnyH_take (i := 12) (v := undef) rfl (by kernel_rfl) (by kernel_rfl) (by kernel_rfl) (fun _ _ _ h => h) (Or.inr ⟨by rfl, rfl⟩) HH.out ?_
      refine wpAnyH_take (i := 13) (v := undef) rfl (by kernel_rfl) (by kernel_rfl) (by kernel_rfl) (fun _ _ _ h => h) (Or.inr ⟨by rfl, rfl⟩) HH.out ?_
      try simp only [List.getElem_toArray, List.getElem_cons_succ, List.getElem_cons_zero, Act.put, List.setIfInBounds_toArray, List.set_cons_zero, List.set_cons_succ]
      refine wpAnyH_take (i := 14) (v := undef) rfl (by kernel_rfl) (by kernel_rfl) (by kernel_rfl) (fun _ _ _ h => h) (Or.inr ⟨by rfl, rfl⟩) HH.out ?_
      refine wpAnyH_take (i := 15) (v := undef) rfl (by kernel_rfl) (by kernel_rfl) (by kernel_rfl) (fun _ _ _ h => h) (Or.inr ⟨by rfl, rfl⟩) HH.out ?_
      refine wpAnyH_take (i := 16) (v := undef) rfl (by kernel_rfl) (by kernel_rfl) (by kernel_rfl) (fun _ _ _ h => h) (Or.inr ⟨by rfl, rfl⟩) HH.out ?_
      try simp only [List.getElem_toArray, List.getElem_cons_succ, List.getElem_cons_zero, Act.put, List.setIfInBounds_toArray, List.set_cons_zero, List.set_cons_succ]
      refine wpAnyH_take (i := 17) (v := undef) rfl (by kernel_rfl) (by kernel_rfl) (by kernel_rfl) (fun _ _ _ h => h) (Or.inr ⟨by rfl, rfl⟩) HH.out ?_
      refine wpAnyH_take (i := 18) (v := undef) rfl (by kernel_rfl) (by kernel_rfl) (by kernel_rfl) (fun _ _ _ h => h) (Or.inr ⟨by rfl, rfl⟩) HH.out ?_
      refine wpAnyH_take (i := 19) (v := undef) rfl (by kernel_rfl) (by kernel_rfl) (by kernel_rfl) (fun _ _ _ h => h) (Or.inr ⟨by rfl, rfl⟩) HH.out ?_
      try simp only [List.getElem_toArray, List.getElem_cons_succ, List.getElem_cons_zero, Act.put, List.setIfInBounds_toArray, List.set_cons_zero, List.set_cons_succ]
      refine wpAnyH_take (i := 20) (v := undef) rfl (by kernel_rfl) (by kernel_rfl) (by kernel_rfl) (fun _ _ _ h => h) (Or.inr ⟨by rfl, rfl⟩) HH.out ?_
      refine wpAnyH_take (i := 21) (v := undef) rfl (by kernel_rfl) (by kernel_rfl) (by kernel_rfl) (fun _ _ _ h => h) (Or.inr ⟨by rfl, rfl⟩) HH.out ?_
      refine wpAnyH_take (i := 22) (v := ?vR322) rfl (by kernel_rfl) (by kernel_rfl) (by kernel_rfl) (fun _ _ _ h => h) (Or.inl ⟨by rfl, fun w' _ => ?yR322⟩) HH.out ?_
      case yR322 => (go_simp; try with_reducible rfl)
      try simp only [List.getElem_toArray, List.getElem_cons_succ, List.getElem_cons_zero, Act.put, List.setIfInBounds_toArray, List.set_cons_zero, List.set_cons_succ]
      refine wpAnyH_done (by kernel_rfl) ?_ _
      have B1' := Lib.hid HH.out.1
      have B2' := Lib.hid HH.out.2.1
      have BB' := Lib.hid HH.out.2.2
      clear HH B1 B2 BB
      have B1 := Lib.hid B1'.out
      have B2 := Lib.hid B2'.out
      have BB := Lib.hid BB'.out
      clear B1' B2' BB'
      have c00 := B1.out.cell 0
      have c01 := B1.out.cell 1
      have c10 := B2.out.cell 0
      have c11 := B2.out.cell 1
      go_wp2_with fail
      clear c00 c01 c10 c11
      refine wp_region_held_drew (S := (fun w' => Blk w' w.heap.size #[.int .i64 a, .int .i64 b] 23 ∧ Blk w' g4 #[.int .i64 (a + 1), .int .i64 b] 23 ∧ Below w.heap.size w w')) (by kernel_rfl) ⟨(show Blk (World.drew _) _ _ _ from B1.out), (show Blk (World.drew _) _ _ _ from B2.out), BB.out.drew⟩ (fun hh => ?_)
      have HH := Lib.hid hh
      clear hh
      refine wpAnyH_take (i := 0) (v := .agg #[.int .i64 a, .int .i64 b]) rfl (by kernel_rfl) (by kernel_rfl) (by kernel_rfl) (fun _ _ _ h => h) (Or.inl ⟨by rfl, fun w' hw' => ?yR40⟩) HH.out ?_
      case yR40 => exact exec_load 23 (.tmp 1) rfl rfl hw'.1 Try.underlying23 rfl rfl
      refine wpAnyH_take (i := 2) (v := .agg #[.int .i64 a, .int .i64 b]) rfl (by kernel_rfl) (by kernel_rfl) (by kernel_rfl) (fun _ _ _ h => h) (Or.inl ⟨by rfl, fun w' hw' => ?yR42⟩) HH.out ?_
      case yR42 => exact exec_load 23 (.tmp 1) rfl rfl hw'.1 Try.underlying23 rfl rfl
      try simp only [List.getElem_toArray, List.getElem_cons_succ, List.getElem_cons_zero, Act.put, List.setIfInBounds_toArray, List.set_cons_zero, List.set_cons_succ]
      refine wpAnyH_take (i := 5) (v := ?vR45) rfl (by kernel_rfl) (by kernel_rfl) (by kernel_rfl) (fun _ _ _ h => h) (Or.inl ⟨by rfl, fun w' _ => ?yR45⟩) HH.out ?_
      case yR45 => (go_simp; try with_reducible rfl)
      try simp only [List.getElem_toArray, List.getElem_cons_succ, List.getElem_cons_zero, Act.put, List.setIfInBounds_toArray, List.set_cons_zero, List.set_cons_succ]
      refine wpAnyH_take (i := 6) (v := .int .i64 b) rfl (by kernel_rfl) (by kernel_rfl) (by kernel_rfl) (fun _ _ _ h => h) (Or.inl ⟨by rfl, fun w' hw' => ?yR46⟩) HH.out ?_
      case yR46 => (have hc := Blk.cell hw'.1 1; go_simp; try with_reducible rfl)
      refine wpAnyH_take (i := 7) (v := ?vR47) rfl (by kernel_rfl) (by kernel_rfl) (by kernel_rfl) (fun _ _ _ h => h) (Or.inl ⟨by rfl, fun w' _ => ?yR47⟩) HH.out ?_
      case yR47 => (go_simp; try with_reducible rfl)
      try simp only [List.getElem_toArray, List.getElem_cons_succ, List.getElem_cons_zero, Act.put, List.setIfInBounds_toArray, List.set_cons_zero, List.set_cons_succ]
      refine wpAnyH_ready (rs := [1]) (by kernel_rfl) (by simp) (AllReadyH.cons rfl (fun K hK => ?_) AllReadyH.nil)
      go_simp
      refine (most_let hok HM1.out _).mono ?_
      rintro e w941 ⟨rfl, bw⟩
      go_simp
      refine hK.out _ _ ⟨HH.out.1.below bw, HH.out.2.1.below bw, HH.out.2.2.trans (bw.mono HH.out.2.2.size)⟩ (fun hh => ?_)
      have HH' := Lib.hid hh
      clear hh hK K HH bw
      have HH := Lib.hid HH'.out
      clear HH'
      try simp only [List.getElem_toArray, List.getElem_cons_succ, List.getElem_cons_zero, Act.put, List.setIfInBounds_toArray, List.set_cons_zero, List.set_cons_succ]
      refine wpAnyH_ready (rs := [3]) (by kernel_rfl) (by simp) (AllReadyH.cons rfl (fun K hK => ?_) AllReadyH.nil)
      go_simp
      refine (sectors_let hok HT1.out _).mono ?_
      rintro e w943 ⟨rfl, bw⟩
      go_simp
      refine hK.out _ _ ⟨HH.out.1.below bw, HH.out.2.1.below bw, HH.out.2.2.trans (bw.mono HH.out.2.2.size)⟩ (fun hh => ?_)
      have HH' := Lib.hid hh
      clear hh hK K HH bw
      have HH := Lib.hid HH'.out
      clear HH'
      refine wpAnyH_take (i := 4) (v := ?vR44) rfl (by kernel_rfl) (by kernel_rfl) (by kernel_rfl) (fun _ _ _ h => h) (Or.inl ⟨by rfl, fun w' _ => ?yR44⟩) HH.out ?_
      case yR44 => (go_simp; try with_reducible rfl)
      try simp only [List.getElem_toArray, List.getElem_cons_succ, List.getElem_cons_zero, Act.put, List.setIfInBounds_toArray, List.set_cons_zero, List.set_cons_succ]
      refine wpAnyH_take (i := 8) (v := ?vR48) rfl (by kernel_rfl) (by kernel_rfl) (by kernel_rfl) (fun _ _ _ h => h) (Or.inl ⟨by rfl, fun w' _ => ?yR48⟩) HH.out ?_
      case yR48 => (go_simp; try with_reducible rfl)
      refine wpAnyH_take (i := 9) (v := ?vR49) rfl (by kernel_rfl) (by kernel_rfl) (by kernel_rfl) (fun _ _ _ h => h) (Or.inl ⟨by rfl, fun w' _ => ?yR49⟩) HH.out ?_
      case yR49 => (go_simp; try with_reducible rfl)
      refine wpAnyH_take (i := 10) (v := ?vR410) rfl (by kernel_rfl) (by kernel_rfl) (by kernel_rfl) (fun _ _ _ h => h) (Or.inl ⟨by rfl, fun w' _ => ?yR410⟩) HH.out ?_
      case yR410 => (go_simp; try with_reducible rfl)
      try simp only [List.getElem_toArray, List.getElem_cons_succ, List.getElem_cons_zero, Act.put, List.setIfInBounds_toArray, List.set_cons_zero, List.set_cons_succ]
      refine wpAnyH_take (i := 11) (v := .agg #[.int .i64 a, .int .i64 b]) rfl (by kernel_rfl) (by kernel_rfl) (by kernel_rfl) (fun _ _ _ h => h) (Or.inl ⟨by rfl, fun w' hw' => ?yR411⟩) HH.out ?_
      case yR411 => exact exec_load 23 (.tmp 1) rfl rfl hw'.1 Try.underlying23 rfl rfl
      try simp only [List.getElem_toArray, List.getElem_cons_succ, List.getElem_cons_zero, Act.put, List.setIfInBounds_toArray, List.set_cons_zero, List.set_cons_succ]
      refine wpAnyH_take (i := 13) (v := ?vR413) rfl (by kernel_rfl) (by kernel_rfl) (by kernel_rfl) (fun _ _ _ h => h) (Or.inl ⟨by rfl, fun w' _ => ?yR413⟩) HH.out ?_
      case yR413 => (go_simp; try with_reducible rfl)
      try simp only [List.getElem_toArray, List.getElem_cons_succ, List.getElem_cons_zero, Act.put, List.setIfInBounds_toArray, List.set_cons_zero, List.set_cons_succ]
      refine wpAnyH_take (i := 14) (v := .int .i64 b) rfl (by kernel_rfl) (by kernel_rfl) (by kernel_rfl) (fun _ _ _ h => h) (Or.inl ⟨by rfl, fun w' hw' => ?yR414⟩) HH.out ?_
      case yR414 => (have hc := Blk.cell hw'.1 1; go_simp; try with_reducible rfl)
      try simp only [List.getElem_toArray, List.getElem_cons_succ, List.getElem_cons_zero, Act.put, List.setIfInBounds_toArray, List.set_cons_zero, List.set_cons_succ]
      try simp only [List.getElem_toArray, List.getElem_cons_succ, List.getElem_cons_zero, Act.put, List.setIfInBounds_toArray, List.set_cons_zero, List.set_cons_succ]
      refine wpAnyH_ready (rs := [12]) (by kernel_rfl) (by simp) (AllReadyH.cons rfl (fun K hK => ?_) AllReadyH.nil)
      rw [if_pos (by rfl)]
      go_simp
      refine (most_let hok HM1.out _).mono ?_
      rintro e w9412 ⟨rfl, bw⟩
      go_simp
      refine hK.out _ _ ⟨HH.out.1.below bw, HH.out.2.1.below bw, HH.out.2.2.trans (bw.mono HH.out.2.2.size)⟩ (fun hh => ?_)
      have HH' := Lib.hid hh
      clear hh hK K HH bw
      have HH := Lib.hid HH'.out
      clear HH'
      try simp only [List.getElem_toArray, List.getElem_cons_succ, List.getElem_cons_zero, Act.put, List.setIfInBounds_toArray, List.set_cons_zero, List.set_cons_succ]
      refine wpAnyH_take (i := 15) (v := ?vR415) rfl (by kernel_rfl) (by kernel_rfl) (by kernel_rfl) (fun _ _ _ h => h) (Or.inl ⟨by rfl, fun w' _ => ?yR415⟩) HH.out ?_
      case yR415 => (go_simp; try with_reducible rfl)
      try simp only [List.getElem_toArray, List.getElem_cons_succ, List.getElem_cons_zero, Act.put, List.setIfInBounds_toArray, List.set_cons_zero, List.set_cons_succ]
      refine wpAnyH_take (i := 16) (v := ?vR416) rfl (by kernel_rfl) (by kernel_rfl) (by kernel_rfl) (fun _ _ _ h => h) (Or.inl ⟨by rfl, fun w' _ => ?yR416⟩) HH.out ?_
      case yR416 => (go_simp; try with_reducible rfl)
      try simp only [List.getElem_toArray, List.getElem_cons_succ, List.getElem_cons_zero, Act.put, List.setIfInBounds_toArray, List.set_cons_zero, List.set_cons_succ]
      refine wpAnyH_take (i := 17) (v := ?vR417) rfl (by kernel_rfl) (by kernel_rfl) (by kernel_rfl) (fun _ _ _ h => h) (Or.inl ⟨by rfl, fun w' _ => ?yR417⟩) HH.out ?_
      case yR417 => (go_simp; try with_reducible rfl)
      try simp only [List.getElem_toArray, List.getElem_cons_succ, List.getElem_cons_zero, Act.put, List.setIfInBounds_toArray, List.set_cons_zero, List.set_cons_succ]
      refine wpAnyH_done (by kernel_rfl) ?_ _
      have B1' := Lib.hid HH.out.1
      have B2' := Lib.hid HH.out.2.1
      have BB' := Lib.hid HH.out.2.2
      clear HH B1 B2 BB
      have B1 := Lib.hid B1'.out
      have B2 := Lib.hid B2'.out
      have BB := Lib.hid BB'.out
      clear B1' B2' BB'
      have c00 := B1.out.cell 0
      have c01 := B1.out.cell 1
      have c10 := B2.out.cell 0
      have c11 := B2.out.cell 1
      go_wp2_with fail
      clear c00 c01 c10 c11
      go_ret
      exact ⟨rfl, BB.out⟩
  · skip
    go_enter Try.func7, Try.ntmps7
    go_wp2_with fail
    refine (Sg.awake_any _).mono ?_
    rintro e w2 ⟨rfl, bw⟩
    have B1' := Lib.hid (B1.out.below bw)
    have BB' := Lib.hid (BB.out.trans (bw.mono BB.out.size))
    clear B1 BB bw
    have B1 := Lib.hid B1'.out
    have BB := Lib.hid BB'.out
    clear B1' BB'
    have c00 := B1.out.cell 0
    have c01 := B1.out.cell 1
    go_wp2_with fail
    clear c00 c01
    refine (Sg.check_no a b hok _).mono ?_
    rintro e w3 ⟨rfl, bw⟩
    have B1' := Lib.hid (B1.out.below bw)
    have BB' := Lib.hid (BB.out.trans (bw.mono BB.out.size))
    clear B1 BB bw
    have B1 := Lib.hid B1'.out
    have BB := Lib.hid BB'.out
    clear B1' BB'
    have c00 := B1.out.cell 0
    have c01 := B1.out.cell 1
    go_wp2_with fail
    clear c00 c01
    refine (Sg.awake_any _).mono ?_
    rintro e w4 ⟨rfl, bw⟩
    have B1' := Lib.hid (B1.out.below bw)
    have BB' := Lib.hid (BB.out.trans (bw.mono BB.out.size))
    clear B1 BB bw
    have B1 := Lib.hid B1'.out
    have BB := Lib.hid BB'.out
    clear B1' BB'
    go_wp2_with fail
    go_ret
    exact ⟨rfl, BB.out⟩
theorem segmentMost_own : ownKnob Try.prog.godebug = none := by kernel_rfl
theorem segmentMost_laid : laidOutB Try.prog = true := by kernel_rfl

set_option maxRecDepth 100000 in
theorem segmentMost_lifted (os : Os) (started : os.Started) (H : Type) (enc : TypeId × Value → H) :
    ReturnsInHanded {} Try.checked os 7 .any (Rows.segmentMostSpec.pre6 enc Try.prog Try.f7 Rows.segmentMostRow.domain false) (Rows.segmentMostSpec.post enc Try.prog Try.f7 false true false false) := by
  refine returnsInHanded_of_change (C := Try.checked) segmentMost_own started (by kernel_rfl) Try.func7
    (ChangeSpec.witness6 (enc := enc) (C := Try.checked) false ⟨#[], #[.agg #[.int .i64 0, .int .i64 0]], []⟩ 8 (by kernel_rfl) (by kernel_rfl) (by kernel_rfl) (by kernel_rfl)) ?_
  intro W base args ds gs before hval0 hW _ _
  have hval : ∀ (j : Nat) t v, Try.f7.params[j]? = some t → args[j]? = some v → Value.okWide Try.prog W .any base t v := hval0
  have hW' := hW
  obtain ⟨p, q, hA0, hV, rfl, hfz, hnd⟩ := hW
  have hA : DataW.TrodAll enc Try.prog W 0 (fun _ => true) true Try.f7.params.toList args.toList ds p := hA0
  rw [Try.params7] at hA hval
  obtain ⟨v0, vs0, d0, ds0, p0, q0, hargs, rfl, rfl, h0, r0⟩ := trodAll_cons hA
  obtain ⟨rfl, rfl, rfl⟩ := trodAll_nil r0
  obtain rfl : args = #[v0] := by cases args; simp_all
  obtain ⟨rfl, rfl⟩ := trodVars_none hV
  have lt0 : ∀ x ∈ p0, x.block < W.heap.size := by obtain ⟨m, hm⟩ := h0; exact DataW.trod_lt m _ _ _ hm
  obtain ⟨x0, y0, rfl, bx0, by0⟩ := Sg.open_shape (hval 0 23 v0 rfl rfl) h0
  clear hA0 hval0
  refine (segmentMost_any W x0 y0 bx0 by0).mono fun e W' ⟨he, bel⟩ => ?_
  subst he
  exact ⟨_, rfl, _, _, _, [], _, [], hW', trodAll_mk1 (shut_bool Try.underlying4 _), (trodAll_cons_mk (Below.trod segmentMost_laid (by kernel_rfl) (of_decide_eq_true (by kernel_rfl)) h0 bel lt0) trodAll_mk0), rfl, bel.frame _, fun h => by cases h⟩

theorem segmentMost_holds : Rows.SegmentMostSaid :=
  OpenClaim.holds_of_wide 7 Try.f7 rfl rfl rfl rfl rfl rfl rfl ⟨rfl, rfl, rfl, rfl, rfl⟩ rfl rfl rfl rfl rfl (by kernel_rfl) Try.func7 (by kernel_rfl)
    (of_decide_eq_true (by kernel_rfl)) (by unfold Func.isWrapper; rw [if_neg (of_decide_eq_false (by kernel_rfl))]; exact ⟨rfl, rfl⟩)
    (fun os started H enc _ => segmentMost_lifted os started H enc)

#print axioms segmentMost_holds

end Go.Proofs.Ytmokigcplgjgiaa
