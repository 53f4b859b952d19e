/-
  SegmentApart holds: of any shape and any two pairs of bytes the law returns true.
-/
import Derived.Test.YtmokigcplgjgiaaSgAwake
import Derived.Test.YtmokigcplgjgiaaSgOpen
import Derived.Deep.RegionHeld
import Derived.Test.YtmokigcplgjgiaaRows
import Derived.Test.YtmokigcplgjgiaaOpen
import Derived.Test.YtmokigcplgjgiaaOpenA
import Derived.ProofKit
import Derived.OpenShut
import Derived.ShutString
import Derived.ChangeOld
namespace Go.Proofs.Ytmokigcplgjgiaa
open Go.RowKit Sg Go.ChangeShapes Go.WideShapes Go.ChangeAt
attribute [local go_sem ↓] Go.wp_at_zero Go.wp_at_succ
theorem most_let {a b m : Int} (hok : okS a b) (hm : m = (a - 2) * b) (W : World) : Calls Try.prog 16 #[.agg #[.int .i64 a, .int .i64 b]] W (RetB (.int .i64 m) W) := by
  rw [hm]; exact most_yes a b hok W
theorem sector_let {a b i j n : Int} (hin : inS a b i j) (hn : n = 2 + i * b + j) (W : World) : Calls Try.prog 17 #[.agg #[.int .i64 a, .int .i64 b], .int .i64 i, .int .i64 j] W (RetB (.tuple #[.int .i64 n, .bool true]) W) := by
  rw [hn]; exact sector_yes a b i j hin W
theorem mod_in {a x : Int} (hx : 0 ≤ x) (ha : 0 < a) : 0 ≤ x.tmod a ∧ x.tmod a < a := by
  rw [Int.tmod_eq_emod_of_nonneg hx]; exact ⟨Int.emod_nonneg _ (by omega), Int.emod_lt_of_pos _ ha⟩
set_option maxRecDepth 100000 in
set_option maxHeartbeats 12800000 in
theorem segmentApart_core (w : World) (a b x0 x1 y0 y1 : Int) (hx0 : 0 ≤ x0 ∧ x0 ≤ 255) (hx1 : 0 ≤ x1 ∧ x1 ≤ 255) (hy0 : 0 ≤ y0 ∧ y0 ≤ 255) (hy1 : 0 ≤ y1 ∧ y1 ≤ 255) : Calls Try.prog 8 #[.agg #[.int .i64 a, .int .i64 b], .agg #[.int .u8 x0, .int .u8 x1], .agg #[.int .u8 y0, .int .u8 y1]] w (RetB (.bool true) w) := by
  have b3 := three_blocks w (.cells #[.int .i64 a, .int .i64 b] 23) (.cells #[.int .u8 x0, .int .u8 x1] 40) (.cells #[.int .u8 y0, .int .u8 y1] 40)
  have B1 := Lib.hid (show Blk (((w.alloc (.cells #[.int .i64 a, .int .i64 b] 23)).alloc (.cells #[.int .u8 x0, .int .u8 x1] 40)).alloc (.cells #[.int .u8 y0, .int .u8 y1] 40)) w.heap.size #[.int .i64 a, .int .i64 b] 23 from b3.1)
  have B2 := Lib.hid (show Blk (((w.alloc (.cells #[.int .i64 a, .int .i64 b] 23)).alloc (.cells #[.int .u8 x0, .int .u8 x1] 40)).alloc (.cells #[.int .u8 y0, .int .u8 y1] 40)) (w.heap.size + 1) #[.int .u8 x0, .int .u8 x1] 40 from b3.2.1)
  have B3 := Lib.hid (show Blk (((w.alloc (.cells #[.int .i64 a, .int .i64 b] 23)).alloc (.cells #[.int .u8 x0, .int .u8 x1] 40)).alloc (.cells #[.int .u8 y0, .int .u8 y1] 40)) (w.heap.size + 1 + 1) #[.int .u8 y0, .int .u8 y1] 40 from b3.2.2.1)
  have BB := Lib.hid b3.2.2.2
  clear b3
  by_cases hok : okS a b
  · skip
    have ho := hok
    unfold okS at ho
    obtain ⟨i0, hi0⟩ : ∃ z, z = Int.tmod x0 a := ⟨_, rfl⟩
    have ri0 := mod_in hx0.1 (show 0 < a by omega)
    rw [← hi0] at ri0
    have qi0 : Int.tmod x0 a = i0 := hi0.symm
    have zi0 : wrap64 x0 = x0 := by unfold wrap64; omega
    have vi0 : IntKind.i64.wrap x0 = x0 := IntWalk.i64_in _ (by omega)
    obtain ⟨j0, hj0⟩ : ∃ z, z = Int.tmod x1 b := ⟨_, rfl⟩
    have rj0 := mod_in hx1.1 (show 0 < b by omega)
    rw [← hj0] at rj0
    have qj0 : Int.tmod x1 b = j0 := hj0.symm
    have zj0 : wrap64 x1 = x1 := by unfold wrap64; omega
    have vj0 : IntKind.i64.wrap x1 = x1 := IntWalk.i64_in _ (by omega)
    obtain ⟨i1, hi1⟩ : ∃ z, z = Int.tmod y0 a := ⟨_, rfl⟩
    have ri1 := mod_in hy0.1 (show 0 < a by omega)
    rw [← hi1] at ri1
    have qi1 : Int.tmod y0 a = i1 := hi1.symm
    have zi1 : wrap64 y0 = y0 := by unfold wrap64; omega
    have vi1 : IntKind.i64.wrap y0 = y0 := IntWalk.i64_in _ (by omega)
    obtain ⟨j1, hj1⟩ : ∃ z, z = Int.tmod y1 b := ⟨_, rfl⟩
    have rj1 := mod_in hy1.1 (show 0 < b by omega)
    rw [← hj1] at rj1
    have qj1 : Int.tmod y1 b = j1 := hj1.symm
    have zj1 : wrap64 y1 = y1 := by unfold wrap64; omega
    have vj1 : IntKind.i64.wrap y1 = y1 := IntWalk.i64_in _ (by omega)
    have na : a ≠ 0 := by omega
    have nb : b ≠ 0 := by omega
    have HI1 := Lib.hid (show inS a b i0 j0 from ⟨hok, ri0, rj0⟩)
    have HI2 := Lib.hid (show inS a b i1 j1 from ⟨hok, ri1, rj1⟩)
    obtain ⟨n0, hn0⟩ : ∃ z, z = 2 + i0 * b + j0 := ⟨_, rfl⟩
    obtain ⟨n1, hn1⟩ : ∃ z, z = 2 + i1 * b + j1 := ⟨_, rfl⟩
    have HN1 := Lib.hid hn0
    have HN2 := Lib.hid hn1
    clear hi0 hj0 hi1 hj1 hx0 hx1 hy0 hy1
    by_cases ei : i0 = i1
    · skip
      by_cases ej : j0 = j1
      · skip
        subst ei
        subst ej
        have en : n0 = n1 := by rw [hn0, hn1]
        subst en
        clear ho ri0 rj0 ri1 rj1 hn0 hn1
        go_enter Try.func8, Try.ntmps8
        go_wp2_with fail
        refine (Sg.awake_any _).mono ?_
        rintro e w2 ⟨rfl, bw⟩
        have B1' := Lib.hid (B1.out.below bw)
        have B2' := Lib.hid (B2.out.below bw)
        have B3' := Lib.hid (B3.out.below bw)
        have BB' := Lib.hid (BB.out.trans (bw.mono BB.out.size))
        clear B1 B2 B3 BB bw
        have B1 := Lib.hid B1'.out
        have B2 := Lib.hid B2'.out
        have B3 := Lib.hid B3'.out
        have BB := Lib.hid BB'.out
        clear B1' B2' B3' BB'
        have c00 := B1.out.cell 0
        have c01 := B1.out.cell 1
        have c10 := B2.out.cell 0
        have c11 := B2.out.cell 1
        have c20 := B3.out.cell 0
        have c21 := B3.out.cell 1
        go_wp2_with fail
        clear c00 c01 c10 c11 c20 c21
        refine (Sg.check_yes a b hok _).mono ?_
        rintro e w3 ⟨rfl, bw⟩
        have B1' := Lib.hid (B1.out.below bw)
        have B2' := Lib.hid (B2.out.below bw)
        have B3' := Lib.hid (B3.out.below bw)
        have BB' := Lib.hid (BB.out.trans (bw.mono BB.out.size))
        clear B1 B2 B3 BB bw
        have B1 := Lib.hid B1'.out
        have B2 := Lib.hid B2'.out
        have B3 := Lib.hid B3'.out
        have BB := Lib.hid BB'.out
        clear B1' B2' B3' BB'
        have c00 := B1.out.cell 0
        have c01 := B1.out.cell 1
        have c10 := B2.out.cell 0
        have c11 := B2.out.cell 1
        have c20 := B3.out.cell 0
        have c21 := B3.out.cell 1
        go_wp2_with fail
        clear c00 c01 c10 c11 c20 c21
        refine wp_region_held_drew (S := (fun w' => Blk w' (w.heap.size) #[.int .i64 a, .int .i64 b] 23 ∧ Blk w' (w.heap.size + 1) #[.int .u8 x0, .int .u8 x1] 40 ∧ Blk w' (w.heap.size + 1 + 1) #[.int .u8 y0, .int .u8 y1] 40 ∧ Below w.heap.size w w')) (by kernel_rfl) ⟨(show Blk (World.drew _) _ _ _ from B1.out), (show Blk (World.drew _) _ _ _ from B2.out), (show Blk (World.drew _) _ _ _ from B3.out), BB.out.drew⟩ (fun hh => ?_)
        have HH := Lib.hid hh
        clear hh
        refine wpAnyH_take (i := 0) (v := .agg #[.int .i64 a, .int .i64 b]) rfl (by kernel_rfl) (by kernel_rfl) (by kernel_rfl) (fun _ _ _ h => h) (Or.inl ⟨by rfl, fun w' hw' => ?yR10⟩) HH.out ?_
        case yR10 => exact exec_load 23 (.tmp 3) rfl rfl hw'.1 Try.underlying23 rfl rfl
        refine wpAnyH_take (i := 1) (v := ?vR11) rfl (by kernel_rfl) (by kernel_rfl) (by kernel_rfl) (fun _ _ _ h => h) (Or.inl ⟨by rfl, fun w' _ => ?yR11⟩) HH.out ?_
        case yR11 => (go_simp; try with_reducible rfl)
        try simp only [List.getElem_toArray, List.getElem_cons_succ, List.getElem_cons_zero, Act.put, List.setIfInBounds_toArray, List.set_cons_zero, List.set_cons_succ]
        try simp only [List.getElem_toArray, List.getElem_cons_succ, List.getElem_cons_zero, Act.put, List.setIfInBounds_toArray, List.set_cons_zero, List.set_cons_succ]
        refine wpAnyH_take (i := 2) (v := .int .u8 x0) rfl (by kernel_rfl) (by kernel_rfl) (by kernel_rfl) (fun _ _ _ h => h) (Or.inl ⟨by rfl, fun w' hw' => ?yR12⟩) HH.out ?_
        case yR12 => (have hc := Blk.cell hw'.2.1 0; go_simp; try with_reducible rfl)
        refine wpAnyH_take (i := 3) (v := ?vR13) rfl (by kernel_rfl) (by kernel_rfl) (by kernel_rfl) (fun _ _ _ h => h) (Or.inl ⟨by rfl, fun w' _ => ?yR13⟩) HH.out ?_
        case yR13 => (go_simp; try with_reducible rfl)
        refine wpAnyH_take (i := 4) (v := ?vR14) rfl (by kernel_rfl) (by kernel_rfl) (by kernel_rfl) (fun _ _ _ h => h) (Or.inl ⟨by rfl, fun w' _ => ?yR14⟩) HH.out ?_
        case yR14 => (go_simp; try with_reducible rfl)
        try simp only [List.getElem_toArray, List.getElem_cons_succ, List.getElem_cons_zero, Act.put, List.setIfInBounds_toArray, List.set_cons_zero, List.set_cons_succ]
        try simp only [List.getElem_toArray, List.getElem_cons_succ, List.getElem_cons_zero, Act.put, List.setIfInBounds_toArray, List.set_cons_zero, List.set_cons_succ]
        refine wpAnyH_take (i := 5) (v := .int .i64 a) rfl (by kernel_rfl) (by kernel_rfl) (by kernel_rfl) (fun _ _ _ h => h) (Or.inl ⟨by rfl, fun w' hw' => ?yR15⟩) HH.out ?_
        case yR15 => (have hc := Blk.cell hw'.1 0; go_simp; try with_reducible rfl)
        refine wpAnyH_take (i := 6) (v := ?vR16) rfl (by kernel_rfl) (by kernel_rfl) (by kernel_rfl) (fun _ _ _ h => h) (Or.inl ⟨by rfl, fun w' _ => ?yR16⟩) HH.out ?_
        case yR16 => (go_simp; try with_reducible rfl)
        refine wpAnyH_take (i := 7) (v := ?vR17) rfl (by kernel_rfl) (by kernel_rfl) (by kernel_rfl) (fun _ _ _ h => h) (Or.inl ⟨by rfl, fun w' _ => ?yR17⟩) HH.out ?_
        case yR17 => (go_simp; try with_reducible rfl)
        try simp only [List.getElem_toArray, List.getElem_cons_succ, List.getElem_cons_zero, Act.put, List.setIfInBounds_toArray, List.set_cons_zero, List.set_cons_succ]
        try simp only [List.getElem_toArray, List.getElem_cons_succ, List.getElem_cons_zero, Act.put, List.setIfInBounds_toArray, List.set_cons_zero, List.set_cons_succ]
        refine wpAnyH_take (i := 8) (v := .int .u8 x1) rfl (by kernel_rfl) (by kernel_rfl) (by kernel_rfl) (fun _ _ _ h => h) (Or.inl ⟨by rfl, fun w' hw' => ?yR18⟩) HH.out ?_
        case yR18 => (have hc := Blk.cell hw'.2.1 1; go_simp; try with_reducible rfl)
        refine wpAnyH_take (i := 9) (v := ?vR19) rfl (by kernel_rfl) (by kernel_rfl) (by kernel_rfl) (fun _ _ _ h => h) (Or.inl ⟨by rfl, fun w' _ => ?yR19⟩) HH.out ?_
        case yR19 => (go_simp; try with_reducible rfl)
        refine wpAnyH_take (i := 10) (v := ?vR110) rfl (by kernel_rfl) (by kernel_rfl) (by kernel_rfl) (fun _ _ _ h => h) (Or.inl ⟨by rfl, fun w' _ => ?yR110⟩) HH.out ?_
        case yR110 => (go_simp; try with_reducible rfl)
        try simp only [List.getElem_toArray, List.getElem_cons_succ, List.getElem_cons_zero, Act.put, List.setIfInBounds_toArray, List.set_cons_zero, List.set_cons_succ]
        try simp only [List.getElem_toArray, List.getElem_cons_succ, List.getElem_cons_zero, Act.put, List.setIfInBounds_toArray, List.set_cons_zero, List.set_cons_succ]
        refine wpAnyH_take (i := 11) (v := .int .i64 b) rfl (by kernel_rfl) (by kernel_rfl) (by kernel_rfl) (fun _ _ _ h => h) (Or.inl ⟨by rfl, fun w' hw' => ?yR111⟩) HH.out ?_
        case yR111 => (have hc := Blk.cell hw'.1 1; go_simp; try with_reducible rfl)
        refine wpAnyH_take (i := 12) (v := ?vR112) rfl (by kernel_rfl) (by kernel_rfl) (by kernel_rfl) (fun _ _ _ h => h) (Or.inl ⟨by rfl, fun w' _ => ?yR112⟩) HH.out ?_
        case yR112 => (go_simp; try with_reducible rfl)
        try simp only [List.getElem_toArray, List.getElem_cons_succ, List.getElem_cons_zero, Act.put, List.setIfInBounds_toArray, List.set_cons_zero, List.set_cons_succ]
        refine wpAnyH_ready (rs := [13]) (by kernel_rfl) (by simp) (AllReadyH.cons rfl (fun K hK => ?_) AllReadyH.nil)
        go_simp
        refine (sector_let HI1.out HN1.out _).mono ?_
        rintro e w9113 ⟨rfl, bw⟩
        go_simp
        refine hK.out _ _ ⟨HH.out.1.below bw, HH.out.2.1.below bw, HH.out.2.2.1.below bw, HH.out.2.2.2.trans (bw.mono HH.out.2.2.2.size)⟩ (fun hh => ?_)
        have HH' := Lib.hid hh
        clear hh hK K HH bw
        have HH := Lib.hid HH'.out
        clear HH'
        try simp only [List.getElem_toArray, List.getElem_cons_succ, List.getElem_cons_zero, Act.put, List.setIfInBounds_toArray, List.set_cons_zero, List.set_cons_succ]
        refine wpAnyH_take (i := 14) (v := ?vR114) rfl (by kernel_rfl) (by kernel_rfl) (by kernel_rfl) (fun _ _ _ h => h) (Or.inl ⟨by rfl, fun w' _ => ?yR114⟩) HH.out ?_
        case yR114 => (go_simp; try with_reducible rfl)
        refine wpAnyH_take (i := 15) (v := ?vR115) rfl (by kernel_rfl) (by kernel_rfl) (by kernel_rfl) (fun _ _ _ h => h) (Or.inl ⟨by rfl, fun w' _ => ?yR115⟩) HH.out ?_
        case yR115 => (go_simp; try with_reducible rfl)
        refine wpAnyH_take (i := 16) (v := ?vR116) rfl (by kernel_rfl) (by kernel_rfl) (by kernel_rfl) (fun _ _ _ h => h) (Or.inl ⟨by rfl, fun w' _ => ?yR116⟩) HH.out ?_
        case yR116 => (go_simp; try with_reducible rfl)
        try simp only [List.getElem_toArray, List.getElem_cons_succ, List.getElem_cons_zero, Act.put, List.setIfInBounds_toArray, List.set_cons_zero, List.set_cons_succ]
        refine wpAnyH_take (i := 17) (v := ?vR117) rfl (by kernel_rfl) (by kernel_rfl) (by kernel_rfl) (fun _ _ _ h => h) (Or.inl ⟨by rfl, fun w' _ => ?yR117⟩) HH.out ?_
        case yR117 => (go_simp; try with_reducible rfl)
        refine wpAnyH_take (i := 18) (v := ?vR118) rfl (by kernel_rfl) (by kernel_rfl) (by kernel_rfl) (fun _ _ _ h => h) (Or.inl ⟨by rfl, fun w' _ => ?yR118⟩) HH.out ?_
        case yR118 => (go_simp; try with_reducible rfl)
        try simp only [List.getElem_toArray, List.getElem_cons_succ, List.getElem_cons_zero, Act.put, List.setIfInBounds_toArray, List.set_cons_zero, List.set_cons_succ]
        refine wpAnyH_done (by kernel_rfl) ?_ _
        have B1' := Lib.hid HH.out.1
        have B2' := Lib.hid HH.out.2.1
        have B3' := Lib.hid HH.out.2.2.1
        have BB' := Lib.hid HH.out.2.2.2
        clear HH B1 B2 B3 BB
        have B1 := Lib.hid B1'.out
        have B2 := Lib.hid B2'.out
        have B3 := Lib.hid B3'.out
        have BB := Lib.hid BB'.out
        clear B1' B2' B3' BB'
        have c00 := B1.out.cell 0
        have c01 := B1.out.cell 1
        have c10 := B2.out.cell 0
        have c11 := B2.out.cell 1
        have c20 := B3.out.cell 0
        have c21 := B3.out.cell 1
        go_wp2_with fail
        clear c00 c01 c10 c11 c20 c21
        refine wp_region_held_drew (S := (fun w' => Blk w' (w.heap.size) #[.int .i64 a, .int .i64 b] 23 ∧ Blk w' (w.heap.size + 1) #[.int .u8 x0, .int .u8 x1] 40 ∧ Blk w' (w.heap.size + 1 + 1) #[.int .u8 y0, .int .u8 y1] 40 ∧ Below w.heap.size w w')) (by kernel_rfl) ⟨(show Blk (World.drew _) _ _ _ from B1.out), (show Blk (World.drew _) _ _ _ from B2.out), (show Blk (World.drew _) _ _ _ from B3.out), BB.out.drew⟩ (fun hh => ?_)
        have HH := Lib.hid hh
        clear hh
        refine wpAnyH_take (i := 0) (v := .agg #[.int .i64 a, .int .i64 b]) rfl (by kernel_rfl) (by kernel_rfl) (by kernel_rfl) (fun _ _ _ h => h) (Or.inl ⟨by rfl, fun w' hw' => ?yR20⟩) HH.out ?_
        case yR20 => exact exec_load 23 (.tmp 3) rfl rfl hw'.1 Try.underlying23 rfl rfl
        refine wpAnyH_take (i := 1) (v := ?vR21) rfl (by kernel_rfl) (by kernel_rfl) (by kernel_rfl) (fun _ _ _ h => h) (Or.inl ⟨by rfl, fun w' _ => ?yR21⟩) HH.out ?_
        case yR21 => (go_simp; try with_reducible rfl)
        try simp only [List.getElem_toArray, List.getElem_cons_succ, List.getElem_cons_zero, Act.put, List.setIfInBounds_toArray, List.set_cons_zero, List.set_cons_succ]
        try simp only [List.getElem_toArray, List.getElem_cons_succ, List.getElem_cons_zero, Act.put, List.setIfInBounds_toArray, List.set_cons_zero, List.set_cons_succ]
        refine wpAnyH_take (i := 2) (v := .int .u8 y0) rfl (by kernel_rfl) (by kernel_rfl) (by kernel_rfl) (fun _ _ _ h => h) (Or.inl ⟨by rfl, fun w' hw' => ?yR22⟩) HH.out ?_
        case yR22 => (have hc := Blk.cell hw'.2.2.1 0; go_simp; try with_reducible rfl)
        refine wpAnyH_take (i := 3) (v := ?vR23) rfl (by kernel_rfl) (by kernel_rfl) (by kernel_rfl) (fun _ _ _ h => h) (Or.inl ⟨by rfl, fun w' _ => ?yR23⟩) HH.out ?_
        case yR23 => (go_simp; try with_reducible rfl)
        refine wpAnyH_take (i := 4) (v := ?vR24) rfl (by kernel_rfl) (by kernel_rfl) (by kernel_rfl) (fun _ _ _ h => h) (Or.inl ⟨by rfl, fun w' _ => ?yR24⟩) HH.out ?_
        case yR24 => (go_simp; try with_reducible rfl)
        try simp only [List.getElem_toArray, List.getElem_cons_succ, List.getElem_cons_zero, Act.put, List.setIfInBounds_toArray, List.set_cons_zero, List.set_cons_succ]
        try simp only [List.getElem_toArray, List.getElem_cons_succ, List.getElem_cons_zero, Act.put, List.setIfInBounds_toArray, List.set_cons_zero, List.set_cons_succ]
        refine wpAnyH_take (i := 5) (v := .int .i64 a) rfl (by kernel_rfl) (by kernel_rfl) (by kernel_rfl) (fun _ _ _ h => h) (Or.inl ⟨by rfl, fun w' hw' => ?yR25⟩) HH.out ?_
        case yR25 => (have hc := Blk.cell hw'.1 0; go_simp; try with_reducible rfl)
        refine wpAnyH_take (i := 6) (v := ?vR26) rfl (by kernel_rfl) (by kernel_rfl) (by kernel_rfl) (fun _ _ _ h => h) (Or.inl ⟨by rfl, fun w' _ => ?yR26⟩) HH.out ?_
        case yR26 => (go_simp; try with_reducible rfl)
        refine wpAnyH_take (i := 7) (v := ?vR27) rfl (by kernel_rfl) (by kernel_rfl) (by kernel_rfl) (fun _ _ _ h => h) (Or.inl ⟨by rfl, fun w' _ => ?yR27⟩) HH.out ?_
        case yR27 => (go_simp; try with_reducible rfl)
        try simp only [List.getElem_toArray, List.getElem_cons_succ, List.getElem_cons_zero, Act.put, List.setIfInBounds_toArray, List.set_cons_zero, List.set_cons_succ]
        try simp only [List.getElem_toArray, List.getElem_cons_succ, List.getElem_cons_zero, Act.put, List.setIfInBounds_toArray, List.set_cons_zero, List.set_cons_succ]
        refine wpAnyH_take (i := 8) (v := .int .u8 y1) rfl (by kernel_rfl) (by kernel_rfl) (by kernel_rfl) (fun _ _ _ h => h) (Or.inl ⟨by rfl, fun w' hw' => ?yR28⟩) HH.out ?_
        case yR28 => (have hc := Blk.cell hw'.2.2.1 1; go_simp; try with_reducible rfl)
        refine wpAnyH_take (i := 9) (v := ?vR29) rfl (by kernel_rfl) (by kernel_rfl) (by kernel_rfl) (fun _ _ _ h => h) (Or.inl ⟨by rfl, fun w' _ => ?yR29⟩) HH.out ?_
        case yR29 => (go_simp; try with_reducible rfl)
        refine wpAnyH_take (i := 10) (v := ?vR210) rfl (by kernel_rfl) (by kernel_rfl) (by kernel_rfl) (fun _ _ _ h => h) (Or.inl ⟨by rfl, fun w' _ => ?yR210⟩) HH.out ?_
        case yR210 => (go_simp; try with_reducible rfl)
        try simp only [List.getElem_toArray, List.getElem_cons_succ, List.getElem_cons_zero, Act.put, List.setIfInBounds_toArray, List.set_cons_zero, List.set_cons_succ]
        try simp only [List.getElem_toArray, List.getElem_cons_succ, List.getElem_cons_zero, Act.put, List.setIfInBounds_toArray, List.set_cons_zero, List.set_cons_succ]
        refine wpAnyH_take (i := 11) (v := .int .i64 b) rfl (by kernel_rfl) (by kernel_rfl) (by kernel_rfl) (fun _ _ _ h => h) (Or.inl ⟨by rfl, fun w' hw' => ?yR211⟩) HH.out ?_
        case yR211 => (have hc := Blk.cell hw'.1 1; go_simp; try with_reducible rfl)
        refine wpAnyH_take (i := 12) (v := ?vR212) rfl (by kernel_rfl) (by kernel_rfl) (by kernel_rfl) (fun _ _ _ h => h) (Or.inl ⟨by rfl, fun w' _ => ?yR212⟩) HH.out ?_
        case yR212 => (go_simp; try with_reducible rfl)
        try simp only [List.getElem_toArray, List.getElem_cons_succ, List.getElem_cons_zero, Act.put, List.setIfInBounds_toArray, List.set_cons_zero, List.set_cons_succ]
        refine wpAnyH_ready (rs := [13]) (by kernel_rfl) (by simp) (AllReadyH.cons rfl (fun K hK => ?_) AllReadyH.nil)
        go_simp
        refine (sector_let HI2.out HN2.out _).mono ?_
        rintro e w9213 ⟨rfl, bw⟩
        go_simp
        refine hK.out _ _ ⟨HH.out.1.below bw, HH.out.2.1.below bw, HH.out.2.2.1.below bw, HH.out.2.2.2.trans (bw.mono HH.out.2.2.2.size)⟩ (fun hh => ?_)
        have HH' := Lib.hid hh
        clear hh hK K HH bw
        have HH := Lib.hid HH'.out
        clear HH'
        try simp only [List.getElem_toArray, List.getElem_cons_succ, List.getElem_cons_zero, Act.put, List.setIfInBounds_toArray, List.set_cons_zero, List.set_cons_succ]
        refine wpAnyH_take (i := 14) (v := ?vR214) rfl (by kernel_rfl) (by kernel_rfl) (by kernel_rfl) (fun _ _ _ h => h) (Or.inl ⟨by rfl, fun w' _ => ?yR214⟩) HH.out ?_
        case yR214 => (go_simp; try with_reducible rfl)
        refine wpAnyH_take (i := 15) (v := ?vR215) rfl (by kernel_rfl) (by kernel_rfl) (by kernel_rfl) (fun _ _ _ h => h) (Or.inl ⟨by rfl, fun w' _ => ?yR215⟩) HH.out ?_
        case yR215 => (go_simp; try with_reducible rfl)
        refine wpAnyH_take (i := 16) (v := ?vR216) rfl (by kernel_rfl) (by kernel_rfl) (by kernel_rfl) (fun _ _ _ h => h) (Or.inl ⟨by rfl, fun w' _ => ?yR216⟩) HH.out ?_
        case yR216 => (go_simp; try with_reducible rfl)
        try simp only [List.getElem_toArray, List.getElem_cons_succ, List.getElem_cons_zero, Act.put, List.setIfInBounds_toArray, List.set_cons_zero, List.set_cons_succ]
        refine wpAnyH_take (i := 17) (v := ?vR217) rfl (by kernel_rfl) (by kernel_rfl) (by kernel_rfl) (fun _ _ _ h => h) (Or.inl ⟨by rfl, fun w' _ => ?yR217⟩) HH.out ?_
        case yR217 => (go_simp; try with_reducible rfl)
        refine wpAnyH_take (i := 18) (v := ?vR218) rfl (by kernel_rfl) (by kernel_rfl) (by kernel_rfl) (fun _ _ _ h => h) (Or.inl ⟨by rfl, fun w' _ => ?yR218⟩) HH.out ?_
        case yR218 => (go_simp; try with_reducible rfl)
        try simp only [List.getElem_toArray, List.getElem_cons_succ, List.getElem_cons_zero, Act.put, List.setIfInBounds_toArray, List.set_cons_zero, List.set_cons_succ]
        refine wpAnyH_done (by kernel_rfl) ?_ _
        have B1' := Lib.hid HH.out.1
        have B2' := Lib.hid HH.out.2.1
        have B3' := Lib.hid HH.out.2.2.1
        have BB' := Lib.hid HH.out.2.2.2
        clear HH B1 B2 B3 BB
        have B1 := Lib.hid B1'.out
        have B2 := Lib.hid B2'.out
        have B3 := Lib.hid B3'.out
        have BB := Lib.hid BB'.out
        clear B1' B2' B3' BB'
        have c00 := B1.out.cell 0
        have c01 := B1.out.cell 1
        have c10 := B2.out.cell 0
        have c11 := B2.out.cell 1
        have c20 := B3.out.cell 0
        have c21 := B3.out.cell 1
        go_wp2_with fail
        clear c00 c01 c10 c11 c20 c21
        refine wp_region_held_drew (S := (fun w' => Blk w' (w.heap.size) #[.int .i64 a, .int .i64 b] 23 ∧ Blk w' (w.heap.size + 1) #[.int .u8 x0, .int .u8 x1] 40 ∧ Blk w' (w.heap.size + 1 + 1) #[.int .u8 y0, .int .u8 y1] 40 ∧ Below w.heap.size w w')) (by kernel_rfl) ⟨(show Blk (World.drew _) _ _ _ from B1.out), (show Blk (World.drew _) _ _ _ from B2.out), (show Blk (World.drew _) _ _ _ from B3.out), BB.out.drew⟩ (fun hh => ?_)
        have HH := Lib.hid hh
        clear hh
        refine wpAnyH_take (i := 0) (v := ?vR30) rfl (by kernel_rfl) (by kernel_rfl) (by kernel_rfl) (fun _ _ _ h => h) (Or.inl ⟨by rfl, fun w' _ => ?yR30⟩) HH.out ?_
        case yR30 => (go_simp; try with_reducible rfl)
        try simp only [List.getElem_toArray, List.getElem_cons_zero, Act.put, List.setIfInBounds_toArray, List.set_cons_zero, List.set_cons_succ]
        refine wpAnyH_take (i := 1) (v := .int .u8 x0) rfl (by kernel_rfl) (by kernel_rfl) (by kernel_rfl) (fun _ _ _ h => h) (Or.inl ⟨by rfl, fun w' hw' => ?yR31⟩) HH.out ?_
        case yR31 => (have hc := Blk.cell hw'.2.1 0; go_simp; try with_reducible rfl)
        try simp only [List.getElem_toArray, List.getElem_cons_succ, List.getElem_cons_zero, Act.put, List.setIfInBounds_toArray, List.set_cons_zero, List.set_cons_succ]
        refine wpAnyH_take (i := 2) (v := ?vR32) rfl (by kernel_rfl) (by kernel_rfl) (by kernel_rfl) (fun _ _ _ h => h) (Or.inl ⟨by rfl, fun w' _ => ?yR32⟩) HH.out ?_
        case yR32 => (go_simp; try with_reducible rfl)
        refine wpAnyH_take (i := 3) (v := ?vR33) rfl (by kernel_rfl) (by kernel_rfl) (by kernel_rfl) (fun _ _ _ h => h) (Or.inl ⟨by rfl, fun w' _ => ?yR33⟩) HH.out ?_
        case yR33 => (go_simp; try with_reducible rfl)
        try simp only [List.getElem_toArray, List.getElem_cons_succ, List.getElem_cons_zero, Act.put, List.setIfInBounds_toArray, List.set_cons_zero, List.set_cons_succ]
        refine wpAnyH_take (i := 4) (v := .int .i64 a) rfl (by kernel_rfl) (by kernel_rfl) (by kernel_rfl) (fun _ _ _ h => h) (Or.inl ⟨by rfl, fun w' hw' => ?yR34⟩) HH.out ?_
        case yR34 => (have hc := Blk.cell hw'.1 0; go_simp; try with_reducible rfl)
        try simp only [List.getElem_toArray, List.getElem_cons_succ, List.getElem_cons_zero, Act.put, List.setIfInBounds_toArray, List.set_cons_zero, List.set_cons_succ]
        refine wpAnyH_take (i := 5) (v := ?vR35) rfl (by kernel_rfl) (by kernel_rfl) (by kernel_rfl) (fun _ _ _ h => h) (Or.inl ⟨by rfl, fun w' _ => ?yR35⟩) HH.out ?_
        case yR35 => (go_simp; try with_reducible rfl)
        refine wpAnyH_take (i := 6) (v := ?vR36) rfl (by kernel_rfl) (by kernel_rfl) (by kernel_rfl) (fun _ _ _ h => h) (Or.inl ⟨by rfl, fun w' _ => ?yR36⟩) HH.out ?_
        case yR36 => (go_simp; try with_reducible rfl)
        try simp only [List.getElem_toArray, List.getElem_cons_succ, List.getElem_cons_zero, Act.put, List.setIfInBounds_toArray, List.set_cons_zero, List.set_cons_succ]
        refine wpAnyH_take (i := 7) (v := .int .u8 y0) rfl (by kernel_rfl) (by kernel_rfl) (by kernel_rfl) (fun _ _ _ h => h) (Or.inl ⟨by rfl, fun w' hw' => ?yR37⟩) HH.out ?_
        case yR37 => (have hc := Blk.cell hw'.2.2.1 0; go_simp; try with_reducible rfl)
        try simp only [List.getElem_toArray, List.getElem_cons_succ, List.getElem_cons_zero, Act.put, List.setIfInBounds_toArray, List.set_cons_zero, List.set_cons_succ]
        refine wpAnyH_take (i := 8) (v := ?vR38) rfl (by kernel_rfl) (by kernel_rfl) (by kernel_rfl) (fun _ _ _ h => h) (Or.inl ⟨by rfl, fun w' _ => ?yR38⟩) HH.out ?_
        case yR38 => (go_simp; try with_reducible rfl)
        refine wpAnyH_take (i := 9) (v := ?vR39) rfl (by kernel_rfl) (by kernel_rfl) (by kernel_rfl) (fun _ _ _ h => h) (Or.inl ⟨by rfl, fun w' _ => ?yR39⟩) HH.out ?_
        case yR39 => (go_simp; try with_reducible rfl)
        try simp only [List.getElem_toArray, List.getElem_cons_succ, List.getElem_cons_zero, Act.put, List.setIfInBounds_toArray, List.set_cons_zero, List.set_cons_succ]
        refine wpAnyH_take (i := 10) (v := .int .i64 a) rfl (by kernel_rfl) (by kernel_rfl) (by kernel_rfl) (fun _ _ _ h => h) (Or.inl ⟨by rfl, fun w' hw' => ?yR310⟩) HH.out ?_
        case yR310 => (have hc := Blk.cell hw'.1 0; go_simp; try with_reducible rfl)
        try simp only [List.getElem_toArray, List.getElem_cons_succ, List.getElem_cons_zero, Act.put, List.setIfInBounds_toArray, List.set_cons_zero, List.set_cons_succ]
        refine wpAnyH_take (i := 11) (v := ?vR311) rfl (by kernel_rfl) (by kernel_rfl) (by kernel_rfl) (fun _ _ _ h => h) (Or.inl ⟨by rfl, fun w' _ => ?yR311⟩) HH.out ?_
        case yR311 => (go_simp; try with_reducible rfl)
        refine wpAnyH_take (i := 12) (v := ?vR312) rfl (by kernel_rfl) (by kernel_rfl) (by kernel_rfl) (fun _ _ _ h => h) (Or.inl ⟨by rfl, fun w' _ => ?yR312⟩) HH.out ?_
        case yR312 => (go_simp; try with_reducible rfl)
        refine wpAnyH_take (i := 13) (v := ?vR313) rfl (by kernel_rfl) (by kernel_rfl) (by kernel_rfl) (fun _ _ _ h => h) (Or.inl ⟨by rfl, fun w' _ => ?yR313⟩) HH.out ?_
        case yR313 => (go_simp; try with_reducible rfl)
        try simp only [List.getElem_toArray, List.getElem_cons_succ, List.getElem_cons_zero, Act.put, List.setIfInBounds_toArray, List.set_cons_zero, List.set_cons_succ]
        refine wpAnyH_take (i := 14) (v := ?vR314) rfl (by kernel_rfl) (by kernel_rfl) (by kernel_rfl) (fun _ _ _ h => h) (Or.inl ⟨by rfl, fun w' _ => ?yR314⟩) HH.out ?_
        case yR314 => (go_simp; try with_reducible rfl)
        try simp only [List.getElem_toArray, List.getElem_cons_succ, List.getElem_cons_zero, Act.put, List.setIfInBounds_toArray, List.set_cons_zero, List.set_cons_succ]
        refine wpAnyH_take (i := 15) (v := .int .u8 x1) rfl (by kernel_rfl) (by kernel_rfl) (by kernel_rfl) (fun _ _ _ h => h) (Or.inl ⟨by rfl, fun w' hw' => ?yR315⟩) HH.out ?_
        case yR315 => (have hc := Blk.cell hw'.2.1 1; go_simp; try with_reducible rfl)
        try simp only [List.getElem_toArray, List.getElem_cons_succ, List.getElem_cons_zero, Act.put, List.setIfInBounds_toArray, List.set_cons_zero, List.set_cons_succ]
        refine wpAnyH_take (i := 16) (v := ?vR316) rfl (by kernel_rfl) (by kernel_rfl) (by kernel_rfl) (fun _ _ _ h => h) (Or.inl ⟨by rfl, fun w' _ => ?yR316⟩) HH.out ?_
        case yR316 => (go_simp; try with_reducible rfl)
        try simp only [List.getElem_toArray, List.getElem_cons_succ, List.getElem_cons_zero, Act.put, List.setIfInBounds_toArray, List.set_cons_zero, List.set_cons_succ]
        refine wpAnyH_take (i := 17) (v := ?vR317) rfl (by kernel_rfl) (by kernel_rfl) (by kernel_rfl) (fun _ _ _ h => h) (Or.inl ⟨by rfl, fun w' _ => ?yR317⟩) HH.out ?_
        case yR317 => (go_simp; try with_reducible rfl)
        try simp only [List.getElem_toArray, List.getElem_cons_succ, List.getElem_cons_zero, Act.put, List.setIfInBounds_toArray, List.set_cons_zero, List.set_cons_succ]
        refine wpAnyH_take (i := 18) (v := .int .i64 b) rfl (by kernel_rfl) (by kernel_rfl) (by kernel_rfl) (fun _ _ _ h => h) (Or.inl ⟨by rfl, fun w' hw' => ?yR318⟩) HH.out ?_
        case yR318 => (have hc := Blk.cell hw'.1 1; go_simp; try with_reducible rfl)
        try simp only [List.getElem_toArray, List.getElem_cons_succ, List.getElem_cons_zero, Act.put, List.setIfInBounds_toArray, List.set_cons_zero, List.set_cons_succ]
        refine wpAnyH_take (i := 19) (v := ?vR319) rfl (by kernel_rfl) (by kernel_rfl) (by kernel_rfl) (fun _ _ _ h => h) (Or.inl ⟨by rfl, fun w' _ => ?yR319⟩) HH.out ?_
        case yR319 => (go_simp; try with_reducible rfl)
        try simp only [List.getElem_toArray, List.getElem_cons_succ, List.getElem_cons_zero, Act.put, List.setIfInBounds_toArray, List.set_cons_zero, List.set_cons_succ]
        refine wpAnyH_take (i := 20) (v := ?vR320) rfl (by kernel_rfl) (by kernel_rfl) (by kernel_rfl) (fun _ _ _ h => h) (Or.inl ⟨by rfl, fun w' _ => ?yR320⟩) HH.out ?_
        case yR320 => (go_simp; try with_reducible rfl)
        try simp only [List.getElem_toArray, List.getElem_cons_succ, List.getElem_cons_zero, Act.put, List.setIfInBounds_toArray, List.set_cons_zero, List.set_cons_succ]
        refine wpAnyH_take (i := 21) (v := .int .u8 y1) rfl (by kernel_rfl) (by kernel_rfl) (by kernel_rfl) (fun _ _ _ h => h) (Or.inl ⟨by rfl, fun w' hw' => ?yR321⟩) HH.out ?_
        case yR321 => (have hc := Blk.cell hw'.2.2.1 1; go_simp; try with_reducible rfl)
        try simp only [List.getElem_toArray, List.getElem_cons_succ, List.getElem_cons_zero, Act.put, List.setIfInBounds_toArray, List.set_cons_zero, List.set_cons_succ]
        refine wpAnyH_take (i := 22) (v := ?vR322) rfl (by kernel_rfl) (by kernel_rfl) (by kernel_rfl) (fun _ _ _ h => h) (Or.inl ⟨by rfl, fun w' _ => ?yR322⟩) HH.out ?_
        case yR322 => (go_simp; try with_reducible rfl)
        try simp only [List.getElem_toArray, List.getElem_cons_succ, List.getElem_cons_zero, Act.put, List.setIfInBounds_toArray, List.set_cons_zero, List.set_cons_succ]
        refine wpAnyH_take (i := 23) (v := ?vR323) rfl (by kernel_rfl) (by kernel_rfl) (by kernel_rfl) (fun _ _ _ h => h) (Or.inl ⟨by rfl, fun w' _ => ?yR323⟩) HH.out ?_
        case yR323 => (go_simp; try with_reducible rfl)
        try simp only [List.getElem_toArray, List.getElem_cons_succ, List.getElem_cons_zero, Act.put, List.setIfInBounds_toArray, List.set_cons_zero, List.set_cons_succ]
        refine wpAnyH_take (i := 24) (v := .int .i64 b) rfl (by kernel_rfl) (by kernel_rfl) (by kernel_rfl) (fun _ _ _ h => h) (Or.inl ⟨by rfl, fun w' hw' => ?yR324⟩) HH.out ?_
        case yR324 => (have hc := Blk.cell hw'.1 1; go_simp; try with_reducible rfl)
        try simp only [List.getElem_toArray, List.getElem_cons_succ, List.getElem_cons_zero, Act.put, List.setIfInBounds_toArray, List.set_cons_zero, List.set_cons_succ]
        refine wpAnyH_take (i := 25) (v := ?vR325) rfl (by kernel_rfl) (by kernel_rfl) (by kernel_rfl) (fun _ _ _ h => h) (Or.inl ⟨by rfl, fun w' _ => ?yR325⟩) HH.out ?_
        case yR325 => (go_simp; try with_reducible rfl)
        try simp only [List.getElem_toArray, List.getElem_cons_succ, List.getElem_cons_zero, Act.put, List.setIfInBounds_toArray, List.set_cons_zero, List.set_cons_succ]
        refine wpAnyH_take (i := 26) (v := ?vR326) rfl (by kernel_rfl) (by kernel_rfl) (by kernel_rfl) (fun _ _ _ h => h) (Or.inl ⟨by rfl, fun w' _ => ?yR326⟩) HH.out ?_
        case yR326 => (go_simp; try with_reducible rfl)
        refine wpAnyH_take (i := 27) (v := ?vR327) rfl (by kernel_rfl) (by kernel_rfl) (by kernel_rfl) (fun _ _ _ h => h) (Or.inl ⟨by rfl, fun w' _ => ?yR327⟩) HH.out ?_
        case yR327 => (go_simp; try with_reducible rfl)
        refine wpAnyH_take (i := 28) (v := ?vR328) rfl (by kernel_rfl) (by kernel_rfl) (by kernel_rfl) (fun _ _ _ h => h) (Or.inl ⟨by rfl, fun w' _ => ?yR328⟩) HH.out ?_
        case yR328 => (go_simp; try with_reducible rfl)
        try simp only [List.getElem_toArray, List.getElem_cons_succ, List.getElem_cons_zero, Act.put, List.setIfInBounds_toArray, List.set_cons_zero, List.set_cons_succ]
        refine wpAnyH_done (by kernel_rfl) ?_ _
        have B1' := Lib.hid HH.out.1
        have B2' := Lib.hid HH.out.2.1
        have B3' := Lib.hid HH.out.2.2.1
        have BB' := Lib.hid HH.out.2.2.2
        clear HH B1 B2 B3 BB
        have B1 := Lib.hid B1'.out
        have B2 := Lib.hid B2'.out
        have B3 := Lib.hid B3'.out
        have BB := Lib.hid BB'.out
        clear B1' B2' B3' BB'
        have c00 := B1.out.cell 0
        have c01 := B1.out.cell 1
        have c10 := B2.out.cell 0
        have c11 := B2.out.cell 1
        have c20 := B3.out.cell 0
        have c21 := B3.out.cell 1
        go_wp2_with fail
        clear c00 c01 c10 c11 c20 c21
        go_ret
        exact ⟨rfl, BB.out⟩
      · skip
        subst ei
        have e2 : ((j0 : Int) == j1) = false := beq_eq_false_iff_ne.2 (by omega)
        have e3 : ((n0 : Int) == n1) = false := beq_eq_false_iff_ne.2 (by omega)
        clear ho ri0 rj0 ri1 rj1 hn0 hn1 ej
        go_enter Try.func8, Try.ntmps8
        go_wp2_with fail
        refine (Sg.awake_any _).mono ?_
        rintro e w2 ⟨rfl, bw⟩
        have B1' := Lib.hid (B1.out.below bw)
        have B2' := Lib.hid (B2.out.below bw)
        have B3' := Lib.hid (B3.out.below bw)
        have BB' := Lib.hid (BB.out.trans (bw.mono BB.out.size))
        clear B1 B2 B3 BB bw
        have B1 := Lib.hid B1'.out
        have B2 := Lib.hid B2'.out
        have B3 := Lib.hid B3'.out
        have BB := Lib.hid BB'.out
        clear B1' B2' B3' BB'
        have c00 := B1.out.cell 0
        have c01 := B1.out.cell 1
        have c10 := B2.out.cell 0
        have c11 := B2.out.cell 1
        have c20 := B3.out.cell 0
        have c21 := B3.out.cell 1
        go_wp2_with fail
        clear c00 c01 c10 c11 c20 c21
        refine (Sg.check_yes a b hok _).mono ?_
        rintro e w3 ⟨rfl, bw⟩
        have B1' := Lib.hid (B1.out.below bw)
        have B2' := Lib.hid (B2.out.below bw)
        have B3' := Lib.hid (B3.out.below bw)
        have BB' := Lib.hid (BB.out.trans (bw.mono BB.out.size))
        clear B1 B2 B3 BB bw
        have B1 := Lib.hid B1'.out
        have B2 := Lib.hid B2'.out
        have B3 := Lib.hid B3'.out
        have BB := Lib.hid BB'.out
        clear B1' B2' B3' BB'
        have c00 := B1.out.cell 0
        have c01 := B1.out.cell 1
        have c10 := B2.out.cell 0
        have c11 := B2.out.cell 1
        have c20 := B3.out.cell 0
        have c21 := B3.out.cell 1
        go_wp2_with fail
        clear c00 c01 c10 c11 c20 c21
        refine wp_region_held_drew (S := (fun w' => Blk w' (w.heap.size) #[.int .i64 a, .int .i64 b] 23 ∧ Blk w' (w.heap.size + 1) #[.int .u8 x0, .int .u8 x1] 40 ∧ Blk w' (w.heap.size + 1 + 1) #[.int .u8 y0, .int .u8 y1] 40 ∧ Below w.heap.size w w')) (by kernel_rfl) ⟨(show Blk (World.drew _) _ _ _ from B1.out), (show Blk (World.drew _) _ _ _ from B2.out), (show Blk (World.drew _) _ _ _ from B3.out), BB.out.drew⟩ (fun hh => ?_)
        have HH := Lib.hid hh
        clear hh
        refine wpAnyH_take (i := 0) (v := .agg #[.int .i64 a, .int .i64 b]) rfl (by kernel_rfl) (by kernel_rfl) (by kernel_rfl) (fun _ _ _ h => h) (Or.inl ⟨by rfl, fun w' hw' => ?yR40⟩) HH.out ?_
        case yR40 => exact exec_load 23 (.tmp 3) rfl rfl hw'.1 Try.underlying23 rfl rfl
        refine wpAnyH_take (i := 1) (v := ?vR41) rfl (by kernel_rfl) (by kernel_rfl) (by kernel_rfl) (fun _ _ _ h => h) (Or.inl ⟨by rfl, fun w' _ => ?yR41⟩) HH.out ?_
        case yR41 => (go_simp; try with_reducible rfl)
        try simp only [List.getElem_toArray, List.getElem_cons_succ, List.getElem_cons_zero, Act.put, List.setIfInBounds_toArray, List.set_cons_zero, List.set_cons_succ]
        try simp only [List.getElem_toArray, List.getElem_cons_succ, List.getElem_cons_zero, Act.put, List.setIfInBounds_toArray, List.set_cons_zero, List.set_cons_succ]
        refine wpAnyH_take (i := 2) (v := .int .u8 x0) rfl (by kernel_rfl) (by kernel_rfl) (by kernel_rfl) (fun _ _ _ h => h) (Or.inl ⟨by rfl, fun w' hw' => ?yR42⟩) HH.out ?_
        case yR42 => (have hc := Blk.cell hw'.2.1 0; go_simp; try with_reducible rfl)
        refine wpAnyH_take (i := 3) (v := ?vR43) rfl (by kernel_rfl) (by kernel_rfl) (by kernel_rfl) (fun _ _ _ h => h) (Or.inl ⟨by rfl, fun w' _ => ?yR43⟩) HH.out ?_
        case yR43 => (go_simp; try with_reducible rfl)
        refine wpAnyH_take (i := 4) (v := ?vR44) rfl (by kernel_rfl) (by kernel_rfl) (by kernel_rfl) (fun _ _ _ h => h) (Or.inl ⟨by rfl, fun w' _ => ?yR44⟩) HH.out ?_
        case yR44 => (go_simp; try with_reducible rfl)
        try simp only [List.getElem_toArray, List.getElem_cons_succ, List.getElem_cons_zero, Act.put, List.setIfInBounds_toArray, List.set_cons_zero, List.set_cons_succ]
        try simp only [List.getElem_toArray, List.getElem_cons_succ, List.getElem_cons_zero, Act.put, List.setIfInBounds_toArray, List.set_cons_zero, List.set_cons_succ]
        refine wpAnyH_take (i := 5) (v := .int .i64 a) rfl (by kernel_rfl) (by kernel_rfl) (by kernel_rfl) (fun _ _ _ h => h) (Or.inl ⟨by rfl, fun w' hw' => ?yR45⟩) HH.out ?_
        case yR45 => (have hc := Blk.cell hw'.1 0; go_simp; try with_reducible rfl)
        refine wpAnyH_take (i := 6) (v := ?vR46) rfl (by kernel_rfl) (by kernel_rfl) (by kernel_rfl) (fun _ _ _ h => h) (Or.inl ⟨by rfl, fun w' _ => ?yR46⟩) HH.out ?_
        case yR46 => (go_simp; try with_reducible rfl)
        refine wpAnyH_take (i := 7) (v := ?vR47) rfl (by kernel_rfl) (by kernel_rfl) (by kernel_rfl) (fun _ _ _ h => h) (Or.inl ⟨by rfl, fun w' _ => ?yR47⟩) HH.out ?_
        case yR47 => (go_simp; try with_reducible rfl)
        try simp only [List.getElem_toArray, List.getElem_cons_succ, List.getElem_cons_zero, Act.put, List.setIfInBounds_toArray, List.set_cons_zero, List.set_cons_succ]
        try simp only [List.getElem_toArray, List.getElem_cons_succ, List.getElem_cons_zero, Act.put, List.setIfInBounds_toArray, List.set_cons_zero, List.set_cons_succ]
        refine wpAnyH_take (i := 8) (v := .int .u8 x1) rfl (by kernel_rfl) (by kernel_rfl) (by kernel_rfl) (fun _ _ _ h => h) (Or.inl ⟨by rfl, fun w' hw' => ?yR48⟩) HH.out ?_
        case yR48 => (have hc := Blk.cell hw'.2.1 1; go_simp; try with_reducible rfl)
        refine wpAnyH_take (i := 9) (v := ?vR49) rfl (by kernel_rfl) (by kernel_rfl) (by kernel_rfl) (fun _ _ _ h => h) (Or.inl ⟨by rfl, fun w' _ => ?yR49⟩) HH.out ?_
        case yR49 => (go_simp; try with_reducible rfl)
        refine wpAnyH_take (i := 10) (v := ?vR410) rfl (by kernel_rfl) (by kernel_rfl) (by kernel_rfl) (fun _ _ _ h => h) (Or.inl ⟨by rfl, fun w' _ => ?yR410⟩) HH.out ?_
        case yR410 => (go_simp; try with_reducible rfl)
        try simp only [List.getElem_toArray, List.getElem_cons_succ, List.getElem_cons_zero, Act.put, List.setIfInBounds_toArray, List.set_cons_zero, List.set_cons_succ]
        try simp only [List.getElem_toArray, List.getElem_cons_succ, List.getElem_cons_zero, Act.put, List.setIfInBounds_toArray, List.set_cons_zero, List.set_cons_succ]
        refine wpAnyH_take (i := 11) (v := .int .i64 b) rfl (by kernel_rfl) (by kernel_rfl) (by kernel_rfl) (fun _ _ _ h => h) (Or.inl ⟨by rfl, fun w' hw' => ?yR411⟩) HH.out ?_
        case yR411 => (have hc := Blk.cell hw'.1 1; go_simp; try with_reducible rfl)
        refine wpAnyH_take (i := 12) (v := ?vR412) rfl (by kernel_rfl) (by kernel_rfl) (by kernel_rfl) (fun _ _ _ h => h) (Or.inl ⟨by rfl, fun w' _ => ?yR412⟩) HH.out ?_
        case yR412 => (go_simp; try with_reducible rfl)
        try simp only [List.getElem_toArray, List.getElem_cons_succ, List.getElem_cons_zero, Act.put, List.setIfInBounds_toArray, List.set_cons_zero, List.set_cons_succ]
        refine wpAnyH_ready (rs := [13]) (by kernel_rfl) (by simp) (AllReadyH.cons rfl (fun K hK => ?_) AllReadyH.nil)
        go_simp
        refine (sector_let HI1.out HN1.out _).mono ?_
        rintro e w9413 ⟨rfl, bw⟩
        go_simp
        refine hK.out _ _ ⟨HH.out.1.below bw, HH.out.2.1.below bw, HH.out.2.2.1.below bw, HH.out.2.2.2.trans (bw.mono HH.out.2.2.2.size)⟩ (fun hh => ?_)
        have HH' := Lib.hid hh
        clear hh hK K HH bw
        have HH := Lib.hid HH'.out
        clear HH'
        try simp only [List.getElem_toArray, List.getElem_cons_succ, List.getElem_cons_zero, Act.put, List.setIfInBounds_toArray, List.set_cons_zero, List.set_cons_succ]
        refine wpAnyH_take (i := 14) (v := ?vR414) rfl (by kernel_rfl) (by kernel_rfl) (by kernel_rfl) (fun _ _ _ h => h) (Or.inl ⟨by rfl, fun w' _ => ?yR414⟩) HH.out ?_
        case yR414 => (go_simp; try with_reducible rfl)
        refine wpAnyH_take (i := 15) (v := ?vR415) rfl (by kernel_rfl) (by kernel_rfl) (by kernel_rfl) (fun _ _ _ h => h) (Or.inl ⟨by rfl, fun w' _ => ?yR415⟩) HH.out ?_
        case yR415 => (go_simp; try with_reducible rfl)
        refine wpAnyH_take (i := 16) (v := ?vR416) rfl (by kernel_rfl) (by kernel_rfl) (by kernel_rfl) (fun _ _ _ h => h) (Or.inl ⟨by rfl, fun w' _ => ?yR416⟩) HH.out ?_
        case yR416 => (go_simp; try with_reducible rfl)
        try simp only [List.getElem_toArray, List.getElem_cons_succ, List.getElem_cons_zero, Act.put, List.setIfInBounds_toArray, List.set_cons_zero, List.set_cons_succ]
        refine wpAnyH_take (i := 17) (v := ?vR417) rfl (by kernel_rfl) (by kernel_rfl) (by kernel_rfl) (fun _ _ _ h => h) (Or.inl ⟨by rfl, fun w' _ => ?yR417⟩) HH.out ?_
        case yR417 => (go_simp; try with_reducible rfl)
        refine wpAnyH_take (i := 18) (v := ?vR418) rfl (by kernel_rfl) (by kernel_rfl) (by kernel_rfl) (fun _ _ _ h => h) (Or.inl ⟨by rfl, fun w' _ => ?yR418⟩) HH.out ?_
        case yR418 => (go_simp; try with_reducible rfl)
        try simp only [List.getElem_toArray, List.getElem_cons_succ, List.getElem_cons_zero, Act.put, List.setIfInBounds_toArray, List.set_cons_zero, List.set_cons_succ]
        refine wpAnyH_done (by kernel_rfl) ?_ _
        have B1' := Lib.hid HH.out.1
        have B2' := Lib.hid HH.out.2.1
        have B3' := Lib.hid HH.out.2.2.1
        have BB' := Lib.hid HH.out.2.2.2
        clear HH B1 B2 B3 BB
        have B1 := Lib.hid B1'.out
        have B2 := Lib.hid B2'.out
        have B3 := Lib.hid B3'.out
        have BB := Lib.hid BB'.out
        clear B1' B2' B3' BB'
        have c00 := B1.out.cell 0
        have c01 := B1.out.cell 1
        have c10 := B2.out.cell 0
        have c11 := B2.out.cell 1
        have c20 := B3.out.cell 0
        have c21 := B3.out.cell 1
        go_wp2_with fail
        clear c00 c01 c10 c11 c20 c21
        refine wp_region_held_drew (S := (fun w' => Blk w' (w.heap.size) #[.int .i64 a, .int .i64 b] 23 ∧ Blk w' (w.heap.size + 1) #[.int .u8 x0, .int .u8 x1] 40 ∧ Blk w' (w.heap.size + 1 + 1) #[.int .u8 y0, .int .u8 y1] 40 ∧ Below w.heap.size w w')) (by kernel_rfl) ⟨(show Blk (World.drew _) _ _ _ from B1.out), (show Blk (World.drew _) _ _ _ from B2.out), (show Blk (World.drew _) _ _ _ from B3.out), BB.out.drew⟩ (fun hh => ?_)
        have HH := Lib.hid hh
        clear hh
        refine wpAnyH_take (i := 0) (v := .agg #[.int .i64 a, .int .i64 b]) rfl (by kernel_rfl) (by kernel_rfl) (by kernel_rfl) (fun _ _ _ h => h) (Or.inl ⟨by rfl, fun w' hw' => ?yR50⟩) HH.out ?_
        case yR50 => exact exec_load 23 (.tmp 3) rfl rfl hw'.1 Try.underlying23 rfl rfl
        refine wpAnyH_take (i := 1) (v := ?vR51) rfl (by kernel_rfl) (by kernel_rfl) (by kernel_rfl) (fun _ _ _ h => h) (Or.inl ⟨by rfl, fun w' _ => ?yR51⟩) HH.out ?_
        case yR51 => (go_simp; try with_reducible rfl)
        try simp only [List.getElem_toArray, List.getElem_cons_succ, List.getElem_cons_zero, Act.put, List.setIfInBounds_toArray, List.set_cons_zero, List.set_cons_succ]
        try simp only [List.getElem_toArray, List.getElem_cons_succ, List.getElem_cons_zero, Act.put, List.setIfInBounds_toArray, List.set_cons_zero, List.set_cons_succ]
        refine wpAnyH_take (i := 2) (v := .int .u8 y0) rfl (by kernel_rfl) (by kernel_rfl) (by kernel_rfl) (fun _ _ _ h => h) (Or.inl ⟨by rfl, fun w' hw' => ?yR52⟩) HH.out ?_
        case yR52 => (have hc := Blk.cell hw'.2.2.1 0; go_simp; try with_reducible rfl)
        refine wpAnyH_take (i := 3) (v := ?vR53) rfl (by kernel_rfl) (by kernel_rfl) (by kernel_rfl) (fun _ _ _ h => h) (Or.inl ⟨by rfl, fun w' _ => ?yR53⟩) HH.out ?_
        case yR53 => (go_simp; try with_reducible rfl)
        refine wpAnyH_take (i := 4) (v := ?vR54) rfl (by kernel_rfl) (by kernel_rfl) (by kernel_rfl) (fun _ _ _ h => h) (Or.inl ⟨by rfl, fun w' _ => ?yR54⟩) HH.out ?_
        case yR54 => (go_simp; try with_reducible rfl)
        try simp only [List.getElem_toArray, List.getElem_cons_succ, List.getElem_cons_zero, Act.put, List.setIfInBounds_toArray, List.set_cons_zero, List.set_cons_succ]
        try simp only [List.getElem_toArray, List.getElem_cons_succ, List.getElem_cons_zero, Act.put, List.setIfInBounds_toArray, List.set_cons_zero, List.set_cons_succ]
        refine wpAnyH_take (i := 5) (v := .int .i64 a) rfl (by kernel_rfl) (by kernel_rfl) (by kernel_rfl) (fun _ _ _ h => h) (Or.inl ⟨by rfl, fun w' hw' => ?yR55⟩) HH.out ?_
        case yR55 => (have hc := Blk.cell hw'.1 0; go_simp; try with_reducible rfl)
        refine wpAnyH_take (i := 6) (v := ?vR56) rfl (by kernel_rfl) (by kernel_rfl) (by kernel_rfl) (fun _ _ _ h => h) (Or.inl ⟨by rfl, fun w' _ => ?yR56⟩) HH.out ?_
        case yR56 => (go_simp; try with_reducible rfl)
        refine wpAnyH_take (i := 7) (v := ?vR57) rfl (by kernel_rfl) (by kernel_rfl) (by kernel_rfl) (fun _ _ _ h => h) (Or.inl ⟨by rfl, fun w' _ => ?yR57⟩) HH.out ?_
        case yR57 => (go_simp; try with_reducible rfl)
        try simp only [List.getElem_toArray, List.getElem_cons_succ, List.getElem_cons_zero, Act.put, List.setIfInBounds_toArray, List.set_cons_zero, List.set_cons_succ]
        try simp only [List.getElem_toArray, List.getElem_cons_succ, List.getElem_cons_zero, Act.put, List.setIfInBounds_toArray, List.set_cons_zero, List.set_cons_succ]
        refine wpAnyH_take (i := 8) (v := .int .u8 y1) rfl (by kernel_rfl) (by kernel_rfl) (by kernel_rfl) (fun _ _ _ h => h) (Or.inl ⟨by rfl, fun w' hw' => ?yR58⟩) HH.out ?_
        case yR58 => (have hc := Blk.cell hw'.2.2.1 1; go_simp; try with_reducible rfl)
        refine wpAnyH_take (i := 9) (v := ?vR59) rfl (by kernel_rfl) (by kernel_rfl) (by kernel_rfl) (fun _ _ _ h => h) (Or.inl ⟨by rfl, fun w' _ => ?yR59⟩) HH.out ?_
        case yR59 => (go_simp; try with_reducible rfl)
        refine wpAnyH_take (i := 10) (v := ?vR510) rfl (by kernel_rfl) (by kernel_rfl) (by kernel_rfl) (fun _ _ _ h => h) (Or.inl ⟨by rfl, fun w' _ => ?yR510⟩) HH.out ?_
        case yR510 => (go_simp; try with_reducible rfl)
        try simp only [List.getElem_toArray, List.getElem_cons_succ, List.getElem_cons_zero, Act.put, List.setIfInBounds_toArray, List.set_cons_zero, List.set_cons_succ]
        try simp only [List.getElem_toArray, List.getElem_cons_succ, List.getElem_cons_zero, Act.put, List.setIfInBounds_toArray, List.set_cons_zero, List.set_cons_succ]
        refine wpAnyH_take (i := 11) (v := .int .i64 b) rfl (by kernel_rfl) (by kernel_rfl) (by kernel_rfl) (fun _ _ _ h => h) (Or.inl ⟨by rfl, fun w' hw' => ?yR511⟩) HH.out ?_
        case yR511 => (have hc := Blk.cell hw'.1 1; go_simp; try with_reducible rfl)
        refine wpAnyH_take (i := 12) (v := ?vR512) rfl (by kernel_rfl) (by kernel_rfl) (by kernel_rfl) (fun _ _ _ h => h) (Or.inl ⟨by rfl, fun w' _ => ?yR512⟩) HH.out ?_
        case yR512 => (go_simp; try with_reducible rfl)
        try simp only [List.getElem_toArray, List.getElem_cons_succ, List.getElem_cons_zero, Act.put, List.setIfInBounds_toArray, List.set_cons_zero, List.set_cons_succ]
        refine wpAnyH_ready (rs := [13]) (by kernel_rfl) (by simp) (AllReadyH.cons rfl (fun K hK => ?_) AllReadyH.nil)
        go_simp
        refine (sector_let HI2.out HN2.out _).mono ?_
        rintro e w9513 ⟨rfl, bw⟩
        go_simp
        refine hK.out _ _ ⟨HH.out.1.below bw, HH.out.2.1.below bw, HH.out.2.2.1.below bw, HH.out.2.2.2.trans (bw.mono HH.out.2.2.2.size)⟩ (fun hh => ?_)
        have HH' := Lib.hid hh
        clear hh hK K HH bw
        have HH := Lib.hid HH'.out
        clear HH'
        try simp only [List.getElem_toArray, List.getElem_cons_succ, List.getElem_cons_zero, Act.put, List.setIfInBounds_toArray, List.set_cons_zero, List.set_cons_succ]
        refine wpAnyH_take (i := 14) (v := ?vR514) rfl (by kernel_rfl) (by kernel_rfl) (by kernel_rfl) (fun _ _ _ h => h) (Or.inl ⟨by rfl, fun w' _ => ?yR514⟩) HH.out ?_
        case yR514 => (go_simp; try with_reducible rfl)
        refine wpAnyH_take (i := 15) (v := ?vR515) rfl (by kernel_rfl) (by kernel_rfl) (by kernel_rfl) (fun _ _ _ h => h) (Or.inl ⟨by rfl, fun w' _ => ?yR515⟩) HH.out ?_
        case yR515 => (go_simp; try with_reducible rfl)
        refine wpAnyH_take (i := 16) (v := ?vR516) rfl (by kernel_rfl) (by kernel_rfl) (by kernel_rfl) (fun _ _ _ h => h) (Or.inl ⟨by rfl, fun w' _ => ?yR516⟩) HH.out ?_
        case yR516 => (go_simp; try with_reducible rfl)
        try simp only [List.getElem_toArray, List.getElem_cons_succ, List.getElem_cons_zero, Act.put, List.setIfInBounds_toArray, List.set_cons_zero, List.set_cons_succ]
        refine wpAnyH_take (i := 17) (v := ?vR517) rfl (by kernel_rfl) (by kernel_rfl) (by kernel_rfl) (fun _ _ _ h => h) (Or.inl ⟨by rfl, fun w' _ => ?yR517⟩) HH.out ?_
        case yR517 => (go_simp; try with_reducible rfl)
        refine wpAnyH_take (i := 18) (v := ?vR518) rfl (by kernel_rfl) (by kernel_rfl) (by kernel_rfl) (fun _ _ _ h => h) (Or.inl ⟨by rfl, fun w' _ => ?yR518⟩) HH.out ?_
        case yR518 => (go_simp; try with_reducible rfl)
        try simp only [List.getElem_toArray, List.getElem_cons_succ, List.getElem_cons_zero, Act.put, List.setIfInBounds_toArray, List.set_cons_zero, List.set_cons_succ]
        refine wpAnyH_done (by kernel_rfl) ?_ _
        have B1' := Lib.hid HH.out.1
        have B2' := Lib.hid HH.out.2.1
        have B3' := Lib.hid HH.out.2.2.1
        have BB' := Lib.hid HH.out.2.2.2
        clear HH B1 B2 B3 BB
        have B1 := Lib.hid B1'.out
        have B2 := Lib.hid B2'.out
        have B3 := Lib.hid B3'.out
        have BB := Lib.hid BB'.out
        clear B1' B2' B3' BB'
        have c00 := B1.out.cell 0
        have c01 := B1.out.cell 1
        have c10 := B2.out.cell 0
        have c11 := B2.out.cell 1
        have c20 := B3.out.cell 0
        have c21 := B3.out.cell 1
        go_wp2_with fail
        clear c00 c01 c10 c11 c20 c21
        refine wp_region_held_drew (S := (fun w' => Blk w' (w.heap.size) #[.int .i64 a, .int .i64 b] 23 ∧ Blk w' (w.heap.size + 1) #[.int .u8 x0, .int .u8 x1] 40 ∧ Blk w' (w.heap.size + 1 + 1) #[.int .u8 y0, .int .u8 y1] 40 ∧ Below w.heap.size w w')) (by kernel_rfl) ⟨(show Blk (World.drew _) _ _ _ from B1.out), (show Blk (World.drew _) _ _ _ from B2.out), (show Blk (World.drew _) _ _ _ from B3.out), BB.out.drew⟩ (fun hh => ?_)
        have HH := Lib.hid hh
        clear hh
        refine wpAnyH_take (i := 0) (v := ?vR60) rfl (by kernel_rfl) (by kernel_rfl) (by kernel_rfl) (fun _ _ _ h => h) (Or.inl ⟨by rfl, fun w' _ => ?yR60⟩) HH.out ?_
        case yR60 => (go_simp; try with_reducible rfl)
        try simp only [List.getElem_toArray, List.getElem_cons_zero, Act.put, List.setIfInBounds_toArray, List.set_cons_zero, List.set_cons_succ]
        refine wpAnyH_take (i := 1) (v := .int .u8 x0) rfl (by kernel_rfl) (by kernel_rfl) (by kernel_rfl) (fun _ _ _ h => h) (Or.inl ⟨by rfl, fun w' hw' => ?yR61⟩) HH.out ?_
        case yR61 => (have hc := Blk.cell hw'.2.1 0; go_simp; try with_reducible rfl)
        try simp only [List.getElem_toArray, List.getElem_cons_succ, List.getElem_cons_zero, Act.put, List.setIfInBounds_toArray, List.set_cons_zero, List.set_cons_succ]
        refine wpAnyH_take (i := 2) (v := ?vR62) rfl (by kernel_rfl) (by kernel_rfl) (by kernel_rfl) (fun _ _ _ h => h) (Or.inl ⟨by rfl, fun w' _ => ?yR62⟩) HH.out ?_
        case yR62 => (go_simp; try with_reducible rfl)
        refine wpAnyH_take (i := 3) (v := ?vR63) rfl (by kernel_rfl) (by kernel_rfl) (by kernel_rfl) (fun _ _ _ h => h) (Or.inl ⟨by rfl, fun w' _ => ?yR63⟩) HH.out ?_
        case yR63 => (go_simp; try with_reducible rfl)
        try simp only [List.getElem_toArray, List.getElem_cons_succ, List.getElem_cons_zero, Act.put, List.setIfInBounds_toArray, List.set_cons_zero, List.set_cons_succ]
        refine wpAnyH_take (i := 4) (v := .int .i64 a) rfl (by kernel_rfl) (by kernel_rfl) (by kernel_rfl) (fun _ _ _ h => h) (Or.inl ⟨by rfl, fun w' hw' => ?yR64⟩) HH.out ?_
        case yR64 => (have hc := Blk.cell hw'.1 0; go_simp; try with_reducible rfl)
        try simp only [List.getElem_toArray, List.getElem_cons_succ, List.getElem_cons_zero, Act.put, List.setIfInBounds_toArray, List.set_cons_zero, List.set_cons_succ]
        refine wpAnyH_take (i := 5) (v := ?vR65) rfl (by kernel_rfl) (by kernel_rfl) (by kernel_rfl) (fun _ _ _ h => h) (Or.inl ⟨by rfl, fun w' _ => ?yR65⟩) HH.out ?_
        case yR65 => (go_simp; try with_reducible rfl)
        refine wpAnyH_take (i := 6) (v := ?vR66) rfl (by kernel_rfl) (by kernel_rfl) (by kernel_rfl) (fun _ _ _ h => h) (Or.inl ⟨by rfl, fun w' _ => ?yR66⟩) HH.out ?_
        case yR66 => (go_simp; try with_reducible rfl)
        try simp only [List.getElem_toArray, List.getElem_cons_succ, List.getElem_cons_zero, Act.put, List.setIfInBounds_toArray, List.set_cons_zero, List.set_cons_succ]
        refine wpAnyH_take (i := 7) (v := .int .u8 y0) rfl (by kernel_rfl) (by kernel_rfl) (by kernel_rfl) (fun _ _ _ h => h) (Or.inl ⟨by rfl, fun w' hw' => ?yR67⟩) HH.out ?_
        case yR67 => (have hc := Blk.cell hw'.2.2.1 0; go_simp; try with_reducible rfl)
        try simp only [List.getElem_toArray, List.getElem_cons_succ, List.getElem_cons_zero, Act.put, List.setIfInBounds_toArray, List.set_cons_zero, List.set_cons_succ]
        refine wpAnyH_take (i := 8) (v := ?vR68) rfl (by kernel_rfl) (by kernel_rfl) (by kernel_rfl) (fun _ _ _ h => h) (Or.inl ⟨by rfl, fun w' _ => ?yR68⟩) HH.out ?_
        case yR68 => (go_simp; try with_reducible rfl)
        refine wpAnyH_take (i := 9) (v := ?vR69) rfl (by kernel_rfl) (by kernel_rfl) (by kernel_rfl) (fun _ _ _ h => h) (Or.inl ⟨by rfl, fun w' _ => ?yR69⟩) HH.out ?_
        case yR69 => (go_simp; try with_reducible rfl)
        try simp only [List.getElem_toArray, List.getElem_cons_succ, List.getElem_cons_zero, Act.put, List.setIfInBounds_toArray, List.set_cons_zero, List.set_cons_succ]
        refine wpAnyH_take (i := 10) (v := .int .i64 a) rfl (by kernel_rfl) (by kernel_rfl) (by kernel_rfl) (fun _ _ _ h => h) (Or.inl ⟨by rfl, fun w' hw' => ?yR610⟩) HH.out ?_
        case yR610 => (have hc := Blk.cell hw'.1 0; go_simp; try with_reducible rfl)
        try simp only [List.getElem_toArray, List.getElem_cons_succ, List.getElem_cons_zero, Act.put, List.setIfInBounds_toArray, List.set_cons_zero, List.set_cons_succ]
        refine wpAnyH_take (i := 11) (v := ?vR611) rfl (by kernel_rfl) (by kernel_rfl) (by kernel_rfl) (fun _ _ _ h => h) (Or.inl ⟨by rfl, fun w' _ => ?yR611⟩) HH.out ?_
        case yR611 => (go_simp; try with_reducible rfl)
        refine wpAnyH_take (i := 12) (v := ?vR612) rfl (by kernel_rfl) (by kernel_rfl) (by kernel_rfl) (fun _ _ _ h => h) (Or.inl ⟨by rfl, fun w' _ => ?yR612⟩) HH.out ?_
        case yR612 => (go_simp; try with_reducible rfl)
        refine wpAnyH_take (i := 13) (v := ?vR613) rfl (by kernel_rfl) (by kernel_rfl) (by kernel_rfl) (fun _ _ _ h => h) (Or.inl ⟨by rfl, fun w' _ => ?yR613⟩) HH.out ?_
        case yR613 => (go_simp; try with_reducible rfl)
        try simp only [List.getElem_toArray, List.getElem_cons_succ, List.getElem_cons_zero, Act.put, List.setIfInBounds_toArray, List.set_cons_zero, List.set_cons_succ]
        refine wpAnyH_take (i := 14) (v := ?vR614) rfl (by kernel_rfl) (by kernel_rfl) (by kernel_rfl) (fun _ _ _ h => h) (Or.inl ⟨by rfl, fun w' _ => ?yR614⟩) HH.out ?_
        case yR614 => (go_simp; try with_reducible rfl)
        try simp only [List.getElem_toArray, List.getElem_cons_succ, List.getElem_cons_zero, Act.put, List.setIfInBounds_toArray, List.set_cons_zero, List.set_cons_succ]
        refine wpAnyH_take (i := 15) (v := .int .u8 x1) rfl (by kernel_rfl) (by kernel_rfl) (by kernel_rfl) (fun _ _ _ h => h) (Or.inl ⟨by rfl, fun w' hw' => ?yR615⟩) HH.out ?_
        case yR615 => (have hc := Blk.cell hw'.2.1 1; go_simp; try with_reducible rfl)
        try simp only [List.getElem_toArray, List.getElem_cons_succ, List.getElem_cons_zero, Act.put, List.setIfInBounds_toArray, List.set_cons_zero, List.set_cons_succ]
        refine wpAnyH_take (i := 16) (v := ?vR616) rfl (by kernel_rfl) (by kernel_rfl) (by kernel_rfl) (fun _ _ _ h => h) (Or.inl ⟨by rfl, fun w' _ => ?yR616⟩) HH.out ?_
        case yR616 => (go_simp; try with_reducible rfl)
        try simp only [List.getElem_toArray, List.getElem_cons_succ, List.getElem_cons_zero, Act.put, List.setIfInBounds_toArray, List.set_cons_zero, List.set_cons_succ]
        refine wpAnyH_take (i := 17) (v := ?vR617) rfl (by kernel_rfl) (by kernel_rfl) (by kernel_rfl) (fun _ _ _ h => h) (Or.inl ⟨by rfl, fun w' _ => ?yR617⟩) HH.out ?_
        case yR617 => (go_simp; try with_reducible rfl)
        try simp only [List.getElem_toArray, List.getElem_cons_succ, List.getElem_cons_zero, Act.put, List.setIfInBounds_toArray, List.set_cons_zero, List.set_cons_succ]
        refine wpAnyH_take (i := 18) (v := .int .i64 b) rfl (by kernel_rfl) (by kernel_rfl) (by kernel_rfl) (fun _ _ _ h => h) (Or.inl ⟨by rfl, fun w' hw' => ?yR618⟩) HH.out ?_
        case yR618 => (have hc := Blk.cell hw'.1 1; go_simp; try with_reducible rfl)
        try simp only [List.getElem_toArray, List.getElem_cons_succ, List.getElem_cons_zero, Act.put, List.setIfInBounds_toArray, List.set_cons_zero, List.set_cons_succ]
        refine wpAnyH_take (i := 19) (v := ?vR619) rfl (by kernel_rfl) (by kernel_rfl) (by kernel_rfl) (fun _ _ _ h => h) (Or.inl ⟨by rfl, fun w' _ => ?yR619⟩) HH.out ?_
        case yR619 => (go_simp; try with_reducible rfl)
        try simp only [List.getElem_toArray, List.getElem_cons_succ, List.getElem_cons_zero, Act.put, List.setIfInBounds_toArray, List.set_cons_zero, List.set_cons_succ]
        refine wpAnyH_take (i := 20) (v := ?vR620) rfl (by kernel_rfl) (by kernel_rfl) (by kernel_rfl) (fun _ _ _ h => h) (Or.inl ⟨by rfl, fun w' _ => ?yR620⟩) HH.out ?_
        case yR620 => (go_simp; try with_reducible rfl)
        try simp only [List.getElem_toArray, List.getElem_cons_succ, List.getElem_cons_zero, Act.put, List.setIfInBounds_toArray, List.set_cons_zero, List.set_cons_succ]
        refine wpAnyH_take (i := 21) (v := .int .u8 y1) rfl (by kernel_rfl) (by kernel_rfl) (by kernel_rfl) (fun _ _ _ h => h) (Or.inl ⟨by rfl, fun w' hw' => ?yR621⟩) HH.out ?_
        case yR621 => (have hc := Blk.cell hw'.2.2.1 1; go_simp; try with_reducible rfl)
        try simp only [List.getElem_toArray, List.getElem_cons_succ, List.getElem_cons_zero, Act.put, List.setIfInBounds_toArray, List.set_cons_zero, List.set_cons_succ]
        refine wpAnyH_take (i := 22) (v := ?vR622) rfl (by kernel_rfl) (by kernel_rfl) (by kernel_rfl) (fun _ _ _ h => h) (Or.inl ⟨by rfl, fun w' _ => ?yR622⟩) HH.out ?_
        case yR622 => (go_simp; try with_reducible rfl)
        try simp only [List.getElem_toArray, List.getElem_cons_succ, List.getElem_cons_zero, Act.put, List.setIfInBounds_toArray, List.set_cons_zero, List.set_cons_succ]
        refine wpAnyH_take (i := 23) (v := ?vR623) rfl (by kernel_rfl) (by kernel_rfl) (by kernel_rfl) (fun _ _ _ h => h) (Or.inl ⟨by rfl, fun w' _ => ?yR623⟩) HH.out ?_
        case yR623 => (go_simp; try with_reducible rfl)
        try simp only [List.getElem_toArray, List.getElem_cons_succ, List.getElem_cons_zero, Act.put, List.setIfInBounds_toArray, List.set_cons_zero, List.set_cons_succ]
        refine wpAnyH_take (i := 24) (v := .int .i64 b) rfl (by kernel_rfl) (by kernel_rfl) (by kernel_rfl) (fun _ _ _ h => h) (Or.inl ⟨by rfl, fun w' hw' => ?yR624⟩) HH.out ?_
        case yR624 => (have hc := Blk.cell hw'.1 1; go_simp; try with_reducible rfl)
        try simp only [List.getElem_toArray, List.getElem_cons_succ, List.getElem_cons_zero, Act.put, List.setIfInBounds_toArray, List.set_cons_zero, List.set_cons_succ]
        refine wpAnyH_take (i := 25) (v := ?vR625) rfl (by kernel_rfl) (by kernel_rfl) (by kernel_rfl) (fun _ _ _ h => h) (Or.inl ⟨by rfl, fun w' _ => ?yR625⟩) HH.out ?_
        case yR625 => (go_simp; try with_reducible rfl)
        try simp only [List.getElem_toArray, List.getElem_cons_succ, List.getElem_cons_zero, Act.put, List.setIfInBounds_toArray, List.set_cons_zero, List.set_cons_succ]
        refine wpAnyH_take (i := 26) (v := ?vR626) rfl (by kernel_rfl) (by kernel_rfl) (by kernel_rfl) (fun _ _ _ h => h) (Or.inl ⟨by rfl, fun w' _ => ?yR626⟩) HH.out ?_
        case yR626 => (go_simp; try with_reducible rfl)
        refine wpAnyH_take (i := 27) (v := ?vR627) rfl (by kernel_rfl) (by kernel_rfl) (by kernel_rfl) (fun _ _ _ h => h) (Or.inl ⟨by rfl, fun w' _ => ?yR627⟩) HH.out ?_
        case yR627 => (go_simp; try with_reducible rfl)
        refine wpAnyH_take (i := 28) (v := ?vR628) rfl (by kernel_rfl) (by kernel_rfl) (by kernel_rfl) (fun _ _ _ h => h) (Or.inl ⟨by rfl, fun w' _ => ?yR628⟩) HH.out ?_
        case yR628 => (go_simp; try with_reducible rfl)
        try simp only [List.getElem_toArray, List.getElem_cons_succ, List.getElem_cons_zero, Act.put, List.setIfInBounds_toArray, List.set_cons_zero, List.set_cons_succ]
        refine wpAnyH_done (by kernel_rfl) ?_ _
        have B1' := Lib.hid HH.out.1
        have B2' := Lib.hid HH.out.2.1
        have B3' := Lib.hid HH.out.2.2.1
        have BB' := Lib.hid HH.out.2.2.2
        clear HH B1 B2 B3 BB
        have B1 := Lib.hid B1'.out
        have B2 := Lib.hid B2'.out
        have B3 := Lib.hid B3'.out
        have BB := Lib.hid BB'.out
        clear B1' B2' B3' BB'
        have c00 := B1.out.cell 0
        have c01 := B1.out.cell 1
        have c10 := B2.out.cell 0
        have c11 := B2.out.cell 1
        have c20 := B3.out.cell 0
        have c21 := B3.out.cell 1
        go_wp2_with fail
        clear c00 c01 c10 c11 c20 c21
        go_ret
        exact ⟨rfl, BB.out⟩
    · skip
      have en : n0 ≠ n1 := by
        intro h
        rw [hn0, hn1] at h
        rcases Int.lt_or_gt_of_ne ei with h1 | h1
        · have h2 : (i0 + 1) * b ≤ i1 * b := Int.mul_le_mul_of_nonneg_right (by omega) (by omega)
          rw [Int.add_mul] at h2
          omega
        · have h2 : (i1 + 1) * b ≤ i0 * b := Int.mul_le_mul_of_nonneg_right (by omega) (by omega)
          rw [Int.add_mul] at h2
          omega
      have e2 : ((i0 : Int) == i1) = false := beq_eq_false_iff_ne.2 (by omega)
      have e3 : ((n0 : Int) == n1) = false := beq_eq_false_iff_ne.2 (by omega)
      clear ho ri0 rj0 ri1 rj1 hn0 hn1 ei en
      go_enter Try.func8, Try.ntmps8
      go_wp2_with fail
      refine (Sg.awake_any _).mono ?_
      rintro e w2 ⟨rfl, bw⟩
      have B1' := Lib.hid (B1.out.below bw)
      have B2' := Lib.hid (B2.out.below bw)
      have B3' := Lib.hid (B3.out.below bw)
      have BB' := Lib.hid (BB.out.trans (bw.mono BB.out.size))
      clear B1 B2 B3 BB bw
      have B1 := Lib.hid B1'.out
      have B2 := Lib.hid B2'.out
      have B3 := Lib.hid B3'.out
      have BB := Lib.hid BB'.out
      clear B1' B2' B3' BB'
      have c00 := B1.out.cell 0
      have c01 := B1.out.cell 1
      have c10 := B2.out.cell 0
      have c11 := B2.out.cell 1
      have c20 := B3.out.cell 0
      have c21 := B3.out.cell 1
      go_wp2_with fail
      clear c00 c01 c10 c11 c20 c21
      refine (Sg.check_yes a b hok _).mono ?_
      rintro e w3 ⟨rfl, bw⟩
      have B1' := Lib.hid (B1.out.below bw)
      have B2' := Lib.hid (B2.out.below bw)
      have B3' := Lib.hid (B3.out.below bw)
      have BB' := Lib.hid (BB.out.trans (bw.mono BB.out.size))
      clear B1 B2 B3 BB bw
      have B1 := Lib.hid B1'.out
      have B2 := Lib.hid B2'.out
      have B3 := Lib.hid B3'.out
      have BB := Lib.hid BB'.out
      clear B1' B2' B3' BB'
      have c00 := B1.out.cell 0
      have c01 := B1.out.cell 1
      have c10 := B2.out.cell 0
      have c11 := B2.out.cell 1
      have c20 := B3.out.cell 0
      have c21 := B3.out.cell 1
      go_wp2_with fail
      clear c00 c01 c10 c11 c20 c21
      refine wp_region_held_drew (S := (fun w' => Blk w' (w.heap.size) #[.int .i64 a, .int .i64 b] 23 ∧ Blk w' (w.heap.size + 1) #[.int .u8 x0, .int .u8 x1] 40 ∧ Blk w' (w.heap.size + 1 + 1) #[.int .u8 y0, .int .u8 y1] 40 ∧ Below w.heap.size w w')) (by kernel_rfl) ⟨(show Blk (World.drew _) _ _ _ from B1.out), (show Blk (World.drew _) _ _ _ from B2.out), (show Blk (World.drew _) _ _ _ from B3.out), BB.out.drew⟩ (fun hh => ?_)
      have HH := Lib.hid hh
      clear hh
      refine wpAnyH_take (i := 0) (v := .agg #[.int .i64 a, .int .i64 b]) rfl (by kernel_rfl) (by kernel_rfl) (by kernel_rfl) (fun _ _ _ h => h) (Or.inl ⟨by rfl, fun w' hw' => ?yR70⟩) HH.out ?_
      case yR70 => exact exec_load 23 (.tmp 3) rfl rfl hw'.1 Try.underlying23 rfl rfl
      refine wpAnyH_take (i := 1) (v := ?vR71) rfl (by kernel_rfl) (by kernel_rfl) (by kernel_rfl) (fun _ _ _ h => h) (Or.inl ⟨by rfl, fun w' _ => ?yR71⟩) HH.out ?_
      case yR71 => (go_simp; try with_reducible rfl)
      try simp only [List.getElem_toArray, List.getElem_cons_succ, List.getElem_cons_zero, Act.put, List.setIfInBounds_toArray, List.set_cons_zero, List.set_cons_succ]
      try simp only [List.getElem_toArray, List.getElem_cons_succ, List.getElem_cons_zero, Act.put, List.setIfInBounds_toArray, List.set_cons_zero, List.set_cons_succ]
      refine wpAnyH_take (i := 2) (v := .int .u8 x0) rfl (by kernel_rfl) (by kernel_rfl) (by kernel_rfl) (fun _ _ _ h => h) (Or.inl ⟨by rfl, fun w' hw' => ?yR72⟩) HH.out ?_
      case yR72 => (have hc := Blk.cell hw'.2.1 0; go_simp; try with_reducible rfl)
      refine wpAnyH_take (i := 3) (v := ?vR73) rfl (by kernel_rfl) (by kernel_rfl) (by kernel_rfl) (fun _ _ _ h => h) (Or.inl ⟨by rfl, fun w' _ => ?yR73⟩) HH.out ?_
      case yR73 => (go_simp; try with_reducible rfl)
      refine wpAnyH_take (i := 4) (v := ?vR74) rfl (by kernel_rfl) (by kernel_rfl) (by kernel_rfl) (fun _ _ _ h => h) (Or.inl ⟨by rfl, fun w' _ => ?yR74⟩) HH.out ?_
      case yR74 => (go_simp; try with_reducible rfl)
      try simp only [List.getElem_toArray, List.getElem_cons_succ, List.getElem_cons_zero, Act.put, List.setIfInBounds_toArray, List.set_cons_zero, List.set_cons_succ]
      try simp only [List.getElem_toArray, List.getElem_cons_succ, List.getElem_cons_zero, Act.put, List.setIfInBounds_toArray, List.set_cons_zero, List.set_cons_succ]
      refine wpAnyH_take (i := 5) (v := .int .i64 a) rfl (by kernel_rfl) (by kernel_rfl) (by kernel_rfl) (fun _ _ _ h => h) (Or.inl ⟨by rfl, fun w' hw' => ?yR75⟩) HH.out ?_
      case yR75 => (have hc := Blk.cell hw'.1 0; go_simp; try with_reducible rfl)
      refine wpAnyH_take (i := 6) (v := ?vR76) rfl (by kernel_rfl) (by kernel_rfl) (by kernel_rfl) (fun _ _ _ h => h) (Or.inl ⟨by rfl, fun w' _ => ?yR76⟩) HH.out ?_
      case yR76 => (go_simp; try with_reducible rfl)
      refine wpAnyH_take (i := 7) (v := ?vR77) rfl (by kernel_rfl) (by kernel_rfl) (by kernel_rfl) (fun _ _ _ h => h) (Or.inl ⟨by rfl, fun w' _ => ?yR77⟩) HH.out ?_
      case yR77 => (go_simp; try with_reducible rfl)
      try simp only [List.getElem_toArray, List.getElem_cons_succ, List.getElem_cons_zero, Act.put, List.setIfInBounds_toArray, List.set_cons_zero, List.set_cons_succ]
      try simp only [List.getElem_toArray, List.getElem_cons_succ, List.getElem_cons_zero, Act.put, List.setIfInBounds_toArray, List.set_cons_zero, List.set_cons_succ]
      refine wpAnyH_take (i := 8) (v := .int .u8 x1) rfl (by kernel_rfl) (by kernel_rfl) (by kernel_rfl) (fun _ _ _ h => h) (Or.inl ⟨by rfl, fun w' hw' => ?yR78⟩) HH.out ?_
      case yR78 => (have hc := Blk.cell hw'.2.1 1; go_simp; try with_reducible rfl)
      refine wpAnyH_take (i := 9) (v := ?vR79) rfl (by kernel_rfl) (by kernel_rfl) (by kernel_rfl) (fun _ _ _ h => h) (Or.inl ⟨by rfl, fun w' _ => ?yR79⟩) HH.out ?_
      case yR79 => (go_simp; try with_reducible rfl)
      refine wpAnyH_take (i := 10) (v := ?vR710) rfl (by kernel_rfl) (by kernel_rfl) (by kernel_rfl) (fun _ _ _ h => h) (Or.inl ⟨by rfl, fun w' _ => ?yR710⟩) HH.out ?_
      case yR710 => (go_simp; try with_reducible rfl)
      try simp only [List.getElem_toArray, List.getElem_cons_succ, List.getElem_cons_zero, Act.put, List.setIfInBounds_toArray, List.set_cons_zero, List.set_cons_succ]
      try simp only [List.getElem_toArray, List.getElem_cons_succ, List.getElem_cons_zero, Act.put, List.setIfInBounds_toArray, List.set_cons_zero, List.set_cons_succ]
      refine wpAnyH_take (i := 11) (v := .int .i64 b) rfl (by kernel_rfl) (by kernel_rfl) (by kernel_rfl) (fun _ _ _ h => h) (Or.inl ⟨by rfl, fun w' hw' => ?yR711⟩) HH.out ?_
      case yR711 => (have hc := Blk.cell hw'.1 1; go_simp; try with_reducible rfl)
      refine wpAnyH_take (i := 12) (v := ?vR712) rfl (by kernel_rfl) (by kernel_rfl) (by kernel_rfl) (fun _ _ _ h => h) (Or.inl ⟨by rfl, fun w' _ => ?yR712⟩) HH.out ?_
      case yR712 => (go_simp; try with_reducible rfl)
      try simp only [List.getElem_toArray, List.getElem_cons_succ, List.getElem_cons_zero, Act.put, List.setIfInBounds_toArray, List.set_cons_zero, List.set_cons_succ]
      refine wpAnyH_ready (rs := [13]) (by kernel_rfl) (by simp) (AllReadyH.cons rfl (fun K hK => ?_) AllReadyH.nil)
      go_simp
      refine (sector_let HI1.out HN1.out _).mono ?_
      rintro e w9713 ⟨rfl, bw⟩
      go_simp
      refine hK.out _ _ ⟨HH.out.1.below bw, HH.out.2.1.below bw, HH.out.2.2.1.below bw, HH.out.2.2.2.trans (bw.mono HH.out.2.2.2.size)⟩ (fun hh => ?_)
      have HH' := Lib.hid hh
      clear hh hK K HH bw
      have HH := Lib.hid HH'.out
      clear HH'
      try simp only [List.getElem_toArray, List.getElem_cons_succ, List.getElem_cons_zero, Act.put, List.setIfInBounds_toArray, List.set_cons_zero, List.set_cons_succ]
      refine wpAnyH_take (i := 14) (v := ?vR714) rfl (by kernel_rfl) (by kernel_rfl) (by kernel_rfl) (fun _ _ _ h => h) (Or.inl ⟨by rfl, fun w' _ => ?yR714⟩) HH.out ?_
      case yR714 => (go_simp; try with_reducible rfl)
      refine wpAnyH_take (i := 15) (v := ?vR715) rfl (by kernel_rfl) (by kernel_rfl) (by kernel_rfl) (fun _ _ _ h => h) (Or.inl ⟨by rfl, fun w' _ => ?yR715⟩) HH.out ?_
      case yR715 => (go_simp; try with_reducible rfl)
      refine wpAnyH_take (i := 16) (v := ?vR716) rfl (by kernel_rfl) (by kernel_rfl) (by kernel_rfl) (fun _ _ _ h => h) (Or.inl ⟨by rfl, fun w' _ => ?yR716⟩) HH.out ?_
      case yR716 => (go_simp; try with_reducible rfl)
      try simp only [List.getElem_toArray, List.getElem_cons_succ, List.getElem_cons_zero, Act.put, List.setIfInBounds_toArray, List.set_cons_zero, List.set_cons_succ]
      refine wpAnyH_take (i := 17) (v := ?vR717) rfl (by kernel_rfl) (by kernel_rfl) (by kernel_rfl) (fun _ _ _ h => h) (Or.inl ⟨by rfl, fun w' _ => ?yR717⟩) HH.out ?_
      case yR717 => (go_simp; try with_reducible rfl)
      refine wpAnyH_take (i := 18) (v := ?vR718) rfl (by kernel_rfl) (by kernel_rfl) (by kernel_rfl) (fun _ _ _ h => h) (Or.inl ⟨by rfl, fun w' _ => ?yR718⟩) HH.out ?_
      case yR718 => (go_simp; try with_reducible rfl)
      try simp only [List.getElem_toArray, List.getElem_cons_succ, List.getElem_cons_zero, Act.put, List.setIfInBounds_toArray, List.set_cons_zero, List.set_cons_succ]
      refine wpAnyH_done (by kernel_rfl) ?_ _
      have B1' := Lib.hid HH.out.1
      have B2' := Lib.hid HH.out.2.1
      have B3' := Lib.hid HH.out.2.2.1
      have BB' := Lib.hid HH.out.2.2.2
      clear HH B1 B2 B3 BB
      have B1 := Lib.hid B1'.out
      have B2 := Lib.hid B2'.out
      have B3 := Lib.hid B3'.out
      have BB := Lib.hid BB'.out
      clear B1' B2' B3' BB'
      have c00 := B1.out.cell 0
      have c01 := B1.out.cell 1
      have c10 := B2.out.cell 0
      have c11 := B2.out.cell 1
      have c20 := B3.out.cell 0
      have c21 := B3.out.cell 1
      go_wp2_with fail
      clear c00 c01 c10 c11 c20 c21
      refine wp_region_held_drew (S := (fun w' => Blk w' (w.heap.size) #[.int .i64 a, .int .i64 b] 23 ∧ Blk w' (w.heap.size + 1) #[.int .u8 x0, .int .u8 x1] 40 ∧ Blk w' (w.heap.size + 1 + 1) #[.int .u8 y0, .int .u8 y1] 40 ∧ Below w.heap.size w w')) (by kernel_rfl) ⟨(show Blk (World.drew _) _ _ _ from B1.out), (show Blk (World.drew _) _ _ _ from B2.out), (show Blk (World.drew _) _ _ _ from B3.out), BB.out.drew⟩ (fun hh => ?_)
      have HH := Lib.hid hh
      clear hh
      refine wpAnyH_take (i := 0) (v := .agg #[.int .i64 a, .int .i64 b]) rfl (by kernel_rfl) (by kernel_rfl) (by kernel_rfl) (fun _ _ _ h => h) (Or.inl ⟨by rfl, fun w' hw' => ?yR80⟩) HH.out ?_
      case yR80 => exact exec_load 23 (.tmp 3) rfl rfl hw'.1 Try.underlying23 rfl rfl
      refine wpAnyH_take (i := 1) (v := ?vR81) rfl (by kernel_rfl) (by kernel_rfl) (by kernel_rfl) (fun _ _ _ h => h) (Or.inl ⟨by rfl, fun w' _ => ?yR81⟩) HH.out ?_
      case yR81 => (go_simp; try with_reducible rfl)
      try simp only [List.getElem_toArray, List.getElem_cons_succ, List.getElem_cons_zero, Act.put, List.setIfInBounds_toArray, List.set_cons_zero, List.set_cons_succ]
      try simp only [List.getElem_toArray, List.getElem_cons_succ, List.getElem_cons_zero, Act.put, List.setIfInBounds_toArray, List.set_cons_zero, List.set_cons_succ]
      refine wpAnyH_take (i := 2) (v := .int .u8 y0) rfl (by kernel_rfl) (by kernel_rfl) (by kernel_rfl) (fun _ _ _ h => h) (Or.inl ⟨by rfl, fun w' hw' => ?yR82⟩) HH.out ?_
      case yR82 => (have hc := Blk.cell hw'.2.2.1 0; go_simp; try with_reducible rfl)
      refine wpAnyH_take (i := 3) (v := ?vR83) rfl (by kernel_rfl) (by kernel_rfl) (by kernel_rfl) (fun _ _ _ h => h) (Or.inl ⟨by rfl, fun w' _ => ?yR83⟩) HH.out ?_
      case yR83 => (go_simp; try with_reducible rfl)
      refine wpAnyH_take (i := 4) (v := ?vR84) rfl (by kernel_rfl) (by kernel_rfl) (by kernel_rfl) (fun _ _ _ h => h) (Or.inl ⟨by rfl, fun w' _ => ?yR84⟩) HH.out ?_
      case yR84 => (go_simp; try with_reducible rfl)
      try simp only [List.getElem_toArray, List.getElem_cons_succ, List.getElem_cons_zero, Act.put, List.setIfInBounds_toArray, List.set_cons_zero, List.set_cons_succ]
      try simp only [List.getElem_toArray, List.getElem_cons_succ, List.getElem_cons_zero, Act.put, List.setIfInBounds_toArray, List.set_cons_zero, List.set_cons_succ]
      refine wpAnyH_take (i := 5) (v := .int .i64 a) rfl (by kernel_rfl) (by kernel_rfl) (by kernel_rfl) (fun _ _ _ h => h) (Or.inl ⟨by rfl, fun w' hw' => ?yR85⟩) HH.out ?_
      case yR85 => (have hc := Blk.cell hw'.1 0; go_simp; try with_reducible rfl)
      refine wpAnyH_take (i := 6) (v := ?vR86) rfl (by kernel_rfl) (by kernel_rfl) (by kernel_rfl) (fun _ _ _ h => h) (Or.inl ⟨by rfl, fun w' _ => ?yR86⟩) HH.out ?_
      case yR86 => (go_simp; try with_reducible rfl)
      refine wpAnyH_take (i := 7) (v := ?vR87) rfl (by kernel_rfl) (by kernel_rfl) (by kernel_rfl) (fun _ _ _ h => h) (Or.inl ⟨by rfl, fun w' _ => ?yR87⟩) HH.out ?_
      case yR87 => (go_simp; try with_reducible rfl)
      try simp only [List.getElem_toArray, List.getElem_cons_succ, List.getElem_cons_zero, Act.put, List.setIfInBounds_toArray, List.set_cons_zero, List.set_cons_succ]
      try simp only [List.getElem_toArray, List.getElem_cons_succ, List.getElem_cons_zero, Act.put, List.setIfInBounds_toArray, List.set_cons_zero, List.set_cons_succ]
      refine wpAnyH_take (i := 8) (v := .int .u8 y1) rfl (by kernel_rfl) (by kernel_rfl) (by kernel_rfl) (fun _ _ _ h => h) (Or.inl ⟨by rfl, fun w' hw' => ?yR88⟩) HH.out ?_
      case yR88 => (have hc := Blk.cell hw'.2.2.1 1; go_simp; try with_reducible rfl)
      refine wpAnyH_take (i := 9) (v := ?vR89) rfl (by kernel_rfl) (by kernel_rfl) (by kernel_rfl) (fun _ _ _ h => h) (Or.inl ⟨by rfl, fun w' _ => ?yR89⟩) HH.out ?_
      case yR89 => (go_simp; try with_reducible rfl)
      refine wpAnyH_take (i := 10) (v := ?vR810) rfl (by kernel_rfl) (by kernel_rfl) (by kernel_rfl) (fun _ _ _ h => h) (Or.inl ⟨by rfl, fun w' _ => ?yR810⟩) HH.out ?_
      case yR810 => (go_simp; try with_reducible rfl)
      try simp only [List.getElem_toArray, List.getElem_cons_succ, List.getElem_cons_zero, Act.put, List.setIfInBounds_toArray, List.set_cons_zero, List.set_cons_succ]
      try simp only [List.getElem_toArray, List.getElem_cons_succ, List.getElem_cons_zero, Act.put, List.setIfInBounds_toArray, List.set_cons_zero, List.set_cons_succ]
      refine wpAnyH_take (i := 11) (v := .int .i64 b) rfl (by kernel_rfl) (by kernel_rfl) (by kernel_rfl) (fun _ _ _ h => h) (Or.inl ⟨by rfl, fun w' hw' => ?yR811⟩) HH.out ?_
      case yR811 => (have hc := Blk.cell hw'.1 1; go_simp; try with_reducible rfl)
      refine wpAnyH_take (i := 12) (v := ?vR812) rfl (by kernel_rfl) (by kernel_rfl) (by kernel_rfl) (fun _ _ _ h => h) (Or.inl ⟨by rfl, fun w' _ => ?yR812⟩) HH.out ?_
      case yR812 => (go_simp; try with_reducible rfl)
      try simp only [List.getElem_toArray, List.getElem_cons_succ, List.getElem_cons_zero, Act.put, List.setIfInBounds_toArray, List.set_cons_zero, List.set_cons_succ]
      refine wpAnyH_ready (rs := [13]) (by kernel_rfl) (by simp) (AllReadyH.cons rfl (fun K hK => ?_) AllReadyH.nil)
      go_simp
      refine (sector_let HI2.out HN2.out _).mono ?_
      rintro e w9813 ⟨rfl, bw⟩
      go_simp
      refine hK.out _ _ ⟨HH.out.1.below bw, HH.out.2.1.below bw, HH.out.2.2.1.below bw, HH.out.2.2.2.trans (bw.mono HH.out.2.2.2.size)⟩ (fun hh => ?_)
      have HH' := Lib.hid hh
      clear hh hK K HH bw
      have HH := Lib.hid HH'.out
      clear HH'
      try simp only [List.getElem_toArray, List.getElem_cons_succ, List.getElem_cons_zero, Act.put, List.setIfInBounds_toArray, List.set_cons_zero, List.set_cons_succ]
      refine wpAnyH_take (i := 14) (v := ?vR814) rfl (by kernel_rfl) (by kernel_rfl) (by kernel_rfl) (fun _ _ _ h => h) (Or.inl ⟨by rfl, fun w' _ => ?yR814⟩) HH.out ?_
      case yR814 => (go_simp; try with_reducible rfl)
      refine wpAnyH_take (i := 15) (v := ?vR815) rfl (by kernel_rfl) (by kernel_rfl) (by kernel_rfl) (fun _ _ _ h => h) (Or.inl ⟨by rfl, fun w' _ => ?yR815⟩) HH.out ?_
      case yR815 => (go_simp; try with_reducible rfl)
      refine wpAnyH_take (i := 16) (v := ?vR816) rfl (by kernel_rfl) (by kernel_rfl) (by kernel_rfl) (fun _ _ _ h => h) (Or.inl ⟨by rfl, fun w' _ => ?yR816⟩) HH.out ?_
      case yR816 => (go_simp; try with_reducible rfl)
      try simp only [List.getElem_toArray, List.getElem_cons_succ, List.getElem_cons_zero, Act.put, List.setIfInBounds_toArray, List.set_cons_zero, List.set_cons_succ]
      refine wpAnyH_take (i := 17) (v := ?vR817) rfl (by kernel_rfl) (by kernel_rfl) (by kernel_rfl) (fun _ _ _ h => h) (Or.inl ⟨by rfl, fun w' _ => ?yR817⟩) HH.out ?_
      case yR817 => (go_simp; try with_reducible rfl)
      refine wpAnyH_take (i := 18) (v := ?vR818) rfl (by kernel_rfl) (by kernel_rfl) (by kernel_rfl) (fun _ _ _ h => h) (Or.inl ⟨by rfl, fun w' _ => ?yR818⟩) HH.out ?_
      case yR818 => (go_simp; try with_reducible rfl)
      try simp only [List.getElem_toArray, List.getElem_cons_succ, List.getElem_cons_zero, Act.put, List.setIfInBounds_toArray, List.set_cons_zero, List.set_cons_succ]
      refine wpAnyH_done (by kernel_rfl) ?_ _
      have B1' := Lib.hid HH.out.1
      have B2' := Lib.hid HH.out.2.1
      have B3' := Lib.hid HH.out.2.2.1
      have BB' := Lib.hid HH.out.2.2.2
      clear HH B1 B2 B3 BB
      have B1 := Lib.hid B1'.out
      have B2 := Lib.hid B2'.out
      have B3 := Lib.hid B3'.out
      have BB := Lib.hid BB'.out
      clear B1' B2' B3' BB'
      have c00 := B1.out.cell 0
      have c01 := B1.out.cell 1
      have c10 := B2.out.cell 0
      have c11 := B2.out.cell 1
      have c20 := B3.out.cell 0
      have c21 := B3.out.cell 1
      go_wp2_with fail
      clear c00 c01 c10 c11 c20 c21
      refine wp_region_held_drew (S := (fun w' => Blk w' (w.heap.size) #[.int .i64 a, .int .i64 b] 23 ∧ Blk w' (w.heap.size + 1) #[.int .u8 x0, .int .u8 x1] 40 ∧ Blk w' (w.heap.size + 1 + 1) #[.int .u8 y0, .int .u8 y1] 40 ∧ Below w.heap.size w w')) (by kernel_rfl) ⟨(show Blk (World.drew _) _ _ _ from B1.out), (show Blk (World.drew _) _ _ _ from B2.out), (show Blk (World.drew _) _ _ _ from B3.out), BB.out.drew⟩ (fun hh => ?_)
      have HH := Lib.hid hh
      clear hh
      refine wpAnyH_take (i := 0) (v := ?vR90) rfl (by kernel_rfl) (by kernel_rfl) (by kernel_rfl) (fun _ _ _ h => h) (Or.inl ⟨by rfl, fun w' _ => ?yR90⟩) HH.out ?_
      case yR90 => (go_simp; try with_reducible rfl)
      try simp only [List.getElem_toArray, List.getElem_cons_zero, Act.put, List.setIfInBounds_toArray, List.set_cons_zero, List.set_cons_succ]
      refine wpAnyH_take (i := 1) (v := .int .u8 x0) rfl (by kernel_rfl) (by kernel_rfl) (by kernel_rfl) (fun _ _ _ h => h) (Or.inl ⟨by rfl, fun w' hw' => ?yR91⟩) HH.out ?_
      case yR91 => (have hc := Blk.cell hw'.2.1 0; go_simp; try with_reducible rfl)
      try simp only [List.getElem_toArray, List.getElem_cons_succ, List.getElem_cons_zero, Act.put, List.setIfInBounds_toArray, List.set_cons_zero, List.set_cons_succ]
      refine wpAnyH_take (i := 2) (v := ?vR92) rfl (by kernel_rfl) (by kernel_rfl) (by kernel_rfl) (fun _ _ _ h => h) (Or.inl ⟨by rfl, fun w' _ => ?yR92⟩) HH.out ?_
      case yR92 => (go_simp; try with_reducible rfl)
      refine wpAnyH_take (i := 3) (v := ?vR93) rfl (by kernel_rfl) (by kernel_rfl) (by kernel_rfl) (fun _ _ _ h => h) (Or.inl ⟨by rfl, fun w' _ => ?yR93⟩) HH.out ?_
      case yR93 => (go_simp; try with_reducible rfl)
      try simp only [List.getElem_toArray, List.getElem_cons_succ, List.getElem_cons_zero, Act.put, List.setIfInBounds_toArray, List.set_cons_zero, List.set_cons_succ]
      refine wpAnyH_take (i := 4) (v := .int .i64 a) rfl (by kernel_rfl) (by kernel_rfl) (by kernel_rfl) (fun _ _ _ h => h) (Or.inl ⟨by rfl, fun w' hw' => ?yR94⟩) HH.out ?_
      case yR94 => (have hc := Blk.cell hw'.1 0; go_simp; try with_reducible rfl)
      try simp only [List.getElem_toArray, List.getElem_cons_succ, List.getElem_cons_zero, Act.put, List.setIfInBounds_toArray, List.set_cons_zero, List.set_cons_succ]
      refine wpAnyH_take (i := 5) (v := ?vR95) rfl (by kernel_rfl) (by kernel_rfl) (by kernel_rfl) (fun _ _ _ h => h) (Or.inl ⟨by rfl, fun w' _ => ?yR95⟩) HH.out ?_
      case yR95 => (go_simp; try with_reducible rfl)
      refine wpAnyH_take (i := 6) (v := ?vR96) rfl (by kernel_rfl) (by kernel_rfl) (by kernel_rfl) (fun _ _ _ h => h) (Or.inl ⟨by rfl, fun w' _ => ?yR96⟩) HH.out ?_
      case yR96 => (go_simp; try with_reducible rfl)
      try simp only [List.getElem_toArray, List.getElem_cons_succ, List.getElem_cons_zero, Act.put, List.setIfInBounds_toArray, List.set_cons_zero, List.set_cons_succ]
      refine wpAnyH_take (i := 7) (v := .int .u8 y0) rfl (by kernel_rfl) (by kernel_rfl) (by kernel_rfl) (fun _ _ _ h => h) (Or.inl ⟨by rfl, fun w' hw' => ?yR97⟩) HH.out ?_
      case yR97 => (have hc := Blk.cell hw'.2.2.1 0; go_simp; try with_reducible rfl)
      try simp only [List.getElem_toArray, List.getElem_cons_succ, List.getElem_cons_zero, Act.put, List.setIfInBounds_toArray, List.set_cons_zero, List.set_cons_succ]
      refine wpAnyH_take (i := 8) (v := ?vR98) rfl (by kernel_rfl) (by kernel_rfl) (by kernel_rfl) (fun _ _ _ h => h) (Or.inl ⟨by rfl, fun w' _ => ?yR98⟩) HH.out ?_
      case yR98 => (go_simp; try with_reducible rfl)
      refine wpAnyH_take (i := 9) (v := ?vR99) rfl (by kernel_rfl) (by kernel_rfl) (by kernel_rfl) (fun _ _ _ h => h) (Or.inl ⟨by rfl, fun w' _ => ?yR99⟩) HH.out ?_
      case yR99 => (go_simp; try with_reducible rfl)
      try simp only [List.getElem_toArray, List.getElem_cons_succ, List.getElem_cons_zero, Act.put, List.setIfInBounds_toArray, List.set_cons_zero, List.set_cons_succ]
      refine wpAnyH_take (i := 10) (v := .int .i64 a) rfl (by kernel_rfl) (by kernel_rfl) (by kernel_rfl) (fun _ _ _ h => h) (Or.inl ⟨by rfl, fun w' hw' => ?yR910⟩) HH.out ?_
      case yR910 => (have hc := Blk.cell hw'.1 0; go_simp; try with_reducible rfl)
      try simp only [List.getElem_toArray, List.getElem_cons_succ, List.getElem_cons_zero, Act.put, List.setIfInBounds_toArray, List.set_cons_zero, List.set_cons_succ]
      refine wpAnyH_take (i := 11) (v := ?vR911) rfl (by kernel_rfl) (by kernel_rfl) (by kernel_rfl) (fun _ _ _ h => h) (Or.inl ⟨by rfl, fun w' _ => ?yR911⟩) HH.out ?_
      case yR911 => (go_simp; try with_reducible rfl)
      refine wpAnyH_take (i := 12) (v := ?vR912) rfl (by kernel_rfl) (by kernel_rfl) (by kernel_rfl) (fun _ _ _ h => h) (Or.inl ⟨by rfl, fun w' _ => ?yR912⟩) HH.out ?_
      case yR912 => (go_simp; try with_reducible rfl)
      refine wpAnyH_take (i := 13) (v := ?vR913) rfl (by kernel_rfl) (by kernel_rfl) (by kernel_rfl) (fun _ _ _ h => h) (Or.inl ⟨by rfl, fun w' _ => ?yR913⟩) HH.out ?_
      case yR913 => (go_simp; try with_reducible rfl)
      try simp only [List.getElem_toArray, List.getElem_cons_succ, List.getElem_cons_zero, Act.put, List.setIfInBounds_toArray, List.set_cons_zero, List.set_cons_succ]
      refine wpAnyH_take (i := 14) (v := undef) rfl (by kernel_rfl) (by kernel_rfl) (by kernel_rfl) (fun _ _ _ h => h) (Or.inr ⟨by rfl, rfl⟩) HH.out ?_
      refine wpAnyH_take (i := 15) (v := undef) rfl (by kernel_rfl) (by kernel_rfl) (by kernel_rfl) (fun _ _ _ h => h) (Or.inr ⟨by rfl, rfl⟩) HH.out ?_
      refine wpAnyH_take (i := 16) (v := undef) rfl (by kernel_rfl) (by kernel_rfl) (by kernel_rfl) (fun _ _ _ h => h) (Or.inr ⟨by rfl, rfl⟩) HH.out ?_
      try simp only [List.getElem_toArray, List.getElem_cons_succ, List.getElem_cons_zero, Act.put, List.setIfInBounds_toArray, List.set_cons_zero, List.set_cons_succ]
      refine wpAnyH_take (i := 17) (v := undef) rfl (by kernel_rfl) (by kernel_rfl) (by kernel_rfl) (fun _ _ _ h => h) (Or.inr ⟨by rfl, rfl⟩) HH.out ?_
      refine wpAnyH_take (i := 18) (v := undef) rfl (by kernel_rfl) (by kernel_rfl) (by kernel_rfl) (fun _ _ _ h => h) (Or.inr ⟨by rfl, rfl⟩) HH.out ?_
      refine wpAnyH_take (i := 19) (v := undef) rfl (by kernel_rfl) (by kernel_rfl) (by kernel_rfl) (fun _ _ _ h => h) (Or.inr ⟨by rfl, rfl⟩) HH.out ?_
      try simp only [List.getElem_toArray, List.getElem_cons_succ, List.getElem_cons_zero, Act.put, List.setIfInBounds_toArray, List.set_cons_zero, List.set_cons_succ]
      refine wpAnyH_take (i := 20) (v := undef) rfl (by kernel_rfl) (by kernel_rfl) (by kernel_rfl) (fun _ _ _ h => h) (Or.inr ⟨by rfl, rfl⟩) HH.out ?_
      refine wpAnyH_take (i := 21) (v := undef) rfl (by kernel_rfl) (by kernel_rfl) (by kernel_rfl) (fun _ _ _ h => h) (Or.inr ⟨by rfl, rfl⟩) HH.out ?_
      refine wpAnyH_take (i := 22) (v := undef) rfl (by kernel_rfl) (by kernel_rfl) (by kernel_rfl) (fun _ _ _ h => h) (Or.inr ⟨by rfl, rfl⟩) HH.out ?_
      try simp only [List.getElem_toArray, List.getElem_cons_succ, List.getElem_cons_zero, Act.put, List.setIfInBounds_toArray, List.set_cons_zero, List.set_cons_succ]
      refine wpAnyH_take (i := 23) (v := undef) rfl (by kernel_rfl) (by kernel_rfl) (by kernel_rfl) (fun _ _ _ h => h) (Or.inr ⟨by rfl, rfl⟩) HH.out ?_
      refine wpAnyH_take (i := 24) (v := undef) rfl (by kernel_rfl) (by kernel_rfl) (by kernel_rfl) (fun _ _ _ h => h) (Or.inr ⟨by rfl, rfl⟩) HH.out ?_
      refine wpAnyH_take (i := 25) (v := undef) rfl (by kernel_rfl) (by kernel_rfl) (by kernel_rfl) (fun _ _ _ h => h) (Or.inr ⟨by rfl, rfl⟩) HH.out ?_
      try simp only [List.getElem_toArray, List.getElem_cons_succ, List.getElem_cons_zero, Act.put, List.setIfInBounds_toArray, List.set_cons_zero, List.set_cons_succ]
      refine wpAnyH_take (i := 26) (v := undef) rfl (by kernel_rfl) (by kernel_rfl) (by kernel_rfl) (fun _ _ _ h => h) (Or.inr ⟨by rfl, rfl⟩) HH.out ?_
      refine wpAnyH_take (i := 27) (v := ?vR927) rfl (by kernel_rfl) (by kernel_rfl) (by kernel_rfl) (fun _ _ _ h => h) (Or.inl ⟨by rfl, fun w' _ => ?yR927⟩) HH.out ?_
      case yR927 => (go_simp; try with_reducible rfl)
      refine wpAnyH_take (i := 28) (v := ?vR928) rfl (by kernel_rfl) (by kernel_rfl) (by kernel_rfl) (fun _ _ _ h => h) (Or.inl ⟨by rfl, fun w' _ => ?yR928⟩) HH.out ?_
      case yR928 => (go_simp; try with_reducible rfl)
      try simp only [List.getElem_toArray, List.getElem_cons_succ, List.getElem_cons_zero, Act.put, List.setIfInBounds_toArray, List.set_cons_zero, List.set_cons_succ]
      refine wpAnyH_done (by kernel_rfl) ?_ _
      have B1' := Lib.hid HH.out.1
      have B2' := Lib.hid HH.out.2.1
      have B3' := Lib.hid HH.out.2.2.1
      have BB' := Lib.hid HH.out.2.2.2
      clear HH B1 B2 B3 BB
      have B1 := Lib.hid B1'.out
      have B2 := Lib.hid B2'.out
      have B3 := Lib.hid B3'.out
      have BB := Lib.hid BB'.out
      clear B1' B2' B3' BB'
      have c00 := B1.out.cell 0
      have c01 := B1.out.cell 1
      have c10 := B2.out.cell 0
      have c11 := B2.out.cell 1
      have c20 := B3.out.cell 0
      have c21 := B3.out.cell 1
      go_wp2_with fail
      clear c00 c01 c10 c11 c20 c21
      go_ret
      exact ⟨rfl, BB.out⟩
  · skip
    go_enter Try.func8, Try.ntmps8
    go_wp2_with fail
    refine (Sg.awake_any _).mono ?_
    rintro e w2 ⟨rfl, bw⟩
    have B1' := Lib.hid (B1.out.below bw)
    have B2' := Lib.hid (B2.out.below bw)
    have B3' := Lib.hid (B3.out.below bw)
    have BB' := Lib.hid (BB.out.trans (bw.mono BB.out.size))
    clear B1 B2 B3 BB bw
    have B1 := Lib.hid B1'.out
    have B2 := Lib.hid B2'.out
    have B3 := Lib.hid B3'.out
    have BB := Lib.hid BB'.out
    clear B1' B2' B3' BB'
    have c00 := B1.out.cell 0
    have c01 := B1.out.cell 1
    have c10 := B2.out.cell 0
    have c11 := B2.out.cell 1
    have c20 := B3.out.cell 0
    have c21 := B3.out.cell 1
    go_wp2_with fail
    clear c00 c01 c10 c11 c20 c21
    refine (Sg.check_no a b hok _).mono ?_
    rintro e w3 ⟨rfl, bw⟩
    have B1' := Lib.hid (B1.out.below bw)
    have B2' := Lib.hid (B2.out.below bw)
    have B3' := Lib.hid (B3.out.below bw)
    have BB' := Lib.hid (BB.out.trans (bw.mono BB.out.size))
    clear B1 B2 B3 BB bw
    have B1 := Lib.hid B1'.out
    have B2 := Lib.hid B2'.out
    have B3 := Lib.hid B3'.out
    have BB := Lib.hid BB'.out
    clear B1' B2' B3' BB'
    have c00 := B1.out.cell 0
    have c01 := B1.out.cell 1
    have c10 := B2.out.cell 0
    have c11 := B2.out.cell 1
    have c20 := B3.out.cell 0
    have c21 := B3.out.cell 1
    go_wp2_with fail
    clear c00 c01 c10 c11 c20 c21
    refine (Sg.awake_any _).mono ?_
    rintro e w4 ⟨rfl, bw⟩
    have B1' := Lib.hid (B1.out.below bw)
    have B2' := Lib.hid (B2.out.below bw)
    have B3' := Lib.hid (B3.out.below bw)
    have BB' := Lib.hid (BB.out.trans (bw.mono BB.out.size))
    clear B1 B2 B3 BB bw
    have B1 := Lib.hid B1'.out
    have B2 := Lib.hid B2'.out
    have B3 := Lib.hid B3'.out
    have BB := Lib.hid BB'.out
    clear B1' B2' B3' BB'
    go_wp2_with fail
    go_ret
    exact ⟨rfl, BB.out⟩
set_option maxRecDepth 100000 in
set_option maxHeartbeats 12800000 in
theorem segmentApart_any (w : World) (a b : Int) (_ : Sg.i64B a) (_ : Sg.i64B b) (k : List UInt8) (hk : k.length = 2) (l : List UInt8) (hl : l.length = 2) : Calls Try.prog 8 #[.agg #[.int .i64 a, .int .i64 b], .agg (bva k), .agg (bva l)] w (RetB (.bool true) w) := by
  match k, hk, l, hl with
  | [x0, x1], _, [y0, y1], _ =>
    have h : ∀ z : UInt8, 0 ≤ (z.toNat : Int) ∧ (z.toNat : Int) ≤ 255 := fun z => by have := z.toNat_lt; omega
    exact segmentApart_core w a b _ _ _ _ (h x0) (h x1) (h y0) (h y1)
theorem segmentApart_own : ownKnob Try.prog.godebug = none := by kernel_rfl
theorem segmentApart_laid : laidOutB Try.prog = true := by kernel_rfl

set_option maxRecDepth 100000 in
theorem segmentApart_lifted (os : Os) (started : os.Started) (H : Type) (enc : TypeId × Value → H) :
    ReturnsInHanded {} Try.checked os 8 .any (Rows.segmentApartSpec.pre6 enc Try.prog Try.f8 Rows.segmentApartRow.domain false) (Rows.segmentApartSpec.post enc Try.prog Try.f8 false true false false) := by
  refine returnsInHanded_of_change (C := Try.checked) segmentApart_own started (by kernel_rfl) Try.func8
    (ChangeSpec.witness6 (enc := enc) (C := Try.checked) false ⟨#[], #[.agg #[.int .i64 0, .int .i64 0], .agg #[.int .u8 0, .int .u8 0], .agg #[.int .u8 0, .int .u8 0]], []⟩ 8 (by kernel_rfl) (by kernel_rfl) (by kernel_rfl) (by kernel_rfl)) ?_
  intro W base args ds gs before hval0 hW _ _
  have hval : ∀ (j : Nat) t v, Try.f8.params[j]? = some t → args[j]? = some v → Value.okWide Try.prog W .any base t v := hval0
  have hW' := hW
  obtain ⟨p, q, hA0, hV, rfl, hfz, hnd⟩ := hW
  have hA : DataW.TrodAll enc Try.prog W 0 (fun _ => true) true Try.f8.params.toList args.toList ds p := hA0
  rw [Try.params8] at hA hval
  obtain ⟨v0, vs0, d0, ds0, p0, q0, hargs, rfl, rfl, h0, r0⟩ := trodAll_cons hA
  obtain ⟨v1, vs1, d1, ds1, p1, q1, rfl, rfl, rfl, h1, r1⟩ := trodAll_cons r0
  obtain ⟨v2, vs2, d2, ds2, p2, q2, rfl, rfl, rfl, h2, r2⟩ := trodAll_cons r1
  obtain ⟨rfl, rfl, rfl⟩ := trodAll_nil r2
  obtain rfl : args = #[v0, v1, v2] := by cases args; simp_all
  obtain ⟨rfl, rfl⟩ := trodVars_none hV
  have lt0 : ∀ x ∈ p0, x.block < W.heap.size := by obtain ⟨m, hm⟩ := h0; exact DataW.trod_lt m _ _ _ hm
  obtain ⟨x0, y0, rfl, bx0, by0⟩ := Sg.open_shape (hval 0 23 v0 rfl rfl) h0
  have lt1 : ∀ x ∈ p1, x.block < W.heap.size := by obtain ⟨m, hm⟩ := h1; exact DataW.trod_lt m _ _ _ hm
  obtain ⟨l1, hl1, rfl⟩ := open_u8s Try.underlying40 Try.underlying5 (by kernel_rfl) (by kernel_rfl) (hval 1 40 v1 rfl rfl) h1
  have lt2 : ∀ x ∈ p2, x.block < W.heap.size := by obtain ⟨m, hm⟩ := h2; exact DataW.trod_lt m _ _ _ hm
  obtain ⟨l2, hl2, rfl⟩ := open_u8s Try.underlying40 Try.underlying5 (by kernel_rfl) (by kernel_rfl) (hval 2 40 v2 rfl rfl) h2
  clear hA0 hval0
  refine (segmentApart_any W x0 y0 bx0 by0 l1 hl1 l2 hl2).mono fun e W' ⟨he, bel⟩ => ?_
  subst he
  exact ⟨_, rfl, _, _, _, [], _, [], hW', trodAll_mk1 (shut_bool Try.underlying4 _), (trodAll_cons_mk (Below.trod segmentApart_laid (by kernel_rfl) (of_decide_eq_true (by kernel_rfl)) h0 bel lt0) (trodAll_cons_mk (Below.trod segmentApart_laid (by kernel_rfl) (of_decide_eq_true (by kernel_rfl)) h1 bel lt1) (trodAll_cons_mk (Below.trod segmentApart_laid (by kernel_rfl) (of_decide_eq_true (by kernel_rfl)) h2 bel lt2) trodAll_mk0))), rfl, bel.frame _, fun h => by cases h⟩

theorem segmentApart_holds : Rows.SegmentApartSaid :=
  OpenClaim.holds_of_wide 8 Try.f8 rfl rfl rfl rfl rfl rfl rfl ⟨rfl, rfl, rfl, rfl, rfl⟩ rfl rfl rfl rfl rfl (by kernel_rfl) Try.func8 (by kernel_rfl)
    (of_decide_eq_true (by kernel_rfl)) (by unfold Func.isWrapper; rw [if_neg (of_decide_eq_false (by kernel_rfl))]; exact ⟨rfl, rfl⟩)
    (fun os started H enc _ => segmentApart_lifted os started H enc)

#print axioms segmentApart_holds

end Go.Proofs.Ytmokigcplgjgiaa
