/-
  Shapes: which may be, and the contracts of the code's functions over them.
-/
import Derived.Test.YtmokigcplgjgiaaProg
import Derived.Test.YtmokigcplgjgiaaArr
namespace Go.Proofs.Ytmokigcplgjgiaa.Sg
open Go.RowKit
attribute [local go_sem ↓] Go.wp_at_zero Go.wp_at_succ
/-- A shape, as a value. -/
def shV (a b : Int) : Value := .agg #[.int .i64 a, .int .i64 b]
/-- It may be. -/
def okS (a b : Int) : Prop := (3 ≤ a ∧ a ≤ 64) ∧ (1 ≤ b ∧ b ≤ 32)
instance (a b : Int) : Decidable (okS a b) := by unfold okS; infer_instance
theorem sh_eq {a b c d : Int} (h1 : a = c) (h2 : b = d) : shV a b = shV c d := by rw [h1, h2]
theorem below_two (w : World) (A B : Obj) : Below w.heap.size w ((w.alloc A).alloc B) := ((Below.refl _ _).alloc (Nat.le_refl _) _).alloc (by simp) _
set_option maxRecDepth 100000 in
theorem nearest_any (a b : Int) (w : World) : Calls Try.prog 21 #[shV a b] w (RetB (shV (min (max a 3) 64) (min (max b 1) 32)) w) := by
  unfold shV
  go_enter Try.func21, Try.ntmps21
  go_wp2_with fail
  all_goals
    refine bodyPost_ret (v := .agg #[.int .i64 _, .int .i64 _]) (results_cell_row Try.results21 _ _ (w.heap.size + 1) 23 #[.int .i64 _, .int .i64 _] (0, 0) _ rfl (heap_alloc2_new _ _ _) Try.underlying23 rfl rfl) rfl ⟨?_, below_two _ _ _⟩
    exact congrArg Ending.returned (sh_eq (by omega) (by omega))

set_option maxRecDepth 100000 in
theorem check_yes (a b : Int) (hok : okS a b) (w : World) : Calls Try.prog 14 #[shV a b] w (RetB (.int .i64 0) w) := by
  have b1 : Blk (w.alloc (.cells #[.int .i64 a, .int .i64 b] 23)) w.heap.size #[.int .i64 a, .int .i64 b] 23 := heap_alloc_new _ _
  have bb : Below w.heap.size w (w.alloc (.cells #[.int .i64 a, .int .i64 b] 23)) := (Below.refl _ _).alloc (Nat.le_refl _) _
  have B1 := Lib.hid b1
  have BB := Lib.hid bb
  clear b1 bb
  unfold shV
  go_enter Try.func14, Try.ntmps14
  go_wp2_with fail
  refine wp_region_held_drew (S := (fun w' => Blk w' w.heap.size #[.int .i64 a, .int .i64 b] 23 ∧ Below w.heap.size w w')) (by kernel_rfl) ⟨(show Blk (World.drew _) _ _ _ from B1.out), BB.out.drew⟩ (fun hh => ?_)
  have HH := Lib.hid hh
  clear hh
  refine wpAnyH_take (i := 0) (v := .agg #[.int .i64 a, .int .i64 b]) rfl (by kernel_rfl) (by kernel_rfl) (by kernel_rfl) (fun _ _ _ h => h) (Or.inl ⟨by rfl, fun w' hw' => ?ya0⟩) HH.out ?_
  case ya0 => exact exec_load 23 (.tmp 1) rfl rfl hw'.1 Try.underlying23 rfl rfl
  refine wpAnyH_take (i := 1) (v := .agg #[.int .i64 a, .int .i64 b]) rfl (by kernel_rfl) (by kernel_rfl) (by kernel_rfl) (fun _ _ _ h => h) (Or.inl ⟨by rfl, fun w' hw' => ?ya1⟩) HH.out ?_
  case ya1 => exact exec_load 23 (.tmp 1) rfl rfl hw'.1 Try.underlying23 rfl rfl
  try simp only [List.getElem_toArray, List.getElem_cons_succ, List.getElem_cons_zero, Act.put, List.setIfInBounds_toArray, List.set_cons_zero, List.set_cons_succ]
  refine wpAnyH_ready (rs := [2]) (by kernel_rfl) (by simp) (AllReadyH.cons rfl (fun K hK => ?_) AllReadyH.nil)
  go_simp
  refine (nearest_any a b _).mono ?_
  rintro e w2 ⟨rfl, bw⟩
  unfold shV
  go_simp
  refine hK.out _ _ ⟨HH.out.1.below bw, HH.out.2.trans (bw.mono HH.out.2.size)⟩ (fun hh => ?_)
  have HH' := Lib.hid hh
  clear hh hK K HH bw
  have HH := Lib.hid HH'.out
  clear HH'
  try simp only [List.getElem_toArray, List.getElem_cons_succ, List.getElem_cons_zero, Act.put, List.setIfInBounds_toArray, List.set_cons_zero, List.set_cons_succ]
  refine wpAnyH_take (i := 3) (v := .bool false) rfl (by kernel_rfl) (by kernel_rfl) (by kernel_rfl) (fun _ _ _ h => h) (Or.inl ⟨by rfl, fun w' _ => ?y3⟩) HH.out ?_
  case y3 =>
    go_simp
    unfold okS at hok
    rw [if_pos (by omega), if_pos (by omega)]
  try simp only [List.getElem_toArray, List.getElem_cons_succ, List.getElem_cons_zero, Act.put, List.setIfInBounds_toArray, List.set_cons_zero, List.set_cons_succ]
  refine wpAnyH_done (by kernel_rfl) ?_ _
  go_wp2_with fail
  go_ret
  exact ⟨rfl, HH.out.2⟩
set_option maxRecDepth 100000 in
theorem check_no (a b : Int) (hok : ¬okS a b) (w : World) : Calls Try.prog 14 #[shV a b] w (RetB (.int .i64 2) w) := by
  have b1 : Blk (w.alloc (.cells #[.int .i64 a, .int .i64 b] 23)) w.heap.size #[.int .i64 a, .int .i64 b] 23 := heap_alloc_new _ _
  have bb : Below w.heap.size w (w.alloc (.cells #[.int .i64 a, .int .i64 b] 23)) := (Below.refl _ _).alloc (Nat.le_refl _) _
  have B1 := Lib.hid b1
  have BB := Lib.hid bb
  clear b1 bb
  unfold shV
  go_enter Try.func14, Try.ntmps14
  go_wp2_with fail
  refine wp_region_held_drew (S := (fun w' => Blk w' w.heap.size #[.int .i64 a, .int .i64 b] 23 ∧ Below w.heap.size w w')) (by kernel_rfl) ⟨(show Blk (World.drew _) _ _ _ from B1.out), BB.out.drew⟩ (fun hh => ?_)
  have HH := Lib.hid hh
  clear hh
  refine wpAnyH_take (i := 0) (v := .agg #[.int .i64 a, .int .i64 b]) rfl (by kernel_rfl) (by kernel_rfl) (by kernel_rfl) (fun _ _ _ h => h) (Or.inl ⟨by rfl, fun w' hw' => ?ya0⟩) HH.out ?_
  case ya0 => exact exec_load 23 (.tmp 1) rfl rfl hw'.1 Try.underlying23 rfl rfl
  refine wpAnyH_take (i := 1) (v := .agg #[.int .i64 a, .int .i64 b]) rfl (by kernel_rfl) (by kernel_rfl) (by kernel_rfl) (fun _ _ _ h => h) (Or.inl ⟨by rfl, fun w' hw' => ?ya1⟩) HH.out ?_
  case ya1 => exact exec_load 23 (.tmp 1) rfl rfl hw'.1 Try.underlying23 rfl rfl
  try simp only [List.getElem_toArray, List.getElem_cons_succ, List.getElem_cons_zero, Act.put, List.setIfInBounds_toArray, List.set_cons_zero, List.set_cons_succ]
  refine wpAnyH_ready (rs := [2]) (by kernel_rfl) (by simp) (AllReadyH.cons rfl (fun K hK => ?_) AllReadyH.nil)
  go_simp
  refine (nearest_any a b _).mono ?_
  rintro e w2 ⟨rfl, bw⟩
  unfold shV
  go_simp
  refine hK.out _ _ ⟨HH.out.1.below bw, HH.out.2.trans (bw.mono HH.out.2.size)⟩ (fun hh => ?_)
  have HH' := Lib.hid hh
  clear hh hK K HH bw
  have HH := Lib.hid HH'.out
  clear HH'
  try simp only [List.getElem_toArray, List.getElem_cons_succ, List.getElem_cons_zero, Act.put, List.setIfInBounds_toArray, List.set_cons_zero, List.set_cons_succ]
  refine wpAnyH_take (i := 3) (v := .bool true) rfl (by kernel_rfl) (by kernel_rfl) (by kernel_rfl) (fun _ _ _ h => h) (Or.inl ⟨by rfl, fun w' _ => ?y3⟩) HH.out ?_
  case y3 =>
    go_simp
    unfold okS at hok
    intro h1; omega
  try simp only [List.getElem_toArray, List.getElem_cons_succ, List.getElem_cons_zero, Act.put, List.setIfInBounds_toArray, List.set_cons_zero, List.set_cons_succ]
  refine wpAnyH_done (by kernel_rfl) ?_ _
  go_wp2_with fail
  go_ret
  exact ⟨rfl, HH.out.2⟩
theorem ok_mul {a b : Int} (h : okS a b) : 3 ≤ a * b ∧ a * b ≤ 2048 := by
  unfold okS at h
  have h1 : a * b ≤ 64 * 32 := Int.mul_le_mul (by omega) (by omega) (by omega) (by omega)
  have h2 : 3 * 1 ≤ a * b := Int.mul_le_mul (by omega) (by omega) (by omega) (by omega)
  omega
set_option maxRecDepth 100000 in
theorem sectors_yes (a b : Int) (hok : okS a b) (w : World) : Calls Try.prog 15 #[shV a b] w (RetB (.int .i64 (2 + a * b)) w) := by
  have hm := ok_mul hok
  have ho := hok
  unfold okS at ho
  have k1 : IntKind.i64.wrap (a * b) = a * b := IntWalk.i64_in _ (by omega)
  have k2 : IntKind.i64.wrap (2 + a * b) = 2 + a * b := IntWalk.i64_in _ (by omega)
  clear hm ho
  have b1 : Blk (w.alloc (.cells #[.int .i64 a, .int .i64 b] 23)) w.heap.size #[.int .i64 a, .int .i64 b] 23 := heap_alloc_new _ _
  have bb : Below w.heap.size w (w.alloc (.cells #[.int .i64 a, .int .i64 b] 23)) := (Below.refl _ _).alloc (Nat.le_refl _) _
  have B1 := Lib.hid b1
  have BB := Lib.hid bb
  clear b1 bb
  unfold shV
  go_enter Try.func15, Try.ntmps15
  go_wp2_with (refine wpList_load_row rfl 23 (.tmp 1) rfl w.heap.size rfl 23 #[.int .i64 a, .int .i64 b] (0, 0) _ B1.out Try.underlying23 rfl rfl ?_)
  refine (check_yes a b hok _).mono ?_
  rintro e w2 ⟨rfl, bw⟩
  have B1' := Lib.hid (B1.out.below bw)
  have BB' := Lib.hid (BB.out.trans (bw.mono BB.out.size))
  clear B1 BB bw
  have B1 := Lib.hid B1'.out
  have BB := Lib.hid BB'.out
  clear B1' BB'
  have c0 := B1.out.cell 0
  have c1 := B1.out.cell 1
  go_wp2_with fail
  go_ret
  exact ⟨rfl, BB.out⟩
set_option maxRecDepth 100000 in
theorem sectors_no (a b : Int) (hok : ¬okS a b) (w : World) : Calls Try.prog 15 #[shV a b] w (RetB (.int .i64 0) w) := by
  have b1 : Blk (w.alloc (.cells #[.int .i64 a, .int .i64 b] 23)) w.heap.size #[.int .i64 a, .int .i64 b] 23 := heap_alloc_new _ _
  have bb : Below w.heap.size w (w.alloc (.cells #[.int .i64 a, .int .i64 b] 23)) := (Below.refl _ _).alloc (Nat.le_refl _) _
  have B1 := Lib.hid b1
  have BB := Lib.hid bb
  clear b1 bb
  unfold shV
  go_enter Try.func15, Try.ntmps15
  go_wp2_with (refine wpList_load_row rfl 23 (.tmp 1) rfl w.heap.size rfl 23 #[.int .i64 a, .int .i64 b] (0, 0) _ B1.out Try.underlying23 rfl rfl ?_)
  refine (check_no a b hok _).mono ?_
  rintro e w2 ⟨rfl, bw⟩
  have B1' := Lib.hid (B1.out.below bw)
  have BB' := Lib.hid (BB.out.trans (bw.mono BB.out.size))
  clear B1 BB bw
  have B1 := Lib.hid B1'.out
  have BB := Lib.hid BB'.out
  clear B1' BB'
  have c0 := B1.out.cell 0
  have c1 := B1.out.cell 1
  go_wp2_with fail
  go_ret
  exact ⟨rfl, BB.out⟩
set_option maxRecDepth 100000 in
theorem most_yes (a b : Int) (hok : okS a b) (w : World) : Calls Try.prog 16 #[shV a b] w (RetB (.int .i64 ((a - 2) * b)) w) := by
  have hm := ok_mul hok
  have ho := hok
  unfold okS at ho
  have k0 : (a - 2) * b = a * b - 2 * b := Int.sub_mul a 2 b
  have k1 : IntKind.i64.wrap (a - 2) = a - 2 := IntWalk.i64_in _ (by omega)
  have k2 : IntKind.i64.wrap ((a - 2) * b) = (a - 2) * b := IntWalk.i64_in _ (by omega)
  clear hm ho k0
  have b1 : Blk (w.alloc (.cells #[.int .i64 a, .int .i64 b] 23)) w.heap.size #[.int .i64 a, .int .i64 b] 23 := heap_alloc_new _ _
  have bb : Below w.heap.size w (w.alloc (.cells #[.int .i64 a, .int .i64 b] 23)) := (Below.refl _ _).alloc (Nat.le_refl _) _
  have B1 := Lib.hid b1
  have BB := Lib.hid bb
  clear b1 bb
  unfold shV
  go_enter Try.func16, Try.ntmps16
  go_wp2_with (refine wpList_load_row rfl 23 (.tmp 1) rfl w.heap.size rfl 23 #[.int .i64 a, .int .i64 b] (0, 0) _ B1.out Try.underlying23 rfl rfl ?_)
  refine (check_yes a b hok _).mono ?_
  rintro e w2 ⟨rfl, bw⟩
  have B1' := Lib.hid (B1.out.below bw)
  have BB' := Lib.hid (BB.out.trans (bw.mono BB.out.size))
  clear B1 BB bw
  have B1 := Lib.hid B1'.out
  have BB := Lib.hid BB'.out
  clear B1' BB'
  have c0 := B1.out.cell 0
  have c1 := B1.out.cell 1
  go_wp2_with fail
  go_ret
  exact ⟨rfl, BB.out⟩
set_option maxRecDepth 100000 in
theorem most_no (a b : Int) (hok : ¬okS a b) (w : World) : Calls Try.prog 16 #[shV a b] w (RetB (.int .i64 0) w) := by
  have b1 : Blk (w.alloc (.cells #[.int .i64 a, .int .i64 b] 23)) w.heap.size #[.int .i64 a, .int .i64 b] 23 := heap_alloc_new _ _
  have bb : Below w.heap.size w (w.alloc (.cells #[.int .i64 a, .int .i64 b] 23)) := (Below.refl _ _).alloc (Nat.le_refl _) _
  have B1 := Lib.hid b1
  have BB := Lib.hid bb
  clear b1 bb
  unfold shV
  go_enter Try.func16, Try.ntmps16
  go_wp2_with (refine wpList_load_row rfl 23 (.tmp 1) rfl w.heap.size rfl 23 #[.int .i64 a, .int .i64 b] (0, 0) _ B1.out Try.underlying23 rfl rfl ?_)
  refine (check_no a b hok _).mono ?_
  rintro e w2 ⟨rfl, bw⟩
  have B1' := Lib.hid (B1.out.below bw)
  have BB' := Lib.hid (BB.out.trans (bw.mono BB.out.size))
  clear B1 BB bw
  have B1 := Lib.hid B1'.out
  have BB := Lib.hid BB'.out
  clear B1' BB'
  have c0 := B1.out.cell 0
  have c1 := B1.out.cell 1
  go_wp2_with fail
  go_ret
  exact ⟨rfl, BB.out⟩
/-- The slot j of the segment i is one of theirs. -/
def inS (a b i j : Int) : Prop := okS a b ∧ (0 ≤ i ∧ i < a) ∧ (0 ≤ j ∧ j < b)
instance (a b i j : Int) : Decidable (inS a b i j) := by unfold inS; infer_instance
theorem in_mul {a b i j : Int} (h : inS a b i j) : 0 ≤ i * b ∧ i * b + b ≤ a * b ∧ 3 ≤ a * b ∧ a * b ≤ 2048 := by
  have hm := ok_mul h.1
  obtain ⟨ho, hi, hj⟩ := h
  unfold okS at ho
  have h1 : 0 ≤ i * b := Int.mul_nonneg (by omega) (by omega)
  have h2 : (i + 1) * b ≤ a * b := Int.mul_le_mul_of_nonneg_right (by omega) (by omega)
  rw [Int.add_mul] at h2
  omega
set_option maxRecDepth 100000 in
theorem sector_yes (a b i j : Int) (hin : inS a b i j) (w : World) : Calls Try.prog 17 #[shV a b, .int .i64 i, .int .i64 j] w (RetB (.tuple #[.int .i64 (2 + i * b + j), .bool true]) w) := by
  have hok := hin.1
  have hm := in_mul hin
  have ho := hin
  unfold inS okS at ho
  have k1 : IntKind.i64.wrap (i * b) = i * b := IntWalk.i64_in _ (by omega)
  have k2 : IntKind.i64.wrap (2 + i * b) = 2 + i * b := IntWalk.i64_in _ (by omega)
  have k3 : IntKind.i64.wrap (2 + i * b + j) = 2 + i * b + j := IntWalk.i64_in _ (by omega)
  have d1 : decide (i < 0) = false := decide_eq_false (by omega)
  have d2 : decide (a ≤ i) = false := decide_eq_false (by omega)
  have d3 : decide (j < 0) = false := decide_eq_false (by omega)
  have d4 : decide (b ≤ j) = false := decide_eq_false (by omega)
  clear hm ho hin
  have b1 : Blk (w.alloc (.cells #[.int .i64 a, .int .i64 b] 23)) w.heap.size #[.int .i64 a, .int .i64 b] 23 := heap_alloc_new _ _
  have bb : Below w.heap.size w (w.alloc (.cells #[.int .i64 a, .int .i64 b] 23)) := (Below.refl _ _).alloc (Nat.le_refl _) _
  have B1 := Lib.hid b1
  have BB := Lib.hid bb
  clear b1 bb
  unfold shV
  go_enter Try.func17, Try.ntmps17
  go_wp2_with (refine wpList_load_row rfl 23 (.tmp 3) rfl w.heap.size rfl 23 #[.int .i64 a, .int .i64 b] (0, 0) _ B1.out Try.underlying23 rfl rfl ?_)
  refine (check_yes a b hok _).mono ?_
  rintro e w2 ⟨rfl, bw⟩
  have B1' := Lib.hid (B1.out.below bw)
  have BB' := Lib.hid (BB.out.trans (bw.mono BB.out.size))
  clear B1 BB bw
  have B1 := Lib.hid B1'.out
  have BB := Lib.hid BB'.out
  clear B1' BB'
  have c0 := B1.out.cell 0
  have c1 := B1.out.cell 1
  go_wp2_with fail
  go_ret2
  exact ⟨rfl, BB.out⟩
set_option maxRecDepth 100000 in
theorem sector_no0 (a b i j : Int) (hok : ¬okS a b) (w : World) : Calls Try.prog 17 #[shV a b, .int .i64 i, .int .i64 j] w (RetB (.tuple #[.int .i64 0, .bool false]) w) := by
  have b1 : Blk (w.alloc (.cells #[.int .i64 a, .int .i64 b] 23)) w.heap.size #[.int .i64 a, .int .i64 b] 23 := heap_alloc_new _ _
  have bb : Below w.heap.size w (w.alloc (.cells #[.int .i64 a, .int .i64 b] 23)) := (Below.refl _ _).alloc (Nat.le_refl _) _
  have B1 := Lib.hid b1
  have BB := Lib.hid bb
  clear b1 bb
  unfold shV
  go_enter Try.func17, Try.ntmps17
  go_wp2_with (refine wpList_load_row rfl 23 (.tmp 3) rfl w.heap.size rfl 23 #[.int .i64 a, .int .i64 b] (0, 0) _ B1.out Try.underlying23 rfl rfl ?_)
  refine (check_no a b hok _).mono ?_
  rintro e w2 ⟨rfl, bw⟩
  have B1' := Lib.hid (B1.out.below bw)
  have BB' := Lib.hid (BB.out.trans (bw.mono BB.out.size))
  clear B1 BB bw
  have B1 := Lib.hid B1'.out
  have BB := Lib.hid BB'.out
  clear B1' BB'
  have c0 := B1.out.cell 0
  have c1 := B1.out.cell 1
  go_wp2_with fail
  go_ret2
  exact ⟨rfl, BB.out⟩
set_option maxRecDepth 100000 in
theorem sector_no1 (a b i j : Int) (hok : okS a b) (hi : i < 0) (w : World) : Calls Try.prog 17 #[shV a b, .int .i64 i, .int .i64 j] w (RetB (.tuple #[.int .i64 0, .bool false]) w) := by
  have d1 : decide (i < 0) = true := decide_eq_true (by omega)
  have b1 : Blk (w.alloc (.cells #[.int .i64 a, .int .i64 b] 23)) w.heap.size #[.int .i64 a, .int .i64 b] 23 := heap_alloc_new _ _
  have bb : Below w.heap.size w (w.alloc (.cells #[.int .i64 a, .int .i64 b] 23)) := (Below.refl _ _).alloc (Nat.le_refl _) _
  have B1 := Lib.hid b1
  have BB := Lib.hid bb
  clear b1 bb
  unfold shV
  go_enter Try.func17, Try.ntmps17
  go_wp2_with (refine wpList_load_row rfl 23 (.tmp 3) rfl w.heap.size rfl 23 #[.int .i64 a, .int .i64 b] (0, 0) _ B1.out Try.underlying23 rfl rfl ?_)
  refine (check_yes a b hok _).mono ?_
  rintro e w2 ⟨rfl, bw⟩
  have B1' := Lib.hid (B1.out.below bw)
  have BB' := Lib.hid (BB.out.trans (bw.mono BB.out.size))
  clear B1 BB bw
  have B1 := Lib.hid B1'.out
  have BB := Lib.hid BB'.out
  clear B1' BB'
  have c0 := B1.out.cell 0
  have c1 := B1.out.cell 1
  go_wp2_with fail
  go_ret2
  exact ⟨rfl, BB.out⟩
set_option maxRecDepth 100000 in
theorem sector_no2 (a b i j : Int) (hok : okS a b) (hi : 0 ≤ i) (h2 : a ≤ i) (w : World) : Calls Try.prog 17 #[shV a b, .int .i64 i, .int .i64 j] w (RetB (.tuple #[.int .i64 0, .bool false]) w) := by
  have d1 : decide (i < 0) = false := decide_eq_false (by omega)
  have d2 : decide (a ≤ i) = true := decide_eq_true (by omega)
  have b1 : Blk (w.alloc (.cells #[.int .i64 a, .int .i64 b] 23)) w.heap.size #[.int .i64 a, .int .i64 b] 23 := heap_alloc_new _ _
  have bb : Below w.heap.size w (w.alloc (.cells #[.int .i64 a, .int .i64 b] 23)) := (Below.refl _ _).alloc (Nat.le_refl _) _
  have B1 := Lib.hid b1
  have BB := Lib.hid bb
  clear b1 bb
  unfold shV
  go_enter Try.func17, Try.ntmps17
  go_wp2_with (refine wpList_load_row rfl 23 (.tmp 3) rfl w.heap.size rfl 23 #[.int .i64 a, .int .i64 b] (0, 0) _ B1.out Try.underlying23 rfl rfl ?_)
  refine (check_yes a b hok _).mono ?_
  rintro e w2 ⟨rfl, bw⟩
  have B1' := Lib.hid (B1.out.below bw)
  have BB' := Lib.hid (BB.out.trans (bw.mono BB.out.size))
  clear B1 BB bw
  have B1 := Lib.hid B1'.out
  have BB := Lib.hid BB'.out
  clear B1' BB'
  have c0 := B1.out.cell 0
  have c1 := B1.out.cell 1
  go_wp2_with fail
  go_ret2
  exact ⟨rfl, BB.out⟩
set_option maxRecDepth 100000 in
theorem sector_no3 (a b i j : Int) (hok : okS a b) (hi : 0 ≤ i) (h2 : i < a) (h3 : j < 0) (w : World) : Calls Try.prog 17 #[shV a b, .int .i64 i, .int .i64 j] w (RetB (.tuple #[.int .i64 0, .bool false]) w) := by
  have d1 : decide (i < 0) = false := decide_eq_false (by omega)
  have d2 : decide (a ≤ i) = false := decide_eq_false (by omega)
  have d3 : decide (j < 0) = true := decide_eq_true (by omega)
  have b1 : Blk (w.alloc (.cells #[.int .i64 a, .int .i64 b] 23)) w.heap.size #[.int .i64 a, .int .i64 b] 23 := heap_alloc_new _ _
  have bb : Below w.heap.size w (w.alloc (.cells #[.int .i64 a, .int .i64 b] 23)) := (Below.refl _ _).alloc (Nat.le_refl _) _
  have B1 := Lib.hid b1
  have BB := Lib.hid bb
  clear b1 bb
  unfold shV
  go_enter Try.func17, Try.ntmps17
  go_wp2_with (refine wpList_load_row rfl 23 (.tmp 3) rfl w.heap.size rfl 23 #[.int .i64 a, .int .i64 b] (0, 0) _ B1.out Try.underlying23 rfl rfl ?_)
  refine (check_yes a b hok _).mono ?_
  rintro e w2 ⟨rfl, bw⟩
  have B1' := Lib.hid (B1.out.below bw)
  have BB' := Lib.hid (BB.out.trans (bw.mono BB.out.size))
  clear B1 BB bw
  have B1 := Lib.hid B1'.out
  have BB := Lib.hid BB'.out
  clear B1' BB'
  have c0 := B1.out.cell 0
  have c1 := B1.out.cell 1
  go_wp2_with fail
  go_ret2
  exact ⟨rfl, BB.out⟩
set_option maxRecDepth 100000 in
theorem sector_no4 (a b i j : Int) (hok : okS a b) (hi : 0 ≤ i) (h2 : i < a) (h3 : 0 ≤ j) (h4 : b ≤ j) (w : World) : Calls Try.prog 17 #[shV a b, .int .i64 i, .int .i64 j] w (RetB (.tuple #[.int .i64 0, .bool false]) w) := by
  have d1 : decide (i < 0) = false := decide_eq_false (by omega)
  have d2 : decide (a ≤ i) = false := decide_eq_false (by omega)
  have d3 : decide (j < 0) = false := decide_eq_false (by omega)
  have d4 : decide (b ≤ j) = true := decide_eq_true (by omega)
  have b1 : Blk (w.alloc (.cells #[.int .i64 a, .int .i64 b] 23)) w.heap.size #[.int .i64 a, .int .i64 b] 23 := heap_alloc_new _ _
  have bb : Below w.heap.size w (w.alloc (.cells #[.int .i64 a, .int .i64 b] 23)) := (Below.refl _ _).alloc (Nat.le_refl _) _
  have B1 := Lib.hid b1
  have BB := Lib.hid bb
  clear b1 bb
  unfold shV
  go_enter Try.func17, Try.ntmps17
  go_wp2_with (refine wpList_load_row rfl 23 (.tmp 3) rfl w.heap.size rfl 23 #[.int .i64 a, .int .i64 b] (0, 0) _ B1.out Try.underlying23 rfl rfl ?_)
  refine (check_yes a b hok _).mono ?_
  rintro e w2 ⟨rfl, bw⟩
  have B1' := Lib.hid (B1.out.below bw)
  have BB' := Lib.hid (BB.out.trans (bw.mono BB.out.size))
  clear B1 BB bw
  have B1 := Lib.hid B1'.out
  have BB := Lib.hid BB'.out
  clear B1' BB'
  have c0 := B1.out.cell 0
  have c1 := B1.out.cell 1
  go_wp2_with fail
  go_ret2
  exact ⟨rfl, BB.out⟩
theorem sector_no (a b i j : Int) (hin : ¬inS a b i j) (w : World) : Calls Try.prog 17 #[shV a b, .int .i64 i, .int .i64 j] w (RetB (.tuple #[.int .i64 0, .bool false]) w) := by
  by_cases hok : okS a b
  · by_cases h1 : i < 0
    · exact sector_no1 a b i j hok h1 w
    · by_cases h2 : i < a
      · by_cases h3 : j < 0
        · exact sector_no3 a b i j hok (by omega) h2 h3 w
        · by_cases h4 : j < b
          · exact absurd ⟨hok, ⟨by omega, h2⟩, by omega, h4⟩ hin
          · exact sector_no4 a b i j hok (by omega) h2 (by omega) (by omega) w
      · exact sector_no2 a b i j hok (by omega) (by omega) w
  · exact sector_no0 a b i j hok w
set_option maxRecDepth 100000 in
theorem of_no0 (a b at_ : Int) (h : at_ < 2) (w : World) : Calls Try.prog 18 #[shV a b, .int .i64 at_] w (RetB (.tuple #[.int .i64 0, .int .i64 0, .bool false]) w) := by
  have d1 : decide (at_ < 2) = true := decide_eq_true h
  have b1 : Blk (w.alloc (.cells #[.int .i64 a, .int .i64 b] 23)) w.heap.size #[.int .i64 a, .int .i64 b] 23 := heap_alloc_new _ _
  have bb : Below w.heap.size w (w.alloc (.cells #[.int .i64 a, .int .i64 b] 23)) := (Below.refl _ _).alloc (Nat.le_refl _) _
  have B1 := Lib.hid b1
  have BB := Lib.hid bb
  clear b1 bb
  unfold shV
  go_enter Try.func18, Try.ntmps18
  go_wp2_with fail
  go_ret3
  exact ⟨rfl, BB.out⟩
set_option maxRecDepth 100000 in
theorem of_no1 (a b at_ : Int) (h : 2 ≤ at_) (hok : ¬okS a b) (w : World) : Calls Try.prog 18 #[shV a b, .int .i64 at_] w (RetB (.tuple #[.int .i64 0, .int .i64 0, .bool false]) w) := by
  have d1 : decide (at_ < 2) = false := decide_eq_false (by omega)
  have d2 : decide (0 ≤ at_) = true := decide_eq_true (by omega)
  have b1 : Blk (w.alloc (.cells #[.int .i64 a, .int .i64 b] 23)) w.heap.size #[.int .i64 a, .int .i64 b] 23 := heap_alloc_new _ _
  have bb : Below w.heap.size w (w.alloc (.cells #[.int .i64 a, .int .i64 b] 23)) := (Below.refl _ _).alloc (Nat.le_refl _) _
  have B1 := Lib.hid b1
  have BB := Lib.hid bb
  clear b1 bb
  unfold shV
  go_enter Try.func18, Try.ntmps18
  go_wp2_with (refine wpList_load_row rfl 23 (.tmp 2) rfl w.heap.size rfl 23 #[.int .i64 a, .int .i64 b] (0, 0) _ B1.out Try.underlying23 rfl rfl ?_)
  refine (sectors_no a b hok _).mono ?_
  rintro e w2 ⟨rfl, bw⟩
  have B1' := Lib.hid (B1.out.below bw)
  have BB' := Lib.hid (BB.out.trans (bw.mono BB.out.size))
  clear B1 BB bw
  have B1 := Lib.hid B1'.out
  have BB := Lib.hid BB'.out
  clear B1' BB'
  have c0 := B1.out.cell 0
  have c1 := B1.out.cell 1
  go_wp2_with fail
  go_ret3
  exact ⟨rfl, BB.out⟩
set_option maxRecDepth 100000 in
theorem of_no2 (a b at_ : Int) (h : 2 ≤ at_) (hok : okS a b) (h2 : 2 + a * b ≤ at_) (w : World) : Calls Try.prog 18 #[shV a b, .int .i64 at_] w (RetB (.tuple #[.int .i64 0, .int .i64 0, .bool false]) w) := by
  have d1 : decide (at_ < 2) = false := decide_eq_false (by omega)
  have d2 : decide (2 + a * b ≤ at_) = true := decide_eq_true (by omega)
  have b1 : Blk (w.alloc (.cells #[.int .i64 a, .int .i64 b] 23)) w.heap.size #[.int .i64 a, .int .i64 b] 23 := heap_alloc_new _ _
  have bb : Below w.heap.size w (w.alloc (.cells #[.int .i64 a, .int .i64 b] 23)) := (Below.refl _ _).alloc (Nat.le_refl _) _
  have B1 := Lib.hid b1
  have BB := Lib.hid bb
  clear b1 bb
  unfold shV
  go_enter Try.func18, Try.ntmps18
  go_wp2_with (refine wpList_load_row rfl 23 (.tmp 2) rfl w.heap.size rfl 23 #[.int .i64 a, .int .i64 b] (0, 0) _ B1.out Try.underlying23 rfl rfl ?_)
  refine (sectors_yes a b hok _).mono ?_
  rintro e w2 ⟨rfl, bw⟩
  have B1' := Lib.hid (B1.out.below bw)
  have BB' := Lib.hid (BB.out.trans (bw.mono BB.out.size))
  clear B1 BB bw
  have B1 := Lib.hid B1'.out
  have BB := Lib.hid BB'.out
  clear B1' BB'
  have c0 := B1.out.cell 0
  have c1 := B1.out.cell 1
  go_wp2_with fail
  go_ret3
  exact ⟨rfl, BB.out⟩
theorem of_no (a b at_ : Int) (h : ¬(okS a b ∧ 2 ≤ at_ ∧ at_ < 2 + a * b)) (w : World) : Calls Try.prog 18 #[shV a b, .int .i64 at_] w (RetB (.tuple #[.int .i64 0, .int .i64 0, .bool false]) w) := by
  by_cases h1 : at_ < 2
  · exact of_no0 a b at_ h1 w
  · by_cases hok : okS a b
    · by_cases h2 : at_ < 2 + a * b
      · exact absurd ⟨hok, by omega, h2⟩ h
      · exact of_no2 a b at_ (by omega) hok (by omega) w
    · exact of_no1 a b at_ (by omega) hok w
set_option maxRecDepth 100000 in
theorem of_yes (a b i j : Int) (hin : inS a b i j) (w : World) : Calls Try.prog 18 #[shV a b, .int .i64 (2 + i * b + j)] w (RetB (.tuple #[.int .i64 i, .int .i64 j, .bool true]) w) := by
  have hok := hin.1
  have hm := in_mul hin
  have ho := hin
  unfold inS okS at ho
  have d1 : decide (2 + i * b + j < 2) = false := decide_eq_false (by omega)
  have d2 : decide (2 + a * b ≤ 2 + i * b + j) = false := decide_eq_false (by omega)
  have k1 : IntKind.i64.wrap (2 + i * b + j - 2) = i * b + j := by rw [IntWalk.i64_in _ (by omega)]; omega
  have hb : b ≠ 0 := by omega
  have q1 : (i * b + j).tdiv b = i := by
    rw [Int.tdiv_eq_ediv_of_nonneg (by omega), Int.add_comm, Int.add_mul_ediv_right _ _ hb, Int.ediv_eq_zero_of_lt (by omega) (by omega)]; omega
  have q2 : (i * b + j).tmod b = j := by
    rw [Int.tmod_eq_emod_of_nonneg (by omega), Int.add_comm, Int.add_mul_emod_self_right, Int.emod_eq_of_lt (by omega) (by omega)]
  have q3 : wrap64 i = i := by unfold wrap64; omega
  clear hm ho hin
  have b1 : Blk (w.alloc (.cells #[.int .i64 a, .int .i64 b] 23)) w.heap.size #[.int .i64 a, .int .i64 b] 23 := heap_alloc_new _ _
  have bb : Below w.heap.size w (w.alloc (.cells #[.int .i64 a, .int .i64 b] 23)) := (Below.refl _ _).alloc (Nat.le_refl _) _
  have B1 := Lib.hid b1
  have BB := Lib.hid bb
  clear b1 bb
  unfold shV
  go_enter Try.func18, Try.ntmps18
  go_wp2_with (refine wpList_load_row rfl 23 (.tmp 2) rfl w.heap.size rfl 23 #[.int .i64 a, .int .i64 b] (0, 0) _ B1.out Try.underlying23 rfl rfl ?_)
  refine (sectors_yes a b hok _).mono ?_
  rintro e w2 ⟨rfl, bw⟩
  have B1' := Lib.hid (B1.out.below bw)
  have BB' := Lib.hid (BB.out.trans (bw.mono BB.out.size))
  clear B1 BB bw
  have B1 := Lib.hid B1'.out
  have BB := Lib.hid BB'.out
  clear B1' BB'
  have c0 := B1.out.cell 0
  have c1 := B1.out.cell 1
  go_wp2_with fail
  go_quiet (fail)
  go_wp2_with fail
  go_ret3
  exact ⟨(show Ending.returned (.tuple #[.int .i64 (wrap64 i), .int .i64 j, .bool true]) = _ by rw [q3]), below_drewN' BB.out _⟩
end Go.Proofs.Ytmokigcplgjgiaa.Sg
