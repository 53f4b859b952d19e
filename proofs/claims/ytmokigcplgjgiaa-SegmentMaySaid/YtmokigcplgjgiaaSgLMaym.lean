/-
  SegmentMay holds: of any shape and any two numbers the law returns true.
-/
import Derived.Test.YtmokigcplgjgiaaSgAwake
import Derived.Test.YtmokigcplgjgiaaSgOpen
import Derived.Test.YtmokigcplgjgiaaRows
import Derived.Test.YtmokigcplgjgiaaOpen
import Derived.Test.YtmokigcplgjgiaaOpenA
import Derived.ProofKit
import Derived.OpenShut
import Derived.ShutString
import Derived.ChangeOld
namespace Go.Proofs.Ytmokigcplgjgiaa
open Go.RowKit Sg Go.ChangeShapes Go.WideShapes Go.ChangeAt
attribute [local go_sem ↓] Go.wp_at_zero Go.wp_at_succ
set_option maxRecDepth 100000 in
theorem may_yes (a b : Int) (hok : okS a b) (w : World) : Calls Try.prog 13 #[.int .i64 a, .int .i64 b] w (RetB (.bool true) w) := by
  unfold okS at hok
  have d0 : decide (3 ≤ a) = true := decide_eq_true (by omega)
  have d1 : decide (a ≤ 64) = true := decide_eq_true (by omega)
  have d2 : decide (1 ≤ b) = true := decide_eq_true (by omega)
  have d3 : decide (b ≤ 32) = true := decide_eq_true (by omega)
  go_enter Try.func13, Try.ntmps13
  go_wp2_with fail
  go_ret
  exact ⟨rfl, Below.refl _ _⟩
set_option maxRecDepth 100000 in
theorem may_no0 (a b : Int) (h0 : ¬(3 ≤ a)) (w : World) : Calls Try.prog 13 #[.int .i64 a, .int .i64 b] w (RetB (.bool false) w) := by
  have d0 : decide (3 ≤ a) = false := decide_eq_false (by omega)
  go_enter Try.func13, Try.ntmps13
  go_wp2_with fail
  go_ret
  exact ⟨rfl, Below.refl _ _⟩
set_option maxRecDepth 100000 in
theorem may_no1 (a b : Int) (h0 : 3 ≤ a) (h1 : ¬(a ≤ 64)) (w : World) : Calls Try.prog 13 #[.int .i64 a, .int .i64 b] w (RetB (.bool false) w) := by
  have d0 : decide (3 ≤ a) = true := decide_eq_true (by omega)
  have d1 : decide (a ≤ 64) = false := decide_eq_false (by omega)
  go_enter Try.func13, Try.ntmps13
  go_wp2_with fail
  go_ret
  exact ⟨rfl, Below.refl _ _⟩
set_option maxRecDepth 100000 in
theorem may_no2 (a b : Int) (h0 : 3 ≤ a) (h1 : a ≤ 64) (h2 : ¬(1 ≤ b)) (w : World) : Calls Try.prog 13 #[.int .i64 a, .int .i64 b] w (RetB (.bool false) w) := by
  have d0 : decide (3 ≤ a) = true := decide_eq_true (by omega)
  have d1 : decide (a ≤ 64) = true := decide_eq_true (by omega)
  have d2 : decide (1 ≤ b) = false := decide_eq_false (by omega)
  go_enter Try.func13, Try.ntmps13
  go_wp2_with fail
  go_ret
  exact ⟨rfl, Below.refl _ _⟩
set_option maxRecDepth 100000 in
theorem may_no3 (a b : Int) (h0 : 3 ≤ a) (h1 : a ≤ 64) (h2 : 1 ≤ b) (h3 : ¬(b ≤ 32)) (w : World) : Calls Try.prog 13 #[.int .i64 a, .int .i64 b] w (RetB (.bool false) w) := by
  have d0 : decide (3 ≤ a) = true := decide_eq_true (by omega)
  have d1 : decide (a ≤ 64) = true := decide_eq_true (by omega)
  have d2 : decide (1 ≤ b) = true := decide_eq_true (by omega)
  have d3 : decide (b ≤ 32) = false := decide_eq_false (by omega)
  go_enter Try.func13, Try.ntmps13
  go_wp2_with fail
  go_ret
  exact ⟨rfl, Below.refl _ _⟩
theorem may_no (a b : Int) (hok : ¬okS a b) (w : World) : Calls Try.prog 13 #[.int .i64 a, .int .i64 b] w (RetB (.bool false) w) := by
  by_cases h0 : 3 ≤ a
  · by_cases h1 : a ≤ 64
    · by_cases h2 : 1 ≤ b
      · by_cases h3 : b ≤ 32
        · exact absurd ⟨⟨h0, h1⟩, h2, h3⟩ hok
        · exact may_no3 a b h0 h1 h2 h3 w
      · exact may_no2 a b h0 h1 h2 w
    · exact may_no1 a b h0 h1 w
  · exact may_no0 a b h0 w
set_option maxRecDepth 100000 in
theorem segmentMay_any (w : World) (a b : Int) (_ : Sg.i64B a) (_ : Sg.i64B b) (i : Int) (_ : -9223372036854775808 ≤ i ∧ i ≤ 9223372036854775807) (j : Int) (_ : -9223372036854775808 ≤ j ∧ j ≤ 9223372036854775807) : Calls Try.prog 3 #[.agg #[.int .i64 a, .int .i64 b], .int .i64 i, .int .i64 j] w (RetB (.bool true) w) := by
  have b1 : Blk (w.alloc (.cells #[.int .i64 a, .int .i64 b] 23)) w.heap.size #[.int .i64 a, .int .i64 b] 23 := heap_alloc_new _ _
  have bb : Below w.heap.size w (w.alloc (.cells #[.int .i64 a, .int .i64 b] 23)) := (Below.refl _ _).alloc (Nat.le_refl _) _
  have B1 := Lib.hid b1
  have BB := Lib.hid bb
  clear b1 bb
  by_cases hok : okS a b
  · skip
    have hm := Sg.ok_mul hok
    have ho := hok
    unfold okS at ho
    have k0 : (a - 2) * b = a * b - 2 * b := Int.sub_mul a 2 b
    have k1 : 1 * b ≤ (a - 2) * b := Int.mul_le_mul_of_nonneg_right (by omega) (by omega)
    have d1 : decide (2 < 2 + a * b) = true := decide_eq_true (by omega)
    have d2 : decide (0 < (a - 2) * b) = true := decide_eq_true (by omega)
    clear hm ho k0 k1
    go_enter Try.func3, Try.ntmps3
    go_wp2_with fail
    refine (Sg.awake_any _).mono ?_
    rintro e w2 ⟨rfl, bw⟩
    have B1' := Lib.hid (B1.out.below bw)
    have BB' := Lib.hid (BB.out.trans (bw.mono BB.out.size))
    clear B1 BB bw
    have B1 := Lib.hid B1'.out
    have BB := Lib.hid BB'.out
    clear B1' BB'
    have c00 := B1.out.cell 0
    have c01 := B1.out.cell 1
    go_wp2_with fail
    clear c00 c01
    refine (may_yes a b hok _).mono ?_
    rintro e w3 ⟨rfl, bw⟩
    have B1' := Lib.hid (B1.out.below bw)
    have BB' := Lib.hid (BB.out.trans (bw.mono BB.out.size))
    clear B1 BB bw
    have B1 := Lib.hid B1'.out
    have BB := Lib.hid BB'.out
    clear B1' BB'
    have c00 := B1.out.cell 0
    have c01 := B1.out.cell 1
    go_wp2_with fail
    clear c00 c01
    refine (Sg.check_yes a b hok _).mono ?_
    rintro e w4 ⟨rfl, bw⟩
    have B1' := Lib.hid (B1.out.below bw)
    have BB' := Lib.hid (BB.out.trans (bw.mono BB.out.size))
    clear B1 BB bw
    have B1 := Lib.hid B1'.out
    have BB := Lib.hid BB'.out
    clear B1' BB'
    have c00 := B1.out.cell 0
    have c01 := B1.out.cell 1
    go_wp2_with fail
    clear c00 c01
    refine (Sg.sectors_yes a b hok _).mono ?_
    rintro e w5 ⟨rfl, bw⟩
    have B1' := Lib.hid (B1.out.below bw)
    have BB' := Lib.hid (BB.out.trans (bw.mono BB.out.size))
    clear B1 BB bw
    have B1 := Lib.hid B1'.out
    have BB := Lib.hid BB'.out
    clear B1' BB'
    have c00 := B1.out.cell 0
    have c01 := B1.out.cell 1
    go_wp2_with fail
    clear c00 c01
    refine (Sg.most_yes a b hok _).mono ?_
    rintro e w6 ⟨rfl, bw⟩
    have B1' := Lib.hid (B1.out.below bw)
    have BB' := Lib.hid (BB.out.trans (bw.mono BB.out.size))
    clear B1 BB bw
    have B1 := Lib.hid B1'.out
    have BB := Lib.hid BB'.out
    clear B1' BB'
    have c00 := B1.out.cell 0
    have c01 := B1.out.cell 1
    go_wp2_with fail
    clear c00 c01
    go_ret
    exact ⟨rfl, BB.out⟩
  · skip
    have hin : ¬inS a b i j := fun h => hok h.1
    have hof : ¬(okS a b ∧ 2 ≤ i ∧ i < 2 + a * b) := fun h => hok h.1
    go_enter Try.func3, Try.ntmps3
    go_wp2_with fail
    refine (Sg.awake_any _).mono ?_
    rintro e w7 ⟨rfl, bw⟩
    have B1' := Lib.hid (B1.out.below bw)
    have BB' := Lib.hid (BB.out.trans (bw.mono BB.out.size))
    clear B1 BB bw
    have B1 := Lib.hid B1'.out
    have BB := Lib.hid BB'.out
    clear B1' BB'
    have c00 := B1.out.cell 0
    have c01 := B1.out.cell 1
    go_wp2_with fail
    clear c00 c01
    refine (may_no a b hok _).mono ?_
    rintro e w8 ⟨rfl, bw⟩
    have B1' := Lib.hid (B1.out.below bw)
    have BB' := Lib.hid (BB.out.trans (bw.mono BB.out.size))
    clear B1 BB bw
    have B1 := Lib.hid B1'.out
    have BB := Lib.hid BB'.out
    clear B1' BB'
    have c00 := B1.out.cell 0
    have c01 := B1.out.cell 1
    go_wp2_with fail
    clear c00 c01
    refine (Sg.sector_no a b i j hin _).mono ?_
    rintro e w9 ⟨rfl, bw⟩
    have B1' := Lib.hid (B1.out.below bw)
    have BB' := Lib.hid (BB.out.trans (bw.mono BB.out.size))
    clear B1 BB bw
    have B1 := Lib.hid B1'.out
    have BB := Lib.hid BB'.out
    clear B1' BB'
    have c00 := B1.out.cell 0
    have c01 := B1.out.cell 1
    go_wp2_with fail
    clear c00 c01
    refine (Sg.of_no a b i hof _).mono ?_
    rintro e w10 ⟨rfl, bw⟩
    have B1' := Lib.hid (B1.out.below bw)
    have BB' := Lib.hid (BB.out.trans (bw.mono BB.out.size))
    clear B1 BB bw
    have B1 := Lib.hid B1'.out
    have BB := Lib.hid BB'.out
    clear B1' BB'
    have c00 := B1.out.cell 0
    have c01 := B1.out.cell 1
    go_wp2_with fail
    clear c00 c01
    refine (Sg.check_no a b hok _).mono ?_
    rintro e w11 ⟨rfl, bw⟩
    have B1' := Lib.hid (B1.out.below bw)
    have BB' := Lib.hid (BB.out.trans (bw.mono BB.out.size))
    clear B1 BB bw
    have B1 := Lib.hid B1'.out
    have BB := Lib.hid BB'.out
    clear B1' BB'
    have c00 := B1.out.cell 0
    have c01 := B1.out.cell 1
    go_wp2_with fail
    clear c00 c01
    refine (Sg.sectors_no a b hok _).mono ?_
    rintro e w12 ⟨rfl, bw⟩
    have B1' := Lib.hid (B1.out.below bw)
    have BB' := Lib.hid (BB.out.trans (bw.mono BB.out.size))
    clear B1 BB bw
    have B1 := Lib.hid B1'.out
    have BB := Lib.hid BB'.out
    clear B1' BB'
    have c00 := B1.out.cell 0
    have c01 := B1.out.cell 1
    go_wp2_with fail
    clear c00 c01
    refine (Sg.most_no a b hok _).mono ?_
    rintro e w13 ⟨rfl, bw⟩
    have B1' := Lib.hid (B1.out.below bw)
    have BB' := Lib.hid (BB.out.trans (bw.mono BB.out.size))
    clear B1 BB bw
    have B1 := Lib.hid B1'.out
    have BB := Lib.hid BB'.out
    clear B1' BB'
    have c00 := B1.out.cell 0
    have c01 := B1.out.cell 1
    go_wp2_with fail
    clear c00 c01
    go_ret
    exact ⟨rfl, BB.out⟩
theorem segmentMay_own : ownKnob Try.prog.godebug = none := by kernel_rfl
theorem segmentMay_laid : laidOutB Try.prog = true := by kernel_rfl

set_option maxRecDepth 100000 in
theorem segmentMay_lifted (os : Os) (started : os.Started) (H : Type) (enc : TypeId × Value → H) :
    ReturnsInHanded {} Try.checked os 3 .any (Rows.segmentMaySpec.pre6 enc Try.prog Try.f3 Rows.segmentMayRow.domain false) (Rows.segmentMaySpec.post enc Try.prog Try.f3 false true false false) := by
  refine returnsInHanded_of_change (C := Try.checked) segmentMay_own started (by kernel_rfl) Try.func3
    (ChangeSpec.witness6 (enc := enc) (C := Try.checked) false ⟨#[], #[.agg #[.int .i64 0, .int .i64 0], .int .i64 0, .int .i64 0], []⟩ 8 (by kernel_rfl) (by kernel_rfl) (by kernel_rfl) (by kernel_rfl)) ?_
  intro W base args ds gs before hval0 hW _ _
  have hval : ∀ (j : Nat) t v, Try.f3.params[j]? = some t → args[j]? = some v → Value.okWide Try.prog W .any base t v := hval0
  have hW' := hW
  obtain ⟨p, q, hA0, hV, rfl, hfz, hnd⟩ := hW
  have hA : DataW.TrodAll enc Try.prog W 0 (fun _ => true) true Try.f3.params.toList args.toList ds p := hA0
  rw [Try.params3] at hA hval
  obtain ⟨v0, vs0, d0, ds0, p0, q0, hargs, rfl, rfl, h0, r0⟩ := trodAll_cons hA
  obtain ⟨v1, vs1, d1, ds1, p1, q1, rfl, rfl, rfl, h1, r1⟩ := trodAll_cons r0
  obtain ⟨v2, vs2, d2, ds2, p2, q2, rfl, rfl, rfl, h2, r2⟩ := trodAll_cons r1
  obtain ⟨rfl, rfl, rfl⟩ := trodAll_nil r2
  obtain rfl : args = #[v0, v1, v2] := by cases args; simp_all
  obtain ⟨rfl, rfl⟩ := trodVars_none hV
  have lt0 : ∀ x ∈ p0, x.block < W.heap.size := by obtain ⟨m, hm⟩ := h0; exact DataW.trod_lt m _ _ _ hm
  obtain ⟨x0, y0, rfl, bx0, by0⟩ := Sg.open_shape (hval 0 23 v0 rfl rfl) h0
  obtain ⟨a1, rfl, rfl, rfl, w1⟩ := open_int Try.underlying3 (hval 1 3 v1 rfl rfl) h1
  have b1 := bounds_i64 w1
  obtain ⟨a2, rfl, rfl, rfl, w2⟩ := open_int Try.underlying3 (hval 2 3 v2 rfl rfl) h2
  have b2 := bounds_i64 w2
  clear hA0 hval0
  refine (segmentMay_any W x0 y0 bx0 by0 a1 b1 a2 b2).mono fun e W' ⟨he, bel⟩ => ?_
  subst he
  exact ⟨_, rfl, _, _, _, [], _, [], hW', trodAll_mk1 (shut_bool Try.underlying4 _), (trodAll_cons_mk (Below.trod segmentMay_laid (by kernel_rfl) (of_decide_eq_true (by kernel_rfl)) h0 bel lt0) (trodAll_cons_mk (shut_int Try.underlying3 w1) (trodAll_cons_mk (shut_int Try.underlying3 w2) trodAll_mk0))), rfl, bel.frame _, fun h => by cases h⟩

theorem segmentMay_holds : Rows.SegmentMaySaid :=
  OpenClaim.holds_of_wide 3 Try.f3 rfl rfl rfl rfl rfl rfl rfl ⟨rfl, rfl, rfl, rfl, rfl⟩ rfl rfl rfl rfl rfl (by kernel_rfl) Try.func3 (by kernel_rfl)
    (of_decide_eq_true (by kernel_rfl)) (by unfold Func.isWrapper; rw [if_neg (of_decide_eq_false (by kernel_rfl))]; exact ⟨rfl, rfl⟩)
    (fun os started H enc _ => segmentMay_lifted os started H enc)

#print axioms segmentMay_holds

end Go.Proofs.Ytmokigcplgjgiaa
