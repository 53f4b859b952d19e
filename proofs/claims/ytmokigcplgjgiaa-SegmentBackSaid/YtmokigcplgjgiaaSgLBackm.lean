/-
  SegmentBack holds: of any shape and any two numbers the law returns true.
-/
import Derived.Test.YtmokigcplgjgiaaSgAwake
import Derived.Test.YtmokigcplgjgiaaSgOpen
import Derived.Test.YtmokigcplgjgiaaRows
import Derived.Test.YtmokigcplgjgiaaOpen
import Derived.Test.YtmokigcplgjgiaaOpenA
import Derived.ProofKit
import Derived.OpenShut
import Derived.ShutString
import Derived.ChangeOld
namespace Go.Proofs.Ytmokigcplgjgiaa
open Go.RowKit Sg Go.ChangeShapes Go.WideShapes Go.ChangeAt
attribute [local go_sem ↓] Go.wp_at_zero Go.wp_at_succ
set_option maxRecDepth 100000 in
theorem segmentBack_any (w : World) (a b : Int) (_ : Sg.i64B a) (_ : Sg.i64B b) (i : Int) (_ : -9223372036854775808 ≤ i ∧ i ≤ 9223372036854775807) (j : Int) (_ : -9223372036854775808 ≤ j ∧ j ≤ 9223372036854775807) : Calls Try.prog 5 #[.agg #[.int .i64 a, .int .i64 b], .int .i64 i, .int .i64 j] w (RetB (.bool true) w) := by
  have b1 : Blk (w.alloc (.cells #[.int .i64 a, .int .i64 b] 23)) w.heap.size #[.int .i64 a, .int .i64 b] 23 := heap_alloc_new _ _
  have bb : Below w.heap.size w (w.alloc (.cells #[.int .i64 a, .int .i64 b] 23)) := (Below.refl _ _).alloc (Nat.le_refl _) _
  have B1 := Lib.hid b1
  have BB := Lib.hid bb
  clear b1 bb
  by_cases hok : okS a b
  · skip
    by_cases hin : inS a b i j
    · skip
      have hm := Sg.in_mul hin
      have ho := hin
      unfold inS okS at ho
      have d1 : decide (i < 0) = false := decide_eq_false (by omega)
      have d2 : decide (j < 0) = false := decide_eq_false (by omega)
      have d3 : decide (a ≤ i) = false := decide_eq_false (by omega)
      have d4 : decide (b ≤ j) = false := decide_eq_false (by omega)
      have d5 : decide (2 ≤ 2 + i * b + j) = true := decide_eq_true (by omega)
      have d6 : decide (2 + i * b + j < 2 + a * b) = true := decide_eq_true (by omega)
      clear hm ho
      go_enter Try.func5, Try.ntmps5
      go_wp2_with fail
      refine (Sg.awake_any _).mono ?_
      rintro e w2 ⟨rfl, bw⟩
      have B1' := Lib.hid (B1.out.below bw)
      have BB' := Lib.hid (BB.out.trans (bw.mono BB.out.size))
      clear B1 BB bw
      have B1 := Lib.hid B1'.out
      have BB := Lib.hid BB'.out
      clear B1' BB'
      have c00 := B1.out.cell 0
      have c01 := B1.out.cell 1
      go_wp2_with fail
      clear c00 c01
      refine (Sg.check_yes a b hok _).mono ?_
      rintro e w3 ⟨rfl, bw⟩
      have B1' := Lib.hid (B1.out.below bw)
      have BB' := Lib.hid (BB.out.trans (bw.mono BB.out.size))
      clear B1 BB bw
      have B1 := Lib.hid B1'.out
      have BB := Lib.hid BB'.out
      clear B1' BB'
      have c00 := B1.out.cell 0
      have c01 := B1.out.cell 1
      go_wp2_with fail
      clear c00 c01
      refine (Sg.sector_yes a b i j hin _).mono ?_
      rintro e w4 ⟨rfl, bw⟩
      have B1' := Lib.hid (B1.out.below bw)
      have BB' := Lib.hid (BB.out.trans (bw.mono BB.out.size))
      clear B1 BB bw
      have B1 := Lib.hid B1'.out
      have BB := Lib.hid BB'.out
      clear B1' BB'
      have c00 := B1.out.cell 0
      have c01 := B1.out.cell 1
      go_wp2_with fail
      clear c00 c01
      refine (Sg.of_yes a b i j hin _).mono ?_
      rintro e w5 ⟨rfl, bw⟩
      have B1' := Lib.hid (B1.out.below bw)
      have BB' := Lib.hid (BB.out.trans (bw.mono BB.out.size))
      clear B1 BB bw
      have B1 := Lib.hid B1'.out
      have BB := Lib.hid BB'.out
      clear B1' BB'
      have c00 := B1.out.cell 0
      have c01 := B1.out.cell 1
      go_wp2_with fail
      clear c00 c01
      refine (Sg.sectors_yes a b hok _).mono ?_
      rintro e w6 ⟨rfl, bw⟩
      have B1' := Lib.hid (B1.out.below bw)
      have BB' := Lib.hid (BB.out.trans (bw.mono BB.out.size))
      clear B1 BB bw
      have B1 := Lib.hid B1'.out
      have BB := Lib.hid BB'.out
      clear B1' BB'
      have c00 := B1.out.cell 0
      have c01 := B1.out.cell 1
      go_wp2_with fail
      clear c00 c01
      go_ret
      exact ⟨rfl, BB.out⟩
    · skip
      by_cases h1 : i < 0
      · skip
        have d1 : decide (i < 0) = true := decide_eq_true (by omega)
        go_enter Try.func5, Try.ntmps5
        go_wp2_with fail
        refine (Sg.awake_any _).mono ?_
        rintro e w7 ⟨rfl, bw⟩
        have B1' := Lib.hid (B1.out.below bw)
        have BB' := Lib.hid (BB.out.trans (bw.mono BB.out.size))
        clear B1 BB bw
        have B1 := Lib.hid B1'.out
        have BB := Lib.hid BB'.out
        clear B1' BB'
        have c00 := B1.out.cell 0
        have c01 := B1.out.cell 1
        go_wp2_with fail
        clear c00 c01
        refine (Sg.check_yes a b hok _).mono ?_
        rintro e w8 ⟨rfl, bw⟩
        have B1' := Lib.hid (B1.out.below bw)
        have BB' := Lib.hid (BB.out.trans (bw.mono BB.out.size))
        clear B1 BB bw
        have B1 := Lib.hid B1'.out
        have BB := Lib.hid BB'.out
        clear B1' BB'
        have c00 := B1.out.cell 0
        have c01 := B1.out.cell 1
        go_wp2_with fail
        clear c00 c01
        refine (Sg.sector_no a b i j hin _).mono ?_
        rintro e w9 ⟨rfl, bw⟩
        have B1' := Lib.hid (B1.out.below bw)
        have BB' := Lib.hid (BB.out.trans (bw.mono BB.out.size))
        clear B1 BB bw
        have B1 := Lib.hid B1'.out
        have BB := Lib.hid BB'.out
        clear B1' BB'
        have c00 := B1.out.cell 0
        have c01 := B1.out.cell 1
        go_wp2_with fail
        clear c00 c01
        go_ret
        exact ⟨rfl, BB.out⟩
      · skip
        by_cases h2 : j < 0
        · skip
          have d1 : decide (i < 0) = false := decide_eq_false (by omega)
          have d2 : decide (j < 0) = true := decide_eq_true (by omega)
          go_enter Try.func5, Try.ntmps5
          go_wp2_with fail
          refine (Sg.awake_any _).mono ?_
          rintro e w10 ⟨rfl, bw⟩
          have B1' := Lib.hid (B1.out.below bw)
          have BB' := Lib.hid (BB.out.trans (bw.mono BB.out.size))
          clear B1 BB bw
          have B1 := Lib.hid B1'.out
          have BB := Lib.hid BB'.out
          clear B1' BB'
          have c00 := B1.out.cell 0
          have c01 := B1.out.cell 1
          go_wp2_with fail
          clear c00 c01
          refine (Sg.check_yes a b hok _).mono ?_
          rintro e w11 ⟨rfl, bw⟩
          have B1' := Lib.hid (B1.out.below bw)
          have BB' := Lib.hid (BB.out.trans (bw.mono BB.out.size))
          clear B1 BB bw
          have B1 := Lib.hid B1'.out
          have BB := Lib.hid BB'.out
          clear B1' BB'
          have c00 := B1.out.cell 0
          have c01 := B1.out.cell 1
          go_wp2_with fail
          clear c00 c01
          refine (Sg.sector_no a b i j hin _).mono ?_
          rintro e w12 ⟨rfl, bw⟩
          have B1' := Lib.hid (B1.out.below bw)
          have BB' := Lib.hid (BB.out.trans (bw.mono BB.out.size))
          clear B1 BB bw
          have B1 := Lib.hid B1'.out
          have BB := Lib.hid BB'.out
          clear B1' BB'
          have c00 := B1.out.cell 0
          have c01 := B1.out.cell 1
          go_wp2_with fail
          clear c00 c01
          go_ret
          exact ⟨rfl, BB.out⟩
        · skip
          by_cases h3 : a ≤ i
          · skip
            have d1 : decide (i < 0) = false := decide_eq_false (by omega)
            have d2 : decide (j < 0) = false := decide_eq_false (by omega)
            have d3 : decide (a ≤ i) = true := decide_eq_true (by omega)
            go_enter Try.func5, Try.ntmps5
            go_wp2_with fail
            refine (Sg.awake_any _).mono ?_
            rintro e w13 ⟨rfl, bw⟩
            have B1' := Lib.hid (B1.out.below bw)
            have BB' := Lib.hid (BB.out.trans (bw.mono BB.out.size))
            clear B1 BB bw
            have B1 := Lib.hid B1'.out
            have BB := Lib.hid BB'.out
            clear B1' BB'
            have c00 := B1.out.cell 0
            have c01 := B1.out.cell 1
            go_wp2_with fail
            clear c00 c01
            refine (Sg.check_yes a b hok _).mono ?_
            rintro e w14 ⟨rfl, bw⟩
            have B1' := Lib.hid (B1.out.below bw)
            have BB' := Lib.hid (BB.out.trans (bw.mono BB.out.size))
            clear B1 BB bw
            have B1 := Lib.hid B1'.out
            have BB := Lib.hid BB'.out
            clear B1' BB'
            have c00 := B1.out.cell 0
            have c01 := B1.out.cell 1
            go_wp2_with fail
            clear c00 c01
            refine (Sg.sector_no a b i j hin _).mono ?_
            rintro e w15 ⟨rfl, bw⟩
            have B1' := Lib.hid (B1.out.below bw)
            have BB' := Lib.hid (BB.out.trans (bw.mono BB.out.size))
            clear B1 BB bw
            have B1 := Lib.hid B1'.out
            have BB := Lib.hid BB'.out
            clear B1' BB'
            have c00 := B1.out.cell 0
            have c01 := B1.out.cell 1
            go_wp2_with fail
            clear c00 c01
            go_ret
            exact ⟨rfl, BB.out⟩
          · skip
            have h4 : b ≤ j := by
              apply Classical.byContradiction
              intro h
              exact hin ⟨hok, ⟨by omega, by omega⟩, by omega, by omega⟩
            have d1 : decide (i < 0) = false := decide_eq_false (by omega)
            have d2 : decide (j < 0) = false := decide_eq_false (by omega)
            have d3 : decide (a ≤ i) = false := decide_eq_false (by omega)
            have d4 : decide (b ≤ j) = true := decide_eq_true (by omega)
            go_enter Try.func5, Try.ntmps5
            go_wp2_with fail
            refine (Sg.awake_any _).mono ?_
            rintro e w16 ⟨rfl, bw⟩
            have B1' := Lib.hid (B1.out.below bw)
            have BB' := Lib.hid (BB.out.trans (bw.mono BB.out.size))
            clear B1 BB bw
            have B1 := Lib.hid B1'.out
            have BB := Lib.hid BB'.out
            clear B1' BB'
            have c00 := B1.out.cell 0
            have c01 := B1.out.cell 1
            go_wp2_with fail
            clear c00 c01
            refine (Sg.check_yes a b hok _).mono ?_
            rintro e w17 ⟨rfl, bw⟩
            have B1' := Lib.hid (B1.out.below bw)
            have BB' := Lib.hid (BB.out.trans (bw.mono BB.out.size))
            clear B1 BB bw
            have B1 := Lib.hid B1'.out
            have BB := Lib.hid BB'.out
            clear B1' BB'
            have c00 := B1.out.cell 0
            have c01 := B1.out.cell 1
            go_wp2_with fail
            clear c00 c01
            refine (Sg.sector_no a b i j hin _).mono ?_
            rintro e w18 ⟨rfl, bw⟩
            have B1' := Lib.hid (B1.out.below bw)
            have BB' := Lib.hid (BB.out.trans (bw.mono BB.out.size))
            clear B1 BB bw
            have B1 := Lib.hid B1'.out
            have BB := Lib.hid BB'.out
            clear B1' BB'
            have c00 := B1.out.cell 0
            have c01 := B1.out.cell 1
            go_wp2_with fail
            clear c00 c01
            go_ret
            exact ⟨rfl, BB.out⟩
  · skip
    go_enter Try.func5, Try.ntmps5
    go_wp2_with fail
    refine (Sg.awake_any _).mono ?_
    rintro e w19 ⟨rfl, bw⟩
    have B1' := Lib.hid (B1.out.below bw)
    have BB' := Lib.hid (BB.out.trans (bw.mono BB.out.size))
    clear B1 BB bw
    have B1 := Lib.hid B1'.out
    have BB := Lib.hid BB'.out
    clear B1' BB'
    have c00 := B1.out.cell 0
    have c01 := B1.out.cell 1
    go_wp2_with fail
    clear c00 c01
    refine (Sg.check_no a b hok _).mono ?_
    rintro e w20 ⟨rfl, bw⟩
    have B1' := Lib.hid (B1.out.below bw)
    have BB' := Lib.hid (BB.out.trans (bw.mono BB.out.size))
    clear B1 BB bw
    have B1 := Lib.hid B1'.out
    have BB := Lib.hid BB'.out
    clear B1' BB'
    have c00 := B1.out.cell 0
    have c01 := B1.out.cell 1
    go_wp2_with fail
    clear c00 c01
    refine (Sg.awake_any _).mono ?_
    rintro e w21 ⟨rfl, bw⟩
    have B1' := Lib.hid (B1.out.below bw)
    have BB' := Lib.hid (BB.out.trans (bw.mono BB.out.size))
    clear B1 BB bw
    have B1 := Lib.hid B1'.out
    have BB := Lib.hid BB'.out
    clear B1' BB'
    go_wp2_with fail
    go_ret
    exact ⟨rfl, BB.out⟩
theorem segmentBack_own : ownKnob Try.prog.godebug = none := by kernel_rfl
theorem segmentBack_laid : laidOutB Try.prog = true := by kernel_rfl

set_option maxRecDepth 100000 in
theorem segmentBack_lifted (os : Os) (started : os.Started) (H : Type) (enc : TypeId × Value → H) :
    ReturnsInHanded {} Try.checked os 5 .any (Rows.segmentBackSpec.pre6 enc Try.prog Try.f5 Rows.segmentBackRow.domain false) (Rows.segmentBackSpec.post enc Try.prog Try.f5 false true false false) := by
  refine returnsInHanded_of_change (C := Try.checked) segmentBack_own started (by kernel_rfl) Try.func5
    (ChangeSpec.witness6 (enc := enc) (C := Try.checked) false ⟨#[], #[.agg #[.int .i64 0, .int .i64 0], .int .i64 0, .int .i64 0], []⟩ 8 (by kernel_rfl) (by kernel_rfl) (by kernel_rfl) (by kernel_rfl)) ?_
  intro W base args ds gs before hval0 hW _ _
  have hval : ∀ (j : Nat) t v, Try.f5.params[j]? = some t → args[j]? = some v → Value.okWide Try.prog W .any base t v := hval0
  have hW' := hW
  obtain ⟨p, q, hA0, hV, rfl, hfz, hnd⟩ := hW
  have hA : DataW.TrodAll enc Try.prog W 0 (fun _ => true) true Try.f5.params.toList args.toList ds p := hA0
  rw [Try.params5] at hA hval
  obtain ⟨v0, vs0, d0, ds0, p0, q0, hargs, rfl, rfl, h0, r0⟩ := trodAll_cons hA
  obtain ⟨v1, vs1, d1, ds1, p1, q1, rfl, rfl, rfl, h1, r1⟩ := trodAll_cons r0
  obtain ⟨v2, vs2, d2, ds2, p2, q2, rfl, rfl, rfl, h2, r2⟩ := trodAll_cons r1
  obtain ⟨rfl, rfl, rfl⟩ := trodAll_nil r2
  obtain rfl : args = #[v0, v1, v2] := by cases args; simp_all
  obtain ⟨rfl, rfl⟩ := trodVars_none hV
  have lt0 : ∀ x ∈ p0, x.block < W.heap.size := by obtain ⟨m, hm⟩ := h0; exact DataW.trod_lt m _ _ _ hm
  obtain ⟨x0, y0, rfl, bx0, by0⟩ := Sg.open_shape (hval 0 23 v0 rfl rfl) h0
  obtain ⟨a1, rfl, rfl, rfl, w1⟩ := open_int Try.underlying3 (hval 1 3 v1 rfl rfl) h1
  have b1 := bounds_i64 w1
  obtain ⟨a2, rfl, rfl, rfl, w2⟩ := open_int Try.underlying3 (hval 2 3 v2 rfl rfl) h2
  have b2 := bounds_i64 w2
  clear hA0 hval0
  refine (segmentBack_any W x0 y0 bx0 by0 a1 b1 a2 b2).mono fun e W' ⟨he, bel⟩ => ?_
  subst he
  exact ⟨_, rfl, _, _, _, [], _, [], hW', trodAll_mk1 (shut_bool Try.underlying4 _), (trodAll_cons_mk (Below.trod segmentBack_laid (by kernel_rfl) (of_decide_eq_true (by kernel_rfl)) h0 bel lt0) (trodAll_cons_mk (shut_int Try.underlying3 w1) (trodAll_cons_mk (shut_int Try.underlying3 w2) trodAll_mk0))), rfl, bel.frame _, fun h => by cases h⟩

theorem segmentBack_holds : Rows.SegmentBackSaid :=
  OpenClaim.holds_of_wide 5 Try.f5 rfl rfl rfl rfl rfl rfl rfl ⟨rfl, rfl, rfl, rfl, rfl⟩ rfl rfl rfl rfl rfl (by kernel_rfl) Try.func5 (by kernel_rfl)
    (of_decide_eq_true (by kernel_rfl)) (by unfold Func.isWrapper; rw [if_neg (of_decide_eq_false (by kernel_rfl))]; exact ⟨rfl, rfl⟩)
    (fun os started H enc _ => segmentBack_lifted os started H enc)

#print axioms segmentBack_holds

end Go.Proofs.Ytmokigcplgjgiaa
