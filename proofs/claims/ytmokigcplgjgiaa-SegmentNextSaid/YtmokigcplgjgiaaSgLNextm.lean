/-
  SegmentNext holds: of any shape and any two bytes the law returns true.
-/
import Derived.Test.YtmokigcplgjgiaaSgAwake
import Derived.Test.YtmokigcplgjgiaaSgOpen
import Derived.Deep.RegionHeld
import Derived.Test.YtmokigcplgjgiaaRows
import Derived.Test.YtmokigcplgjgiaaOpen
import Derived.Test.YtmokigcplgjgiaaOpenA
import Derived.ProofKit
import Derived.OpenShut
import Derived.ShutString
import Derived.ChangeOld
namespace Go.Proofs.Ytmokigcplgjgiaa
open Go.RowKit Sg Go.ChangeShapes Go.WideShapes Go.ChangeAt
attribute [local go_sem ↓] Go.wp_at_zero Go.wp_at_succ
theorem most_let {a b m : Int} (hok : okS a b) (hm : m = (a - 2) * b) (W : World) : Calls Try.prog 16 #[.agg #[.int .i64 a, .int .i64 b]] W (RetB (.int .i64 m) W) := by
  rw [hm]; exact most_yes a b hok W
theorem sectors_let {a b m : Int} (hok : okS a b) (hm : m = 2 + a * b) (W : World) : Calls Try.prog 15 #[.agg #[.int .i64 a, .int .i64 b]] W (RetB (.int .i64 m) W) := by
  rw [hm]; exact sectors_yes a b hok W
theorem sector_let {a b i j n : Int} (hin : inS a b i j) (hn : n = 2 + i * b + j) (W : World) : Calls Try.prog 17 #[.agg #[.int .i64 a, .int .i64 b], .int .i64 i, .int .i64 j] W (RetB (.tuple #[.int .i64 n, .bool true]) W) := by
  rw [hn]; exact sector_yes a b i j hin W
theorem mod_in {a x : Int} (hx : 0 ≤ x) (ha : 0 < a) : 0 ≤ x.tmod a ∧ x.tmod a < a := by
  rw [Int.tmod_eq_emod_of_nonneg hx]; exact ⟨Int.emod_nonneg _ (by omega), Int.emod_lt_of_pos _ ha⟩
set_option maxRecDepth 100000 in
set_option maxHeartbeats 12800000 in
theorem segmentNext_any (w : World) (a b : Int) (_ : Sg.i64B a) (_ : Sg.i64B b) (x : Int) (hx : 0 ≤ x ∧ x ≤ 255) (y : Int) (hy : 0 ≤ y ∧ y ≤ 255) : Calls Try.prog 6 #[.agg #[.int .i64 a, .int .i64 b], .int .u8 x, .int .u8 y] w (RetB (.bool true) w) := by
  have b1 : Blk (w.alloc (.cells #[.int .i64 a, .int .i64 b] 23)) w.heap.size #[.int .i64 a, .int .i64 b] 23 := heap_alloc_new _ _
  have bb : Below w.heap.size w (w.alloc (.cells #[.int .i64 a, .int .i64 b] 23)) := (Below.refl _ _).alloc (Nat.le_refl _) _
  have B1 := Lib.hid b1
  have BB := Lib.hid bb
  clear b1 bb
  by_cases hok : okS a b
  · skip
    have ho := hok
    unfold okS at ho
    obtain ⟨i, hi⟩ : ∃ z, z = x.tmod a := ⟨_, rfl⟩
    obtain ⟨j, hj⟩ : ∃ z, z = y.tmod b := ⟨_, rfl⟩
    have hi2 := mod_in hx.1 (show 0 < a by omega)
    have hj2 := mod_in hy.1 (show 0 < b by omega)
    rw [← hi] at hi2
    rw [← hj] at hj2
    have hin : inS a b i j := ⟨hok, hi2, hj2⟩
    have hm := Sg.in_mul hin
    have q1 : x.tmod a = i := hi.symm
    have q2 : y.tmod b = j := hj.symm
    have z1 : wrap64 x = x := by unfold wrap64; omega
    have z2 : wrap64 y = y := by unfold wrap64; omega
    have na : a ≠ 0 := by omega
    have nb : b ≠ 0 := by omega
    obtain ⟨n, hn⟩ : ∃ z, z = 2 + i * b + j := ⟨_, rfl⟩
    have HIN := Lib.hid hin
    have HN := Lib.hid hn
    have e1 : IntKind.i64.wrap (j + 1) = j + 1 := by rw [IntWalk.i64_in _ (by omega)]
    skip
    clear hi hj hn
    have hij : j + 1 = b ∧ i + 1 = a ∨ j + 1 = b ∧ i + 1 < a ∨ j + 1 < b := by omega
    rcases hij with ⟨hjb, hia⟩ | ⟨hjb, hia⟩ | hjb
    · skip
      obtain ⟨t, ht⟩ : ∃ z, z = 2 + a * b := ⟨_, rfl⟩
      have HT := Lib.hid ht
      have hn := HN.out
      have ei : (i + 1) * b = i * b + 1 * b := Int.add_mul i 1 b
      have ea : a * b = i * b + 1 * b := by rw [← ei, hia]
      have e2 : IntKind.i64.wrap (i + 1) = i + 1 := by rw [IntWalk.i64_in _ (by omega)]
      have d1 : ((j + 1 : Int) == b) = true := beq_iff_eq.2 (by omega)
      have d2 : ((i + 1 : Int) == a) = true := beq_iff_eq.2 (by omega)
      have e3 : IntKind.i64.wrap (t - 1) = n := by rw [IntWalk.i64_in _ (by omega)]; omega
      have HNO := Lib.hid (show ¬inS a b (i + 1) 0 from fun h => by have := h.2.1.2; omega)
      clear ht ei ea hn hjb hia
      clear ho hi2 hj2 hin hm hx hy
      go_enter Try.func6, Try.ntmps6
      go_wp2_with fail
      refine (Sg.awake_any _).mono ?_
      rintro e w2 ⟨rfl, bw⟩
      have B1' := Lib.hid (B1.out.below bw)
      have BB' := Lib.hid (BB.out.trans (bw.mono BB.out.size))
      clear B1 BB bw
      have B1 := Lib.hid B1'.out
      have BB := Lib.hid BB'.out
      clear B1' BB'
      have c00 := B1.out.cell 0
      have c01 := B1.out.cell 1
      go_wp2_with fail
      clear c00 c01
      refine (Sg.check_yes a b hok _).mono ?_
      rintro e w3 ⟨rfl, bw⟩
      have B1' := Lib.hid (B1.out.below bw)
      have BB' := Lib.hid (BB.out.trans (bw.mono BB.out.size))
      clear B1 BB bw
      have B1 := Lib.hid B1'.out
      have BB := Lib.hid BB'.out
      clear B1' BB'
      have c00 := B1.out.cell 0
      have c01 := B1.out.cell 1
      go_wp2_with fail
      go_quiet (fail)
      clear c00 c01
      have B1' := Lib.hid (B1.out.drewN nq)
      have BB' := Lib.hid (below_drewN' BB.out nq)
      obtain ⟨wq, hwq⟩ : ∃ z, z = w3.drewN nq := ⟨_, rfl⟩
      rw [← hwq] at B1' BB' ⊢
      clear hwq B1 BB
      have B1 := Lib.hid B1'.out
      have BB := Lib.hid BB'.out
      clear B1' BB'
      have c00 := B1.out.cell 0
      have c01 := B1.out.cell 1
      go_wp2_with fail
      clear c00 c01
      refine (sector_let HIN.out HN.out _).mono ?_
      rintro e w4 ⟨rfl, bw⟩
      have B1' := Lib.hid (B1.out.below bw)
      have BB' := Lib.hid (BB.out.trans (bw.mono BB.out.size))
      clear B1 BB bw
      have B1 := Lib.hid B1'.out
      have BB := Lib.hid BB'.out
      clear B1' BB'
      have c00 := B1.out.cell 0
      have c01 := B1.out.cell 1
      go_wp2_with fail
      clear c00 c01
      refine (Sg.sector_no a b (i + 1) 0 HNO.out _).mono ?_
      rintro e w5 ⟨rfl, bw⟩
      have B1' := Lib.hid (B1.out.below bw)
      have BB' := Lib.hid (BB.out.trans (bw.mono BB.out.size))
      clear B1 BB bw
      have B1 := Lib.hid B1'.out
      have BB := Lib.hid BB'.out
      clear B1' BB'
      have c00 := B1.out.cell 0
      have c01 := B1.out.cell 1
      go_wp2_with fail
      clear c00 c01
      refine (sectors_let hok HT.out _).mono ?_
      rintro e w6 ⟨rfl, bw⟩
      have B1' := Lib.hid (B1.out.below bw)
      have BB' := Lib.hid (BB.out.trans (bw.mono BB.out.size))
      clear B1 BB bw
      have B1 := Lib.hid B1'.out
      have BB := Lib.hid BB'.out
      clear B1' BB'
      have c00 := B1.out.cell 0
      have c01 := B1.out.cell 1
      go_wp2_with fail
      clear c00 c01
      go_ret
      exact ⟨rfl, BB.out⟩
    · skip
      have hn := HN.out
      have ei : (i + 1) * b = i * b + 1 * b := Int.add_mul i 1 b
      have e2 : IntKind.i64.wrap (i + 1) = i + 1 := by rw [IntWalk.i64_in _ (by omega)]
      have d1 : ((j + 1 : Int) == b) = true := beq_iff_eq.2 (by omega)
      have d2 : ((i + 1 : Int) == a) = false := beq_eq_false_iff_ne.2 (by omega)
      have e3 : IntKind.i64.wrap (n + 1) = n + 1 := by rw [IntWalk.i64_in _ (by omega)]
      have HI2 := Lib.hid (show inS a b (i + 1) 0 from ⟨hok, by omega, by omega⟩)
      have HN2 := Lib.hid (show n + 1 = 2 + (i + 1) * b + 0 by omega)
      clear ei hn hjb hia
      clear ho hi2 hj2 hin hm hx hy
      go_enter Try.func6, Try.ntmps6
      go_wp2_with fail
      refine (Sg.awake_any _).mono ?_
      rintro e w2 ⟨rfl, bw⟩
      have B1' := Lib.hid (B1.out.below bw)
      have BB' := Lib.hid (BB.out.trans (bw.mono BB.out.size))
      clear B1 BB bw
      have B1 := Lib.hid B1'.out
      have BB := Lib.hid BB'.out
      clear B1' BB'
      have c00 := B1.out.cell 0
      have c01 := B1.out.cell 1
      go_wp2_with fail
      clear c00 c01
      refine (Sg.check_yes a b hok _).mono ?_
      rintro e w3 ⟨rfl, bw⟩
      have B1' := Lib.hid (B1.out.below bw)
      have BB' := Lib.hid (BB.out.trans (bw.mono BB.out.size))
      clear B1 BB bw
      have B1 := Lib.hid B1'.out
      have BB := Lib.hid BB'.out
      clear B1' BB'
      have c00 := B1.out.cell 0
      have c01 := B1.out.cell 1
      go_wp2_with fail
      go_quiet (fail)
      clear c00 c01
      have B1' := Lib.hid (B1.out.drewN nq)
      have BB' := Lib.hid (below_drewN' BB.out nq)
      obtain ⟨wq, hwq⟩ : ∃ z, z = w3.drewN nq := ⟨_, rfl⟩
      rw [← hwq] at B1' BB' ⊢
      clear hwq B1 BB
      have B1 := Lib.hid B1'.out
      have BB := Lib.hid BB'.out
      clear B1' BB'
      have c00 := B1.out.cell 0
      have c01 := B1.out.cell 1
      go_wp2_with fail
      clear c00 c01
      refine (sector_let HIN.out HN.out _).mono ?_
      rintro e w4 ⟨rfl, bw⟩
      have B1' := Lib.hid (B1.out.below bw)
      have BB' := Lib.hid (BB.out.trans (bw.mono BB.out.size))
      clear B1 BB bw
      have B1 := Lib.hid B1'.out
      have BB := Lib.hid BB'.out
      clear B1' BB'
      have c00 := B1.out.cell 0
      have c01 := B1.out.cell 1
      go_wp2_with fail
      clear c00 c01
      refine (sector_let HI2.out HN2.out _).mono ?_
      rintro e w5 ⟨rfl, bw⟩
      have B1' := Lib.hid (B1.out.below bw)
      have BB' := Lib.hid (BB.out.trans (bw.mono BB.out.size))
      clear B1 BB bw
      have B1 := Lib.hid B1'.out
      have BB := Lib.hid BB'.out
      clear B1' BB'
      have c00 := B1.out.cell 0
      have c01 := B1.out.cell 1
      go_wp2_with fail
      clear c00 c01
      go_ret
      exact ⟨rfl, BB.out⟩
    · skip
      have hn := HN.out
      have d1 : ((j + 1 : Int) == b) = false := beq_eq_false_iff_ne.2 (by omega)
      have d2 : ((i : Int) == a) = false := beq_eq_false_iff_ne.2 (by omega)
      have e3 : IntKind.i64.wrap (n + 1) = n + 1 := by rw [IntWalk.i64_in _ (by omega)]
      have HI2 := Lib.hid (show inS a b i (j + 1) from ⟨hok, by omega, by omega⟩)
      have HN2 := Lib.hid (show n + 1 = 2 + i * b + (j + 1) by omega)
      clear hn hjb
      clear ho hi2 hj2 hin hm hx hy
      go_enter Try.func6, Try.ntmps6
      go_wp2_with fail
      refine (Sg.awake_any _).mono ?_
      rintro e w2 ⟨rfl, bw⟩
      have B1' := Lib.hid (B1.out.below bw)
      have BB' := Lib.hid (BB.out.trans (bw.mono BB.out.size))
      clear B1 BB bw
      have B1 := Lib.hid B1'.out
      have BB := Lib.hid BB'.out
      clear B1' BB'
      have c00 := B1.out.cell 0
      have c01 := B1.out.cell 1
      go_wp2_with fail
      clear c00 c01
      refine (Sg.check_yes a b hok _).mono ?_
      rintro e w3 ⟨rfl, bw⟩
      have B1' := Lib.hid (B1.out.below bw)
      have BB' := Lib.hid (BB.out.trans (bw.mono BB.out.size))
      clear B1 BB bw
      have B1 := Lib.hid B1'.out
      have BB := Lib.hid BB'.out
      clear B1' BB'
      have c00 := B1.out.cell 0
      have c01 := B1.out.cell 1
      go_wp2_with fail
      go_quiet (fail)
      clear c00 c01
      have B1' := Lib.hid (B1.out.drewN nq)
      have BB' := Lib.hid (below_drewN' BB.out nq)
      obtain ⟨wq, hwq⟩ : ∃ z, z = w3.drewN nq := ⟨_, rfl⟩
      rw [← hwq] at B1' BB' ⊢
      clear hwq B1 BB
      have B1 := Lib.hid B1'.out
      have BB := Lib.hid BB'.out
      clear B1' BB'
      have c00 := B1.out.cell 0
      have c01 := B1.out.cell 1
      go_wp2_with fail
      clear c00 c01
      refine (sector_let HIN.out HN.out _).mono ?_
      rintro e w4 ⟨rfl, bw⟩
      have B1' := Lib.hid (B1.out.below bw)
      have BB' := Lib.hid (BB.out.trans (bw.mono BB.out.size))
      clear B1 BB bw
      have B1 := Lib.hid B1'.out
      have BB := Lib.hid BB'.out
      clear B1' BB'
      have c00 := B1.out.cell 0
      have c01 := B1.out.cell 1
      go_wp2_with fail
      clear c00 c01
      refine (sector_let HI2.out HN2.out _).mono ?_
      rintro e w5 ⟨rfl, bw⟩
      have B1' := Lib.hid (B1.out.below bw)
      have BB' := Lib.hid (BB.out.trans (bw.mono BB.out.size))
      clear B1 BB bw
      have B1 := Lib.hid B1'.out
      have BB := Lib.hid BB'.out
      clear B1' BB'
      have c00 := B1.out.cell 0
      have c01 := B1.out.cell 1
      go_wp2_with fail
      clear c00 c01
      go_ret
      exact ⟨rfl, BB.out⟩
  · skip
    go_enter Try.func6, Try.ntmps6
    go_wp2_with fail
    refine (Sg.awake_any _).mono ?_
    rintro e w2 ⟨rfl, bw⟩
    have B1' := Lib.hid (B1.out.below bw)
    have BB' := Lib.hid (BB.out.trans (bw.mono BB.out.size))
    clear B1 BB bw
    have B1 := Lib.hid B1'.out
    have BB := Lib.hid BB'.out
    clear B1' BB'
    have c00 := B1.out.cell 0
    have c01 := B1.out.cell 1
    go_wp2_with fail
    clear c00 c01
    refine (Sg.check_no a b hok _).mono ?_
    rintro e w3 ⟨rfl, bw⟩
    have B1' := Lib.hid (B1.out.below bw)
    have BB' := Lib.hid (BB.out.trans (bw.mono BB.out.size))
    clear B1 BB bw
    have B1 := Lib.hid B1'.out
    have BB := Lib.hid BB'.out
    clear B1' BB'
    have c00 := B1.out.cell 0
    have c01 := B1.out.cell 1
    go_wp2_with fail
    clear c00 c01
    refine (Sg.awake_any _).mono ?_
    rintro e w4 ⟨rfl, bw⟩
    have B1' := Lib.hid (B1.out.below bw)
    have BB' := Lib.hid (BB.out.trans (bw.mono BB.out.size))
    clear B1 BB bw
    have B1 := Lib.hid B1'.out
    have BB := Lib.hid BB'.out
    clear B1' BB'
    go_wp2_with fail
    go_ret
    exact ⟨rfl, BB.out⟩
theorem segmentNext_own : ownKnob Try.prog.godebug = none := by kernel_rfl
theorem segmentNext_laid : laidOutB Try.prog = true := by kernel_rfl

set_option maxRecDepth 100000 in
theorem segmentNext_lifted (os : Os) (started : os.Started) (H : Type) (enc : TypeId × Value → H) :
    ReturnsInHanded {} Try.checked os 6 .any (Rows.segmentNextSpec.pre6 enc Try.prog Try.f6 Rows.segmentNextRow.domain false) (Rows.segmentNextSpec.post enc Try.prog Try.f6 false true false false) := by
  refine returnsInHanded_of_change (C := Try.checked) segmentNext_own started (by kernel_rfl) Try.func6
    (ChangeSpec.witness6 (enc := enc) (C := Try.checked) false ⟨#[], #[.agg #[.int .i64 0, .int .i64 0], .int .u8 0, .int .u8 0], []⟩ 8 (by kernel_rfl) (by kernel_rfl) (by kernel_rfl) (by kernel_rfl)) ?_
  intro W base args ds gs before hval0 hW _ _
  have hval : ∀ (j : Nat) t v, Try.f6.params[j]? = some t → args[j]? = some v → Value.okWide Try.prog W .any base t v := hval0
  have hW' := hW
  obtain ⟨p, q, hA0, hV, rfl, hfz, hnd⟩ := hW
  have hA : DataW.TrodAll enc Try.prog W 0 (fun _ => true) true Try.f6.params.toList args.toList ds p := hA0
  rw [Try.params6] at hA hval
  obtain ⟨v0, vs0, d0, ds0, p0, q0, hargs, rfl, rfl, h0, r0⟩ := trodAll_cons hA
  obtain ⟨v1, vs1, d1, ds1, p1, q1, rfl, rfl, rfl, h1, r1⟩ := trodAll_cons r0
  obtain ⟨v2, vs2, d2, ds2, p2, q2, rfl, rfl, rfl, h2, r2⟩ := trodAll_cons r1
  obtain ⟨rfl, rfl, rfl⟩ := trodAll_nil r2
  obtain rfl : args = #[v0, v1, v2] := by cases args; simp_all
  obtain ⟨rfl, rfl⟩ := trodVars_none hV
  have lt0 : ∀ x ∈ p0, x.block < W.heap.size := by obtain ⟨m, hm⟩ := h0; exact DataW.trod_lt m _ _ _ hm
  obtain ⟨x0, y0, rfl, bx0, by0⟩ := Sg.open_shape (hval 0 23 v0 rfl rfl) h0
  obtain ⟨a1, rfl, rfl, rfl, w1⟩ := open_int Try.underlying5 (hval 1 5 v1 rfl rfl) h1
  have b1 := bounds_u8 w1
  obtain ⟨a2, rfl, rfl, rfl, w2⟩ := open_int Try.underlying5 (hval 2 5 v2 rfl rfl) h2
  have b2 := bounds_u8 w2
  clear hA0 hval0
  refine (segmentNext_any W x0 y0 bx0 by0 a1 b1 a2 b2).mono fun e W' ⟨he, bel⟩ => ?_
  subst he
  exact ⟨_, rfl, _, _, _, [], _, [], hW', trodAll_mk1 (shut_bool Try.underlying4 _), (trodAll_cons_mk (Below.trod segmentNext_laid (by kernel_rfl) (of_decide_eq_true (by kernel_rfl)) h0 bel lt0) (trodAll_cons_mk (shut_int Try.underlying5 w1) (trodAll_cons_mk (shut_int Try.underlying5 w2) trodAll_mk0))), rfl, bel.frame _, fun h => by cases h⟩

theorem segmentNext_holds : Rows.SegmentNextSaid :=
  OpenClaim.holds_of_wide 6 Try.f6 rfl rfl rfl rfl rfl rfl rfl ⟨rfl, rfl, rfl, rfl, rfl⟩ rfl rfl rfl rfl rfl (by kernel_rfl) Try.func6 (by kernel_rfl)
    (of_decide_eq_true (by kernel_rfl)) (by unfold Func.isWrapper; rw [if_neg (of_decide_eq_false (by kernel_rfl))]; exact ⟨rfl, rfl⟩)
    (fun os started H enc _ => segmentNext_lifted os started H enc)

#print axioms segmentNext_holds

end Go.Proofs.Ytmokigcplgjgiaa
