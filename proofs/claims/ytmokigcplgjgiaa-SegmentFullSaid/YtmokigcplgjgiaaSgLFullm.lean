/-
  SegmentFull holds: of any shape the law returns true.
-/
import Derived.Test.YtmokigcplgjgiaaSgAwake
import Derived.Test.YtmokigcplgjgiaaSgOpen
import Derived.Deep.RegionHeld
import Derived.Test.YtmokigcplgjgiaaRows
import Derived.Test.YtmokigcplgjgiaaOpen
import Derived.Test.YtmokigcplgjgiaaOpenA
import Derived.ProofKit
import Derived.OpenShut
import Derived.ShutString
import Derived.ChangeOld
namespace Go.Proofs.Ytmokigcplgjgiaa
open Go.RowKit Sg Go.ChangeShapes Go.WideShapes Go.ChangeAt
attribute [local go_sem ↓] Go.wp_at_zero Go.wp_at_succ
theorem most_let {a b m : Int} (hok : okS a b) (hm : m = (a - 2) * b) (W : World) : Calls Try.prog 16 #[.agg #[.int .i64 a, .int .i64 b]] W (RetB (.int .i64 m) W) := by
  rw [hm]; exact most_yes a b hok W
theorem sectors_let {a b m : Int} (hok : okS a b) (hm : m = 2 + a * b) (W : World) : Calls Try.prog 15 #[.agg #[.int .i64 a, .int .i64 b]] W (RetB (.int .i64 m) W) := by
  rw [hm]; exact sectors_yes a b hok W
/-- How many slots' sectors lie ahead of p. -/
def cntF (t p : Int) : Int := if p ≤ 2 then 0 else if p ≤ t then p - 2 else t - 2
theorem at_in {a b p : Int} (hok : okS a b) (h1 : 2 ≤ p) (h2 : p < 2 + a * b) : ∃ i j, inS a b i j ∧ p = 2 + i * b + j := by
  have ho := hok
  unfold okS at ho
  have hb : 0 < b := by omega
  have e1 := Int.mul_ediv_add_emod (p - 2) b
  have e2 := Int.emod_nonneg (p - 2) (show b ≠ 0 by omega)
  have e3 := Int.emod_lt_of_pos (p - 2) hb
  have e4 : 0 ≤ (p - 2) / b := Int.ediv_nonneg (by omega) (by omega)
  have e5 : (p - 2) / b < a := Int.ediv_lt_of_lt_mul hb (by omega)
  rw [Int.mul_comm b] at e1
  exact ⟨(p - 2) / b, (p - 2) % b, ⟨hok, ⟨e4, e5⟩, e2, e3⟩, by omega⟩
theorem of_at {a b p : Int} (hok : okS a b) (h1 : 2 ≤ p) (h2 : p < 2 + a * b) (W : World) : ∃ i j, Calls Try.prog 18 #[.agg #[.int .i64 a, .int .i64 b], .int .i64 p] W (RetB (.tuple #[.int .i64 i, .int .i64 j, .bool true]) W) := by
  obtain ⟨i, j, hin, rfl⟩ := at_in hok h1 h2
  exact ⟨i, j, of_yes a b i j hin W⟩
set_option maxRecDepth 100000 in
set_option maxHeartbeats 12800000 in
theorem segmentFull_any (w : World) (a b : Int) (_ : Sg.i64B a) (_ : Sg.i64B b) : Calls Try.prog 9 #[.agg #[.int .i64 a, .int .i64 b]] w (RetB (.bool true) w) := by
  have b1 : Blk (w.alloc (.cells #[.int .i64 a, .int .i64 b] 23)) w.heap.size #[.int .i64 a, .int .i64 b] 23 := heap_alloc_new _ _
  have bb : Below w.heap.size w (w.alloc (.cells #[.int .i64 a, .int .i64 b] 23)) := (Below.refl _ _).alloc (Nat.le_refl _) _
  have B1 := Lib.hid b1
  have BB := Lib.hid bb
  clear b1 bb
  by_cases hok : okS a b
  · skip
    have ho := hok
    have hmm := Sg.ok_mul hok
    unfold okS at ho
    obtain ⟨t, ht⟩ : ∃ x, x = 2 + a * b := ⟨_, rfl⟩
    have HT := Lib.hid ht
    have HB := Lib.hid (show 5 ≤ t ∧ t ≤ 2050 by omega)
    have e1 : IntKind.i64.wrap (a * b) = t - 2 := by rw [IntWalk.i64_in _ (by omega)]; omega
    have e2 : IntKind.i64.wrap (t + 3) = t + 3 := by rw [IntWalk.i64_in _ (by omega)]
    have e3 : IntKind.i64.wrap (t - 2) = t - 2 := by rw [IntWalk.i64_in _ (by omega)]
    clear ho hmm ht
    go_enter Try.func9, Try.ntmps9
    go_wp2_with fail
    refine (Sg.awake_any _).mono ?_
    rintro e w2 ⟨rfl, bw⟩
    have B1' := Lib.hid (B1.out.below bw)
    have BB' := Lib.hid (BB.out.trans (bw.mono BB.out.size))
    clear B1 BB bw
    have B1 := Lib.hid B1'.out
    have BB := Lib.hid BB'.out
    clear B1' BB'
    have c00 := B1.out.cell 0
    have c01 := B1.out.cell 1
    go_wp2_with fail
    clear c00 c01
    refine (Sg.check_yes a b hok _).mono ?_
    rintro e w3 ⟨rfl, bw⟩
    have B1' := Lib.hid (B1.out.below bw)
    have BB' := Lib.hid (BB.out.trans (bw.mono BB.out.size))
    clear B1 BB bw
    have B1 := Lib.hid B1'.out
    have BB := Lib.hid BB'.out
    clear B1' BB'
    have c00 := B1.out.cell 0
    have c01 := B1.out.cell 1
    go_wp2_with fail
    clear c00 c01
    go_loopw [3, 4] (fun n i wr => ∃ p : Int, -3 ≤ p ∧ p ≤ t + 3 ∧ n = .int .i64 (cntF t p) ∧ i = .int .i64 p ∧ Blk wr w.heap.size #[.int .i64 a, .int .i64 b] 23 ∧ Below w.heap.size w wr) (fun _ i _ => (t + 3 - intOf i).toNat)
    case atStart => exact ⟨-3, by omega, by have := HB.out; omega, rfl, rfl, B1.out, BB.out⟩
    case round =>
      clear B1 BB
      obtain ⟨p, hp1, hp2, rfl, rfl, hb1, hbb⟩ := hrel
      have B1 := Lib.hid hb1
      have BB := Lib.hid hbb
      clear hb1 hbb
      obtain ⟨n, hn⟩ : ∃ x, x = cntF t p := ⟨_, rfl⟩
      have HN := Lib.hid hn
      rw [← hn]
      have hn2 : 0 ≤ n ∧ n ≤ 2050 := by
        have := HB.out
        rw [hn]; unfold cntF; split
        · omega
        · split <;> omega
      clear hn
      by_cases h0 : p < t + 3
      · skip
        by_cases h1 : 2 ≤ p ∧ p < t
        · skip
          have hb9 := HB.out
          have d0 : decide (p < t + 3) = true := decide_eq_true (by omega)
          have w1 : IntKind.i64.wrap (p + 1) = p + 1 := by rw [IntWalk.i64_in _ (by omega)]
          have HP := Lib.hid (And.intro hp1 (show p < t + 3 by omega))
          have w2 : IntKind.i64.wrap (n + 1) = n + 1 := by rw [IntWalk.i64_in _ (by omega)]
          have d1 : decide (p < 2) = false := decide_eq_false (by omega)
          have d2 : decide (t ≤ p) = false := decide_eq_false (by omega)
          have HQ := Lib.hid (And.intro h1.1 h1.2)
          clear hp1 hp2 h0 h1 hn2 hb9
          have c00 := B1.out.cell 0
          have c01 := B1.out.cell 1
          go_wp2_with fail
          clear c00 c01
          refine (sectors_let hok HT.out _).mono ?_
          rintro e w4 ⟨rfl, bw⟩
          have B1' := Lib.hid (B1.out.below bw)
          have BB' := Lib.hid (BB.out.trans (bw.mono BB.out.size))
          clear B1 BB bw
          have B1 := Lib.hid B1'.out
          have BB := Lib.hid BB'.out
          clear B1' BB'
          have c00 := B1.out.cell 0
          have c01 := B1.out.cell 1
          go_wp2_with fail
          clear c00 c01
          obtain ⟨i, j, hof⟩ := of_at hok HQ.out.1 (by rw [← HT.out]; exact HQ.out.2) w4
          refine hof.mono ?_
          clear hof
          rintro e w5 ⟨rfl, bw⟩
          have B1' := Lib.hid (B1.out.below bw)
          have BB' := Lib.hid (BB.out.trans (bw.mono BB.out.size))
          clear B1 BB bw
          have B1 := Lib.hid B1'.out
          have BB := Lib.hid BB'.out
          clear B1' BB'
          have c00 := B1.out.cell 0
          have c01 := B1.out.cell 1
          go_wp2_with fail
          clear c00 c01
          refine (sectors_let hok HT.out _).mono ?_
          rintro e w6 ⟨rfl, bw⟩
          have B1' := Lib.hid (B1.out.below bw)
          have BB' := Lib.hid (BB.out.trans (bw.mono BB.out.size))
          clear B1 BB bw
          have B1 := Lib.hid B1'.out
          have BB := Lib.hid BB'.out
          clear B1' BB'
          have c00 := B1.out.cell 0
          have c01 := B1.out.cell 1
          go_wp2_with fail
          clear c00 c01
          go_roundw
          case rel => exact ⟨p + 1, by have := HP.out; omega, by have := HP.out; omega, int_eq (by
              have h1 := HP.out
              have h2 := HQ.out
              have h3 := HB.out
              rw [HN.out]; unfold cntF
              repeat' split
              all_goals omega), rfl, B1.out, BB.out⟩
          case measure => (have h1 := HP.out; simp [intOf]; omega)
        · skip
          have hb9 := HB.out
          have d0 : decide (p < t + 3) = true := decide_eq_true (by omega)
          have w1 : IntKind.i64.wrap (p + 1) = p + 1 := by rw [IntWalk.i64_in _ (by omega)]
          have HP := Lib.hid (And.intro hp1 (show p < t + 3 by omega))
          have HQ := Lib.hid h1
          clear hp1 hp2 h0 h1 hn2 hb9
          have c00 := B1.out.cell 0
          have c01 := B1.out.cell 1
          go_wp2_with fail
          clear c00 c01
          refine (sectors_let hok HT.out _).mono ?_
          rintro e w4 ⟨rfl, bw⟩
          have B1' := Lib.hid (B1.out.below bw)
          have BB' := Lib.hid (BB.out.trans (bw.mono BB.out.size))
          clear B1 BB bw
          have B1 := Lib.hid B1'.out
          have BB := Lib.hid BB'.out
          clear B1' BB'
          have c00 := B1.out.cell 0
          have c01 := B1.out.cell 1
          go_wp2_with fail
          clear c00 c01
          refine (Sg.of_no a b p (fun h => HQ.out ⟨h.2.1, by rw [HT.out]; exact h.2.2⟩) _).mono ?_
          rintro e w5 ⟨rfl, bw⟩
          have B1' := Lib.hid (B1.out.below bw)
          have BB' := Lib.hid (BB.out.trans (bw.mono BB.out.size))
          clear B1 BB bw
          have B1 := Lib.hid B1'.out
          have BB := Lib.hid BB'.out
          clear B1' BB'
          have c00 := B1.out.cell 0
          have c01 := B1.out.cell 1
          go_wp2_with fail
          clear c00 c01
          go_roundw
          case rel => exact ⟨p + 1, by have := HP.out; omega, by have := HP.out; omega, int_eq (by
              have h1 := HP.out
              have h2 := HQ.out
              have h3 := HB.out
              rw [HN.out]; unfold cntF
              repeat' split
              all_goals omega), rfl, B1.out, BB.out⟩
          case measure => (have h1 := HP.out; simp [intOf]; omega)
      · skip
        have d0 : decide (p < t + 3) = false := decide_eq_false (by omega)
        have e4 : n = t - 2 := by
          have := HB.out
          rw [HN.out]; unfold cntF; rw [if_neg (by omega), if_neg (by omega)]
        subst e4
        clear hn2 hp1 hp2 h0
        have c00 := B1.out.cell 0
        have c01 := B1.out.cell 1
        go_wp2_with fail
        clear c00 c01
        refine (sectors_let hok HT.out _).mono ?_
        rintro e w4 ⟨rfl, bw⟩
        have B1' := Lib.hid (B1.out.below bw)
        have BB' := Lib.hid (BB.out.trans (bw.mono BB.out.size))
        clear B1 BB bw
        have B1 := Lib.hid B1'.out
        have BB := Lib.hid BB'.out
        clear B1' BB'
        have c00 := B1.out.cell 0
        have c01 := B1.out.cell 1
        go_wp2_with fail
        clear c00 c01
        refine (sectors_let hok HT.out _).mono ?_
        rintro e w5 ⟨rfl, bw⟩
        have B1' := Lib.hid (B1.out.below bw)
        have BB' := Lib.hid (BB.out.trans (bw.mono BB.out.size))
        clear B1 BB bw
        have B1 := Lib.hid B1'.out
        have BB := Lib.hid BB'.out
        clear B1' BB'
        have c00 := B1.out.cell 0
        have c01 := B1.out.cell 1
        go_wp2_with fail
        clear c00 c01
        go_ret
        exact ⟨rfl, BB.out⟩
  · skip
    go_enter Try.func9, Try.ntmps9
    go_wp2_with fail
    refine (Sg.awake_any _).mono ?_
    rintro e w2 ⟨rfl, bw⟩
    have B1' := Lib.hid (B1.out.below bw)
    have BB' := Lib.hid (BB.out.trans (bw.mono BB.out.size))
    clear B1 BB bw
    have B1 := Lib.hid B1'.out
    have BB := Lib.hid BB'.out
    clear B1' BB'
    have c00 := B1.out.cell 0
    have c01 := B1.out.cell 1
    go_wp2_with fail
    clear c00 c01
    refine (Sg.check_no a b hok _).mono ?_
    rintro e w3 ⟨rfl, bw⟩
    have B1' := Lib.hid (B1.out.below bw)
    have BB' := Lib.hid (BB.out.trans (bw.mono BB.out.size))
    clear B1 BB bw
    have B1 := Lib.hid B1'.out
    have BB := Lib.hid BB'.out
    clear B1' BB'
    have c00 := B1.out.cell 0
    have c01 := B1.out.cell 1
    go_wp2_with fail
    clear c00 c01
    refine (Sg.awake_any _).mono ?_
    rintro e w4 ⟨rfl, bw⟩
    have B1' := Lib.hid (B1.out.below bw)
    have BB' := Lib.hid (BB.out.trans (bw.mono BB.out.size))
    clear B1 BB bw
    have B1 := Lib.hid B1'.out
    have BB := Lib.hid BB'.out
    clear B1' BB'
    go_wp2_with fail
    go_ret
    exact ⟨rfl, BB.out⟩
theorem segmentFull_own : ownKnob Try.prog.godebug = none := by kernel_rfl
theorem segmentFull_laid : laidOutB Try.prog = true := by kernel_rfl

set_option maxRecDepth 100000 in
theorem segmentFull_lifted (os : Os) (started : os.Started) (H : Type) (enc : TypeId × Value → H) :
    ReturnsInHanded {} Try.checked os 9 .any (Rows.segmentFullSpec.pre6 enc Try.prog Try.f9 Rows.segmentFullRow.domain false) (Rows.segmentFullSpec.post enc Try.prog Try.f9 false true false false) := by
  refine returnsInHanded_of_change (C := Try.checked) segmentFull_own started (by kernel_rfl) Try.func9
    (ChangeSpec.witness6 (enc := enc) (C := Try.checked) false ⟨#[], #[.agg #[.int .i64 0, .int .i64 0]], []⟩ 8 (by kernel_rfl) (by kernel_rfl) (by kernel_rfl) (by kernel_rfl)) ?_
  intro W base args ds gs before hval0 hW _ _
  have hval : ∀ (j : Nat) t v, Try.f9.params[j]? = some t → args[j]? = some v → Value.okWide Try.prog W .any base t v := hval0
  have hW' := hW
  obtain ⟨p, q, hA0, hV, rfl, hfz, hnd⟩ := hW
  have hA : DataW.TrodAll enc Try.prog W 0 (fun _ => true) true Try.f9.params.toList args.toList ds p := hA0
  rw [Try.params9] at hA hval
  obtain ⟨v0, vs0, d0, ds0, p0, q0, hargs, rfl, rfl, h0, r0⟩ := trodAll_cons hA
  obtain ⟨rfl, rfl, rfl⟩ := trodAll_nil r0
  obtain rfl : args = #[v0] := by cases args; simp_all
  obtain ⟨rfl, rfl⟩ := trodVars_none hV
  have lt0 : ∀ x ∈ p0, x.block < W.heap.size := by obtain ⟨m, hm⟩ := h0; exact DataW.trod_lt m _ _ _ hm
  obtain ⟨x0, y0, rfl, bx0, by0⟩ := Sg.open_shape (hval 0 23 v0 rfl rfl) h0
  clear hA0 hval0
  refine (segmentFull_any W x0 y0 bx0 by0).mono fun e W' ⟨he, bel⟩ => ?_
  subst he
  exact ⟨_, rfl, _, _, _, [], _, [], hW', trodAll_mk1 (shut_bool Try.underlying4 _), (trodAll_cons_mk (Below.trod segmentFull_laid (by kernel_rfl) (of_decide_eq_true (by kernel_rfl)) h0 bel lt0) trodAll_mk0), rfl, bel.frame _, fun h => by cases h⟩

theorem segmentFull_holds : Rows.SegmentFullSaid :=
  OpenClaim.holds_of_wide 9 Try.f9 rfl rfl rfl rfl rfl rfl rfl ⟨rfl, rfl, rfl, rfl, rfl⟩ rfl rfl rfl rfl rfl (by kernel_rfl) Try.func9 (by kernel_rfl)
    (of_decide_eq_true (by kernel_rfl)) (by unfold Func.isWrapper; rw [if_neg (of_decide_eq_false (by kernel_rfl))]; exact ⟨rfl, rfl⟩)
    (fun os started H enc _ => segmentFull_lifted os started H enc)

#print axioms segmentFull_holds

end Go.Proofs.Ytmokigcplgjgiaa
