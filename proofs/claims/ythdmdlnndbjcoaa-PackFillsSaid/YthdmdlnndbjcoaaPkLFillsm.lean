/-
  PackFills holds: of any row of cells, and any number, the law returns true, and its arguments read as they did.
-/
import Derived.Test.YthdmdlnndbjcoaaCb1
import Derived.Deep.Cut
import Derived.Deep.RegionHeld
import Derived.Test.YthdmdlnndbjcoaaRows
import Derived.ProofKit
import Derived.OpenShut
import Derived.ShutString
import Derived.ChangeOld
namespace Go.Proofs.Ythdmdlnndbjcoaa
open Go.RowKit Ce Pk Go.ChangeShapes Go.WideShapes Go.ChangeAt
attribute [local go_sem ↓] Go.wp_at_zero Go.wp_at_succ
set_option maxRecDepth 100000 in
set_option maxHeartbeats 12800000 in
theorem packFills_any (w : World) (A : Option Addr) (N c : Nat) (l : List Cc) (hl : l.length = N) (_ : N ≤ c) (_ : c ≤ maxLen) (hr : Rd w.heap.size w A (ccs l) ∧ ∀ k ∈ l, Rd w.heap.size w k.A (bv k.y.body)) (a : Int) (ha : -9223372036854775808 ≤ a ∧ a ≤ 9223372036854775807) : Calls Try.prog 3 #[.slice A N c, .int .i64 a] w (RetB (.bool true) w) := by
  have HL := Lib.hid hl
  have HR := Lib.hid hr.1
  have HBO := Lib.hid hr.2
  have HA := Lib.hid ha
  have B := Lib.hid (Below.refl w.heap.size w)
  clear hl hr ha
  go_enter Try.func3, Try.ntmps3
  go_wp2_with fail
  refine (pkAwake_any _).mono ?_
  rintro e w1 ⟨rfl, bw⟩
  have B' := Lib.hid (B.out.trans (bw.mono B.out.size))
  clear bw B
  have B := Lib.hid B'.out
  clear B'
  by_cases hbig : 20 < N
  · have n1 : (20 : Int) < (N : Int) := by omega
    go_wp2_with fail
    go_ret
    exact ⟨rfl, B.out⟩
  have n1 : ¬ (20 : Int) < (N : Int) := by omega
  have HNB := Lib.hid (show N ≤ 20 by omega)
  clear hbig
  go_wp2_with fail
  clear n1
  refine (fill_any (B := w.heap.size) _ A N c l HL.out (HR.out.below B.out) (fun k hk => (HBO.out k hk).below B.out) B.out.size (by have := HNB.out; omega)).mono ?_
  rintro e w5 (⟨hall, A3, n3, c3, bl3, I3, d3, rfl, hb3, he3, hi3, bw⟩ | ⟨hno, rfl, bw⟩)
  rotate_left
  · have B5 := Lib.hid (B.out.trans (bw.mono B.out.size))
    clear bw B
    go_wp2_with fail
    refine (rfill_any (B := w.heap.size) _ A N c l HL.out (HR.out.below B5.out) (fun k hk => (HBO.out k hk).below B5.out) B5.out.size (by have := HNB.out; omega)).mono ?_
    rintro e w6 (⟨hall, _⟩ | ⟨_, rfl, bw⟩)
    · exact absurd hall hno
    have B6 := Lib.hid (B5.out.trans (bw.mono B5.out.size))
    clear bw B5 hno
    go_wp2_with fail
    go_ret
    exact ⟨rfl, B6.out⟩
  have B5 := Lib.hid (B.out.trans (bw.mono B.out.size))
  have D3 := Lib.hid hb3
  have E3 := Lib.hid he3
  have O3 := Lib.hid hi3
  have HALL := Lib.hid hall
  clear hb3 he3 hi3 bw B hall
  go_wp2_with fail
  refine (rfill_any (B := w.heap.size) _ A N c l HL.out (HR.out.below B5.out) (fun k hk => (HBO.out k hk).below B5.out) B5.out.size (by have := HNB.out; omega)).mono ?_
  rintro e w6 (⟨_, A4, n4, c4, bl4, I4, d4, rfl, hb4, he4, hi4, bw⟩ | ⟨hno, _⟩)
  rotate_left
  · exact absurd HALL.out hno
  have B6 := Lib.hid (B5.out.trans (bw.mono B5.out.size))
  have D3' := Lib.hid (D3.out.below bw)
  have O3' := Lib.hid (own_below O3.out bw)
  have hn3 : (ebb bl3).length = n3 := by rw [ebb_length]; exact D3.out.len
  have hn4 : (ebb bl4).length = n4 := by rw [ebb_length]; exact hb4.len
  have hm3 : n3 ≤ maxLen := own_max D3.out.own
  have hm4 : n4 ≤ maxLen := own_max hb4.own
  have HRW := Lib.hid (show Calls Try.prog 15 #[.slice A3 n3 c3, .slice A4 n4 c4] w6 (RetB (.bool true) w6) from rows_r (b := true) (decide_eq_true (by rw [E3.out, he4])) hn3 hn4 D3'.out.rdB hb4.rdB hm3 hm4)
  have HC3 := Lib.hid (show ∀ W, Below w6.heap.size w6 W → ∃ g, (0 < l.length → I3 = some ⟨g, 0, none⟩) ∧ ∀ j (h : j < l.length), W.cell? ⟨g, j, none⟩ = some (.int .i64 (((inB encCl (ys l))[j]'(by rw [in_length, ys_length]; exact h) : Nat) : Int)) from fun W hW => Pk.ints_at (own_below O3'.out hW) (by rw [in_length, ys_length]))
  have HC4 := Lib.hid (show ∀ W, Below w6.heap.size w6 W → ∃ g, (0 < l.length → I4 = some ⟨g, 0, none⟩) ∧ ∀ j (h : j < l.length), W.cell? ⟨g, j, none⟩ = some (.int .i64 (((inB encCl (ys l))[j]'(by rw [in_length, ys_length]; exact h) : Nat) : Int)) from fun W hW => Pk.ints_at (own_below hi4 hW) (by rw [in_length, ys_length]))
  clear D3 O3 hb4 he4 hi4 bw B5 hn3 hn4 hm3 hm4
  rw [HL.out]
  have e1 : ((N : Int) != (N : Int)) = false := by simp
  go_wp2_with fail
  refine HRW.out.mono ?_
  rintro e w7 ⟨rfl, bw⟩
  have B7 := Lib.hid (B6.out.trans (bw.mono B6.out.size))
  have F7 := Lib.hid bw
  clear bw
  go_wp2_with fail
  go_loopw [11] (fun i wr => ∃ j : Nat, j ≤ N ∧ i = .int .i64 j ∧ Below w6.heap.size w6 wr) (fun i _ => N - (intOf i).toNat)
  case atStart => exact ⟨0, Nat.zero_le _, rfl, F7.out⟩
  case round =>
    obtain ⟨j, hj, rfl, hbw⟩ := hrel
    by_cases hlt : j < N
    · have hjl : j < l.length := by rw [HL.out]; exact hlt
      obtain ⟨g3, h3, h3c⟩ := HC3.out wr hbw
      obtain ⟨g4, h4, h4c⟩ := HC4.out wr hbw
      have h3 := h3 (by omega)
      have h4 := h4 (by omega)
      subst h3
      subst h4
      have c3j := h3c j hjl
      have c4j := h4c j hjl
      obtain ⟨v, hv⟩ : ∃ v : Nat, v = (inB encCl (ys l))[j]'(by rw [in_length, ys_length]; exact hjl) := ⟨_, rfl⟩
      rw [← hv] at c3j c4j
      have HB := Lib.hid hbw
      have k0 : (0 : Int) ≤ (j : Int) := by omega
      have k1 : (j : Int) < (N : Int) := by omega
      have e2 : ((v : Int) != (v : Int)) = false := by simp
      clear h3c h4c hv hbw
      go_wp2_with fail
      go_quiet (fail)
      go_wp2_with fail
      go_roundw
      case rel => exact ⟨j + 1, by omega, by go_num, below_drewN' HB.out _⟩
      case measure => (simp [intOf]; try omega)
    · have n1 : ¬ (j : Int) < (N : Int) := by omega
      have B8 := Lib.hid (B6.out.trans (hbw.mono B6.out.size))
      clear hbw
      go_wp2_with fail
      refine (worst_any a _).mono ?_
      rintro e w9 ⟨rfl, bw⟩
      have B9 := Lib.hid (B8.out.trans (bw.mono B8.out.size))
      have ha := HA.out
      by_cases hn : a < 0
      · have e3 : max a 0 = 0 := by omega
        rw [e3]
        have e4 : decide (a < 0) = true := by simpa using hn
        clear bw B8
        go_wp2_with fail
        all_goals go_ret
        all_goals first | exact ⟨ret_bool (by simp; try omega), B9.out⟩
      · have e3 : max a 0 = a := by omega
        rw [e3]
        clear bw B8
        go_wp2_with fail
        all_goals go_ret
        all_goals first | exact ⟨ret_bool (by simp; try omega), B9.out⟩
theorem packFills_own : ownKnob Try.prog.godebug = none := by kernel_rfl
theorem packFills_laid : laidOutB Try.prog = true := by kernel_rfl

set_option maxRecDepth 100000 in
theorem packFills_lifted (os : Os) (started : os.Started) (H : Type) (enc : TypeId × Value → H) :
    ReturnsInHanded {} Try.checked os 3 .any (Rows.packFillsSpec.pre6 enc Try.prog Try.f3 Rows.packFillsRow.domain false) (Rows.packFillsSpec.post enc Try.prog Try.f3 false true false false) := by
  refine returnsInHanded_of_change (C := Try.checked) packFills_own started (by kernel_rfl) Try.func3
    (ChangeSpec.witness6 (enc := enc) (C := Try.checked) false ⟨#[], #[.slice none 0 0, .int .i64 0], []⟩ 8 (by kernel_rfl) (by kernel_rfl) (by kernel_rfl) (by kernel_rfl)) ?_
  intro W base args ds gs before hval0 hW _ _
  have hval : ∀ (j : Nat) t v, Try.f3.params[j]? = some t → args[j]? = some v → Value.okWide Try.prog W .any base t v := hval0
  have hW' := hW
  obtain ⟨p, q, hA0, hV, rfl, hfz, hnd⟩ := hW
  have hA : DataW.TrodAll enc Try.prog W 0 (fun _ => true) true Try.f3.params.toList args.toList ds p := hA0
  rw [Try.params3] at hA hval
  obtain ⟨v0, vs0, d0, ds0, p0, q0, hargs, rfl, rfl, h0, r0⟩ := trodAll_cons hA
  obtain ⟨v1, vs1, d1, ds1, p1, q1, rfl, rfl, rfl, h1, r1⟩ := trodAll_cons r0
  obtain ⟨rfl, rfl, rfl⟩ := trodAll_nil r1
  obtain rfl : args = #[v0, v1] := by cases args; simp_all
  obtain ⟨rfl, rfl⟩ := trodVars_none hV
  obtain ⟨a0, n0, c0, rfl⟩ := okWide_slice Try.underlying22 (hval 0 22 v0 rfl rfl)
  have lt0 : ∀ x ∈ p0, x.block < W.heap.size := by obtain ⟨m, hm⟩ := h0; exact DataW.trod_lt m _ _ _ hm
  obtain ⟨l0, hl0, hc0, hm0, hr0⟩ := Ce.open_cells h0
  obtain ⟨a1, rfl, rfl, rfl, w1⟩ := open_int Try.underlying3 (hval 1 3 v1 rfl rfl) h1
  have b1 := bounds_i64 w1
  clear hA0 hval0
  refine (packFills_any W a0 n0 c0 l0 hl0 hc0 hm0 hr0 a1 b1).mono fun e W' ⟨he, bel⟩ => ?_
  subst he
  exact ⟨_, rfl, _, _, _, [], _, [], hW', trodAll_mk1 (shut_bool Try.underlying4 _), (trodAll_cons_mk (Below.trod packFills_laid (by kernel_rfl) (of_decide_eq_true (by kernel_rfl)) h0 bel lt0) (trodAll_cons_mk (shut_int Try.underlying3 w1) trodAll_mk0)), rfl, bel.frame _, fun h => by cases h⟩

theorem packFills_holds : Rows.PackFillsSaid :=
  OpenClaim.holds_of_wide 3 Try.f3 rfl rfl rfl rfl rfl rfl rfl ⟨rfl, rfl, rfl, rfl, rfl⟩ rfl rfl rfl rfl rfl (by kernel_rfl) Try.func3 (by kernel_rfl)
    (of_decide_eq_true (by kernel_rfl)) (by unfold Func.isWrapper; rw [if_neg (of_decide_eq_false (by kernel_rfl))]; exact ⟨rfl, rfl⟩)
    (fun os started H enc _ => packFills_lifted os started H enc)

#print axioms packFills_holds

end Go.Proofs.Ythdmdlnndbjcoaa
