/-
  ShaSums holds: of every text the law returns true, and its argument reads as it did.
-/
import Derived.Test.YtdemfaolkmillaaShRSum
import Derived.Test.YtdemfaolkmillaaShSum
import Derived.Test.YtdemfaolkmillaaShEq
import Derived.Test.YtdemfaolkmillaaShAwake
import Derived.Test.YtdemfaolkmillaaOpen
import Derived.Test.YtdemfaolkmillaaOpenA
import Derived.ProofKit
import Derived.OpenShut
import Derived.ShutString
import Derived.ChangeOld
namespace Go.Proofs.Ytdemfaolkmillaa
open Go.RowKit Go.ChangeShapes Go.WideShapes Go.ChangeAt
attribute [local go_sem ↓] Go.wp_at_zero Go.wp_at_succ
set_option maxHeartbeats 1600000 in
theorem shaSums_any (w : World) (A : Option Addr) (n c : Nat) (l : List UInt8) (hl : l.length = n) (_hc : n ≤ c) (_hm : c ≤ maxLen) (hr : Rd w.heap.size w A (bv l)) :
    Calls Try.prog 4 #[.slice A n c] w (RetB (.bool true) w) := by
  have HL := Lib.hid hl
  have HR := Lib.hid hr
  clear hl hr
  by_cases hn : n ≤ 300
  · have hn' : decide (300 < (n : Int)) = false := by simp; omega
    obtain ⟨x, hx⟩ : ∃ x, x = shaL l := ⟨_, rfl⟩
    have heq := eq_key x (by rw [hx]; exact shaL_length l)
    have HX := Lib.hid hx
    clear hx
    go_enter Try.func4, Try.ntmps4
    go_wp2_with fail
    refine (awake_any _).mono ?_
    rintro e w1 ⟨rfl, bw⟩
    have BB := Lib.hid bw
    clear bw
    go_wp2_with fail
    refine (sum_any A n c l _ HL.out BB.out.size (HR.out.below BB.out) (by omega)).mono ?_
    rintro e w2 ⟨rfl, bw⟩
    rw [← HX.out]
    have BC := Lib.hid (BB.out.trans (bw.mono BB.out.size))
    clear bw BB
    go_wp2_with fail
    refine (rsum_any A n c l _ HL.out BC.out.size (HR.out.below BC.out) (by omega)).mono ?_
    rintro e w3 ⟨rfl, bw⟩
    rw [← HX.out]
    have BD := Lib.hid (BC.out.trans (bw.mono BC.out.size))
    clear bw BC
    go_wp2_with fail
    go_ret
    exact ⟨rfl, BD.out⟩
  · have hn' : decide (300 < (n : Int)) = true := by simp; omega
    go_enter Try.func4, Try.ntmps4
    go_wp2_with fail
    refine (awake_any _).mono ?_
    rintro e w1 ⟨rfl, bw⟩
    have BB := Lib.hid bw
    clear bw
    go_wp2_with fail
    go_ret
    exact ⟨rfl, BB.out⟩
theorem shaSums_own : ownKnob Try.prog.godebug = none := by kernel_rfl
theorem shaSums_laid : laidOutB Try.prog = true := by kernel_rfl

set_option maxRecDepth 100000 in
theorem shaSums_lifted (os : Os) (started : os.Started) (H : Type) (enc : TypeId × Value → H) :
    ReturnsInHanded {} Try.checked os 4 .any (Rows.shaSumsSpec.pre6 enc Try.prog Try.f4 Rows.shaSumsRow.domain false) (Rows.shaSumsSpec.post enc Try.prog Try.f4 false true false false) := by
  refine returnsInHanded_of_change (C := Try.checked) shaSums_own started (by kernel_rfl) Try.func4
    (ChangeSpec.witness6 (enc := enc) (C := Try.checked) false ⟨#[], #[.slice none 0 0], []⟩ 8 (by kernel_rfl) (by kernel_rfl) (by kernel_rfl) (by kernel_rfl)) ?_
  intro W base args ds gs before hval0 hW _ _
  have hval : ∀ (j : Nat) t v, Try.f4.params[j]? = some t → args[j]? = some v → Value.okWide Try.prog W .any base t v := hval0
  have hW' := hW
  obtain ⟨p, q, hA0, hV, rfl, hfz, hnd⟩ := hW
  have hA : DataW.TrodAll enc Try.prog W 0 (fun _ => true) true Try.f4.params.toList args.toList ds p := hA0
  rw [Try.params4] at hA hval
  obtain ⟨v0, vs0, d0, ds0, p0, q0, hargs, rfl, rfl, h0, r0⟩ := trodAll_cons hA
  obtain ⟨rfl, rfl, rfl⟩ := trodAll_nil r0
  obtain rfl : args = #[v0] := by cases args; simp_all
  obtain ⟨rfl, rfl⟩ := trodVars_none hV
  obtain ⟨a0, n0, c0, rfl⟩ := okWide_slice Try.underlying28 (hval 0 28 v0 rfl rfl)
  have lt0 : ∀ x ∈ p0, x.block < W.heap.size := by obtain ⟨m, hm⟩ := h0; exact DataW.trod_lt m _ _ _ hm
  obtain ⟨l0, hl0, hc0, hm0, hr0⟩ := open_bytes Try.underlying28 Try.underlying5 (by kernel_rfl) h0
  clear hA0 hval0
  refine (shaSums_any W a0 n0 c0 l0 hl0 hc0 hm0 hr0).mono fun e W' ⟨he, bel⟩ => ?_
  subst he
  exact ⟨_, rfl, _, _, _, [], _, [], hW', trodAll_mk1 (shut_bool Try.underlying4 _), (trodAll_cons_mk (Below.trod shaSums_laid (by kernel_rfl) (of_decide_eq_true (by kernel_rfl)) h0 bel lt0) trodAll_mk0), rfl, bel.frame _, fun h => by cases h⟩

theorem shaSums_holds : Rows.ShaSumsSaid :=
  OpenClaim.holds_of_wide 4 Try.f4 rfl rfl rfl rfl rfl rfl rfl ⟨rfl, rfl, rfl, rfl, rfl⟩ rfl rfl rfl rfl rfl (by kernel_rfl) Try.func4 (by kernel_rfl)
    (of_decide_eq_true (by kernel_rfl)) (by unfold Func.isWrapper; rw [if_neg (of_decide_eq_false (by kernel_rfl))]; exact ⟨rfl, rfl⟩)
    (fun os started H enc _ => shaSums_lifted os started H enc)

#print axioms shaSums_holds

end Go.Proofs.Ytdemfaolkmillaa
