/-
  PackOpens holds: of any row of bytes the law returns true, and its argument reads as it did.
-/
import Derived.Test.YthdmdlnndbjcoaaCb1
import Derived.Deep.Cut
import Derived.Deep.RegionHeld
import Derived.Test.YthdmdlnndbjcoaaRows
import Derived.ProofKit
import Derived.OpenShut
import Derived.ShutString
import Derived.ChangeOld
namespace Go.Proofs.Ythdmdlnndbjcoaa
open Go.RowKit Ce Pk Go.ChangeShapes Go.WideShapes Go.ChangeAt
attribute [local go_sem ↓] Go.wp_at_zero Go.wp_at_succ
set_option maxRecDepth 100000 in
set_option maxHeartbeats 12800000 in
theorem packOpens_any (w : World) (A : Option Addr) (N c : Nat) (l : List UInt8) (hl : l.length = N) (hcl : N ≤ c) (hcm : c ≤ maxLen) (hr : Rd w.heap.size w A (bv l)) : Calls Try.prog 4 #[.slice A N c] w (RetB (.bool true) w) := by
  have HL := Lib.hid hl
  have HR := Lib.hid hr
  have HCP := Lib.hid (And.intro hcl hcm)
  have B := Lib.hid (Below.refl w.heap.size w)
  clear hl hr hcl hcm
  go_enter Try.func4, Try.ntmps4
  go_wp2_with fail
  refine (pkAwake_any _).mono ?_
  rintro e w1 ⟨rfl, bw⟩
  have B' := Lib.hid (B.out.trans (bw.mono B.out.size))
  clear bw B
  have B := Lib.hid B'.out
  clear B'
  by_cases hbig : 200 < N
  · have n1 : (200 : Int) < (N : Int) := by omega
    go_wp2_with fail
    go_ret
    exact ⟨rfl, B.out⟩
  have n1 : ¬ (200 : Int) < (N : Int) := by omega
  have HNB := Lib.hid (show N ≤ 200 by omega)
  clear hbig
  go_wp2_with fail
  clear n1
  refine (open_any _ A N c l HL.out HCP.out (HR.out.below B.out) B.out.size).mono ?_
  rintro e w5 ⟨A3, n3, c3, cl3, rfl, ho3, hy3, ⟨hb3, _⟩, bw⟩
  have B5 := Lib.hid (B.out.trans (bw.mono B.out.size))
  have N3 := Lib.hid ho3
  have C3 := Lib.hid hb3
  have Y3 := Lib.hid hy3
  have HN3 := Lib.hid (show cl3.length = n3 ∧ n3 ≤ 103 from by
    have h1 := ho3.1
    rw [ccs_length] at h1
    have h2 := open_len l
    rw [← hy3, ys_length] at h2
    omega)
  clear ho3 hy3 hb3 bw B
  go_wp2_with fail
  refine (ropen_any _ A N c l HL.out HCP.out (HR.out.below B5.out) B5.out.size).mono ?_
  rintro e w6 ⟨A4, n4, c4, cl4, rfl, ho4, hy4, ⟨hb4, _⟩, bw⟩
  have B6 := Lib.hid (B5.out.trans (bw.mono B5.out.size))
  have N4 := Lib.hid ho4
  have C4 := Lib.hid hb4
  have Y4 := Lib.hid hy4
  have HN4 := Lib.hid (show cl4.length = n4 ∧ n4 ≤ 103 from by
    have h1 := ho4.1
    rw [ccs_length] at h1
    have h2 := open_len l
    rw [← hy4, ys_length] at h2
    omega)
  have N3' := Lib.hid (own_belowN N3.out bw)
  have C3' := Lib.hid (C3.out.below bw)
  have HSM := Lib.hid (show Calls Try.prog 19 #[.slice A3 n3 c3, .slice A4 n4 c4] w6 (RetB (.bool true) w6) from by
    have h := qsame_any w6 A3 A4 n3 n4 c3 c4 cl3 cl4 HN3.out.1 HN4.out.1 (Rd.ownN N3'.out) (Rd.ownN N4.out) (fun k hk => (C3'.out k hk).1) (fun k hk => (C4.out k hk).1) (Nat.le_refl _) (by have := HN3.out; omega) (by have := HN4.out; omega)
    rw [decide_eq_true (by rw [Y3.out, Y4.out])] at h; exact h)
  clear ho4 hy4 hb4 bw B5 N3 C3
  obtain ⟨q, hq⟩ : ∃ q, q = (openL l).2 := ⟨_, rfl⟩
  rw [← hq]
  clear hq
  go_wp2_with fail
  refine HSM.out.mono ?_
  rintro e w7 ⟨rfl, bw⟩
  have B7 := Lib.hid (B6.out.trans (bw.mono B6.out.size))
  clear bw B6
  go_wp2_with fail
  go_ret
  exact ⟨by simp, B7.out⟩
theorem packOpens_own : ownKnob Try.prog.godebug = none := by kernel_rfl
theorem packOpens_laid : laidOutB Try.prog = true := by kernel_rfl

set_option maxRecDepth 100000 in
theorem packOpens_lifted (os : Os) (started : os.Started) (H : Type) (enc : TypeId × Value → H) :
    ReturnsInHanded {} Try.checked os 4 .any (Rows.packOpensSpec.pre6 enc Try.prog Try.f4 Rows.packOpensRow.domain false) (Rows.packOpensSpec.post enc Try.prog Try.f4 false true false false) := by
  refine returnsInHanded_of_change (C := Try.checked) packOpens_own started (by kernel_rfl) Try.func4
    (ChangeSpec.witness6 (enc := enc) (C := Try.checked) false ⟨#[], #[.slice none 0 0], []⟩ 8 (by kernel_rfl) (by kernel_rfl) (by kernel_rfl) (by kernel_rfl)) ?_
  intro W base args ds gs before hval0 hW _ _
  have hval : ∀ (j : Nat) t v, Try.f4.params[j]? = some t → args[j]? = some v → Value.okWide Try.prog W .any base t v := hval0
  have hW' := hW
  obtain ⟨p, q, hA0, hV, rfl, hfz, hnd⟩ := hW
  have hA : DataW.TrodAll enc Try.prog W 0 (fun _ => true) true Try.f4.params.toList args.toList ds p := hA0
  rw [Try.params4] at hA hval
  obtain ⟨v0, vs0, d0, ds0, p0, q0, hargs, rfl, rfl, h0, r0⟩ := trodAll_cons hA
  obtain ⟨rfl, rfl, rfl⟩ := trodAll_nil r0
  obtain rfl : args = #[v0] := by cases args; simp_all
  obtain ⟨rfl, rfl⟩ := trodVars_none hV
  obtain ⟨a0, n0, c0, rfl⟩ := okWide_slice Try.underlying34 (hval 0 34 v0 rfl rfl)
  have lt0 : ∀ x ∈ p0, x.block < W.heap.size := by obtain ⟨m, hm⟩ := h0; exact DataW.trod_lt m _ _ _ hm
  obtain ⟨l0, hl0, hc0, hm0, hr0⟩ := open_bytes Try.underlying34 Try.underlying5 (by kernel_rfl) h0
  clear hA0 hval0
  refine (packOpens_any W a0 n0 c0 l0 hl0 hc0 hm0 hr0).mono fun e W' ⟨he, bel⟩ => ?_
  subst he
  exact ⟨_, rfl, _, _, _, [], _, [], hW', trodAll_mk1 (shut_bool Try.underlying4 _), (trodAll_cons_mk (Below.trod packOpens_laid (by kernel_rfl) (of_decide_eq_true (by kernel_rfl)) h0 bel lt0) trodAll_mk0), rfl, bel.frame _, fun h => by cases h⟩

theorem packOpens_holds : Rows.PackOpensSaid :=
  OpenClaim.holds_of_wide 4 Try.f4 rfl rfl rfl rfl rfl rfl rfl ⟨rfl, rfl, rfl, rfl, rfl⟩ rfl rfl rfl rfl rfl (by kernel_rfl) Try.func4 (by kernel_rfl)
    (of_decide_eq_true (by kernel_rfl)) (by unfold Func.isWrapper; rw [if_neg (of_decide_eq_false (by kernel_rfl))]; exact ⟨rfl, rfl⟩)
    (fun os started H enc _ => packOpens_lifted os started H enc)

#print axioms packOpens_holds

end Go.Proofs.Ythdmdlnndbjcoaa
