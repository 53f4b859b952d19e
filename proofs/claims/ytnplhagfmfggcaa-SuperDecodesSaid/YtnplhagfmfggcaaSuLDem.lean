/-
  SuperDecodes: any bytes are the super that the document says, or none.
-/
import Derived.Test.YtnplhagfmfggcaaSx1
import Derived.Test.YtnplhagfmfggcaaRows
import Derived.ProofKit
import Derived.OpenShut
import Derived.ShutString
import Derived.ChangeOld
namespace Go.Proofs.Ytnplhagfmfggcaa
open Go.RowKit Kd Mi Sx Su Go.ChangeShapes Go.WideShapes Go.ChangeAt
attribute [local go_sem ↓] Go.wp_at_zero Go.wp_at_succ
set_option maxRecDepth 100000 in
set_option maxHeartbeats 12800000 in
theorem superDecodes_any (w : World) (A : Option Addr) (n c : Nat) (l : List UInt8) (hl : l.length = n) (hc : n ≤ c) (hm : c ≤ maxLen) (hr : Rd w.heap.size w A (bv l)) : Calls Try.prog 7 #[.slice A n c] w (RetB (.bool true) w) := by
  have HM := Lib.hid (show n ≤ 9223372036854775807 by unfold maxLen at hm; omega)
  have HR := Lib.hid hr
  have HL := Lib.hid hl
  have HC := Lib.hid hc
  have hzs := zero_super
  clear hl hr hm
  go_enter Try.func7, Try.ntmps7
  go_wp2_with fail
  refine (awake_any w).mono ?_
  rintro e w2 ⟨rfl, bw⟩
  have R2 := Lib.hid (HR.out.below bw)
  have B2 := Lib.hid bw
  clear bw
  by_cases hn : 20 < n
  · have n1 : (20 : Int) < (n : Int) := by omega
    go_wp2_with fail
    go_ret
    exact ⟨rfl, B2.out⟩
  · have n1 : ¬ (20 : Int) < (n : Int) := by omega
    clear hn
    go_wp2_with fail
    refine (udec_any (B := w.heap.size) A n c l w2 HL.out B2.out.size R2.out HC.out).mono ?_
    rintro e w3 ⟨rfl, bw⟩
    have R3 := Lib.hid (R2.out.below (bw.mono B2.out.size))
    have B3 := Lib.hid (B2.out.trans (bw.mono B2.out.size))
    clear bw R2 B2
    obtain ⟨d, hd⟩ : ∃ d, d = decP l := ⟨_, rfl⟩
    obtain ⟨is, his⟩ : ∃ d, d = isP l := ⟨_, rfl⟩
    rw [← hd, ← his]
    unfold spA
    have HD := Lib.hid (fun W (hB : w.heap.size ≤ W.heap.size) (hR : Rd w.heap.size W A (bv l)) => vdec_any (B := w.heap.size) A n c l W HL.out hB hR HC.out)
    rw [← hd, ← his] at HD
    clear hd his
    obtain ⟨w4, hw4⟩ : ∃ W, W = w3.alloc (.cells #[.int .u64 (d.v : Int), .int .i64 d.n, .int .u64 (d.t : Int)] 100) := ⟨_, rfl⟩
    have bw : Below w3.heap.size w3 w4 := by rw [hw4]; exact (Below.refl _ _).alloc (Nat.le_refl _) _
    have B4 := Lib.hid (B3.out.trans (bw.mono B3.out.size))
    have R4 := Lib.hid (R3.out.below (bw.mono B3.out.size))
    have X4 := Lib.hid (show Blk w4 w3.heap.size #[.int .u64 (d.v : Int), .int .i64 d.n, .int .u64 (d.t : Int)] 100 by rw [hw4]; exact heap_alloc_new _ _)
    clear bw
    go_wp2_with fail
    rw [← hw4]
    clear hw4
    refine (HD.out w4 B4.out.size R4.out).mono ?_
    rintro e w5 ⟨rfl, rfl⟩
    have c0 := X4.out.cell 0
    have c1 := X4.out.cell 1
    have c2 := X4.out.cell 2
    have hq := eq_super d
    have hb : (is == is) = true := by cases is <;> rfl
    go_wp2_with fail
    go_ret
    exact ⟨rfl, B4.out⟩
theorem superDecodes_own : ownKnob Try.prog.godebug = none := by kernel_rfl
theorem superDecodes_laid : laidOutB Try.prog = true := by kernel_rfl

set_option maxRecDepth 100000 in
theorem superDecodes_lifted (os : Os) (started : os.Started) (H : Type) (enc : TypeId × Value → H) :
    ReturnsInHanded {} Try.checked os 7 .any (Rows.superDecodesSpec.pre6 enc Try.prog Try.f7 Rows.superDecodesRow.domain false) (Rows.superDecodesSpec.post enc Try.prog Try.f7 false true false false) := by
  refine returnsInHanded_of_change (C := Try.checked) superDecodes_own started (by kernel_rfl) Try.func7
    (ChangeSpec.witness6 (enc := enc) (C := Try.checked) false ⟨#[], #[.slice none 0 0], []⟩ 8 (by kernel_rfl) (by kernel_rfl) (by kernel_rfl) (by kernel_rfl)) ?_
  intro W base args ds gs before hval0 hW _ _
  have hval : ∀ (j : Nat) t v, Try.f7.params[j]? = some t → args[j]? = some v → Value.okWide Try.prog W .any base t v := hval0
  have hW' := hW
  obtain ⟨p, q, hA0, hV, rfl, hfz, hnd⟩ := hW
  have hA : DataW.TrodAll enc Try.prog W 0 (fun _ => true) true Try.f7.params.toList args.toList ds p := hA0
  rw [Try.params7] at hA hval
  obtain ⟨v0, vs0, d0, ds0, p0, q0, hargs, rfl, rfl, h0, r0⟩ := trodAll_cons hA
  obtain ⟨rfl, rfl, rfl⟩ := trodAll_nil r0
  obtain rfl : args = #[v0] := by cases args; simp_all
  obtain ⟨rfl, rfl⟩ := trodVars_none hV
  obtain ⟨a0, n0, c0, rfl⟩ := okWide_slice Try.underlying81 (hval 0 81 v0 rfl rfl)
  have lt0 : ∀ x ∈ p0, x.block < W.heap.size := by obtain ⟨m, hm⟩ := h0; exact DataW.trod_lt m _ _ _ hm
  obtain ⟨l0, hl0, hc0, hm0, hr0⟩ := open_bytes Try.underlying81 Try.underlying5 (by kernel_rfl) h0
  clear hA0 hval0
  refine (superDecodes_any W a0 n0 c0 l0 hl0 hc0 hm0 hr0).mono fun e W' ⟨he, bel⟩ => ?_
  subst he
  exact ⟨_, rfl, _, _, _, [], _, [], hW', trodAll_mk1 (shut_bool Try.underlying4 _), (trodAll_cons_mk (Below.trod superDecodes_laid (by kernel_rfl) (of_decide_eq_true (by kernel_rfl)) h0 bel lt0) trodAll_mk0), rfl, bel.frame _, fun h => by cases h⟩

theorem superDecodes_holds : Rows.SuperDecodesSaid :=
  OpenClaim.holds_of_wide 7 Try.f7 rfl rfl rfl rfl rfl rfl rfl ⟨rfl, rfl, rfl, rfl, rfl⟩ rfl rfl rfl rfl rfl (by kernel_rfl) Try.func7 (by kernel_rfl)
    (of_decide_eq_true (by kernel_rfl)) (by unfold Func.isWrapper; rw [if_neg (of_decide_eq_false (by kernel_rfl))]; exact ⟨rfl, rfl⟩)
    (fun os started H enc _ => superDecodes_lifted os started H enc)

#print axioms superDecodes_holds

end Go.Proofs.Ytnplhagfmfggcaa
