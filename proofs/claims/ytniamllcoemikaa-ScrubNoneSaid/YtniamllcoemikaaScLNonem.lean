/-
  The law ScrubNone holds: of no mirror, and of no walk, there is nothing. For any number.
-/
import Derived.Test.YtniamllcoemikaaMs4
import Derived.Test.YtniamllcoemikaaRows
import Derived.ProofKit
import Derived.OpenShut
import Derived.ShutString
import Derived.ChangeOld
namespace Go.Proofs.Ytniamllcoemikaa
open Go.RowKit Kd Mi Sc Go.ChangeShapes Go.WideShapes Go.ChangeAt
attribute [local go_sem ↓] Go.wp_at_zero Go.wp_at_succ
theorem byte_ofS {a : Int} (h : 0 ≤ a ∧ a ≤ 255) : ∃ x : UInt8, a = (x.toNat : Int) := ⟨UInt8.ofNat a.toNat, by rw [UInt8.toNat_ofNat']; omega⟩
set_option maxRecDepth 100000 in
set_option maxHeartbeats 12800000 in
theorem scrubNone_any (w : World) (a0 : Int) (c0 : 0 ≤ a0 ∧ a0 ≤ 255) : Calls Try.prog 9 #[.int .u8 a0] w (RetB (.bool true) w) := by
  obtain ⟨u0, rfl⟩ := byte_ofS c0
  clear c0
  obtain ⟨k, hk0⟩ : ∃ k, k = u0.toNat % 4 := ⟨_, rfl⟩
  have HK := Lib.hid (show k < 4 by rw [hk0]; exact Nat.mod_lt _ (by omega))
  have wu : IntKind.i64.wrap (u0.toNat : Int) = (u0.toNat : Int) := IntWalk.i64_in _ (by have := UInt8.toNat_lt u0; omega)
  have hm6 : ((u0.toNat : Int)).tmod 4 = (k : Int) := by rw [hk0, Int.tmod_eq_emod_of_nonneg (by omega)]; omega
  clear hk0
  have B0 := Lib.hid (Below.refl w.heap.size w)
  go_enter Try.func9, Try.ntmps9
  go_wp2_with fail
  refine (Sc.awake_any w).mono ?_
  rintro e w1 ⟨rfl, B1'⟩
  have B1 := Lib.hid B1'
  clear B1' B0
  go_upto_region 5 with fail
  obtain ⟨w2, hw2⟩ : ∃ w2, w2 = w1.alloc (.cells (Wk.zero.cells none) 61) := ⟨_, rfl⟩
  rw [show w1.alloc (.cells #[.pointer none, .int .i64 0, .int .i64 0, .int .i64 0, .int .i64 0] 61) = w2 from hw2.symm]
  obtain ⟨b, hb⟩ : ∃ b, b = w1.heap.size := ⟨_, rfl⟩
  rw [← hb]
  have X2 := Lib.hid (show Blk w2 b (Wk.zero.cells none) 61 by rw [hw2, hb]; exact heap_alloc_new _ _)
  have B2 := Lib.hid (show Below w.heap.size w w2 by rw [hw2]; exact B1.out.alloc B1.out.size _)
  clear hw2 hb B1
  go_wp2_with fail
  refine (snew_any w2 none).mono ?_
  rintro e w3 ⟨q, rfl, hq, hx, bw⟩
  have X3 := Lib.hid (X2.out.below bw)
  have Q3 := Lib.hid hx
  have B3 := Lib.hid (B2.out.trans (bw.mono B2.out.size))
  clear hq hx bw X2 B2
  go_wp2_with fail
  go_loopw [18] (fun i wr => ∃ (j : Nat), j ≤ k ∧ i = .int .i64 j ∧ Below w.heap.size w wr ∧ Blk wr b (Wk.zero.cells none) 61 ∧ Blk wr q (Wk.zero.cells none) 61) (fun i _ => k - (intOf i).toNat)
  case atStart => exact ⟨0, Nat.zero_le _, rfl, B3.out, X3.out, Q3.out⟩
  case round =>
    clear B3 X3 Q3
    obtain ⟨j, hj, rfl, hb, hx, hq⟩ := hrel
    have B := Lib.hid hb
    have X := Lib.hid hx
    have Q := Lib.hid hq
    have HJ := Lib.hid hj
    clear hb hx hq hj
    by_cases hlt : j < k
    · have HLT := Lib.hid hlt
      have j1 : (j : Int) < (k : Int) := by omega
      have wj : IntKind.i64.wrap ((j : Int) + 1) = ((j + 1 : Nat) : Int) := IntWalk.i64_in _ (by have := HK.out; omega)
      clear hlt
      go_wp2_with fail
      refine (sstep_nil wr).mono ?_
      rintro e w4 ⟨rfl, bw⟩
      have B4 := Lib.hid (B.out.trans (bw.mono B.out.size))
      have X4 := Lib.hid (X.out.below bw)
      have Q4 := Lib.hid (Q.out.below bw)
      clear bw B X Q
      go_wp2_with fail
      refine (sstep_end X4.out (fun w' _ => mlen_nil w') (Nat.le_refl _)).mono ?_
      rintro e w5 ⟨rfl, bw⟩
      have B5 := Lib.hid (B4.out.trans (bw.mono B4.out.size))
      have X5 := Lib.hid (X4.out.below bw)
      have Q5 := Lib.hid (Q4.out.below bw)
      clear bw B4 X4 Q4
      go_wp2_with fail
      refine (sstep_end Q5.out (fun w' _ => mlen_nil w') (Nat.le_refl _)).mono ?_
      rintro e w6 ⟨rfl, bw⟩
      have B6 := Lib.hid (B5.out.trans (bw.mono B5.out.size))
      have X6 := Lib.hid (X5.out.below bw)
      have Q6 := Lib.hid (Q5.out.below bw)
      clear bw B5 X5 Q5
      go_wp2_with fail
      go_roundw
      case rel => exact ⟨j + 1, HLT.out, by go_num, B6.out, X6.out, Q6.out⟩
      case measure => (have := HLT.out; simp [intOf]; omega)
    · obtain rfl : j = k := by have := HJ.out; omega
      have j1 : ¬ (j : Int) < (j : Int) := by omega
      clear hlt
      have HZ := Lib.hid (show Wk.zero.rep = #[.int .i64 0, .int .i64 0, .int .i64 0] from rfl)
      have HE := Lib.hid (eq_rep 0 0 0 0 0 0)
      have he := HE.out
      go_wp2_with fail
      refine (sall_nil wr).mono ?_
      rintro e w4 ⟨rfl, bw⟩
      have B4 := Lib.hid (B.out.trans (bw.mono B.out.size))
      have X4 := Lib.hid (X.out.below bw)
      have Q4 := Lib.hid (Q.out.below bw)
      clear bw B X Q
      rw [HZ.out]
      go_wp2_with fail
      refine (sreport_nil w4).mono ?_
      rintro e w5 ⟨rfl, bw⟩
      have B5 := Lib.hid (B4.out.trans (bw.mono B4.out.size))
      have X5 := Lib.hid (X4.out.below bw)
      have Q5 := Lib.hid (Q4.out.below bw)
      clear bw B4 X4 Q4
      rw [HZ.out]
      go_wp2_with fail
      refine (sreport_any X5.out).mono ?_
      rintro e w6 ⟨rfl, bw⟩
      have B6 := Lib.hid (B5.out.trans (bw.mono B5.out.size))
      have Q6 := Lib.hid (Q5.out.below bw)
      clear bw B5 X5 Q5
      rw [HZ.out]
      go_wp2_with fail
      refine (sreport_any Q6.out).mono ?_
      rintro e w7 ⟨rfl, bw⟩
      have B7 := Lib.hid (B6.out.trans (bw.mono B6.out.size))
      clear bw B6 Q6
      rw [HZ.out]
      go_wp2_with fail
      go_ret
      exact ⟨rfl, B7.out⟩
theorem scrubNone_own : ownKnob Try.prog.godebug = none := by kernel_rfl
theorem scrubNone_laid : laidOutB Try.prog = true := by kernel_rfl

set_option maxRecDepth 100000 in
theorem scrubNone_lifted (os : Os) (started : os.Started) (H : Type) (enc : TypeId × Value → H) :
    ReturnsInHanded {} Try.checked os 9 .any (Rows.scrubNoneSpec.pre6 enc Try.prog Try.f9 Rows.scrubNoneRow.domain false) (Rows.scrubNoneSpec.post enc Try.prog Try.f9 false true false false) := by
  refine returnsInHanded_of_change (C := Try.checked) scrubNone_own started (by kernel_rfl) Try.func9
    (ChangeSpec.witness6 (enc := enc) (C := Try.checked) false ⟨#[], #[.int .u8 0], []⟩ 8 (by kernel_rfl) (by kernel_rfl) (by kernel_rfl) (by kernel_rfl)) ?_
  intro W base args ds gs before hval0 hW _ _
  have hval : ∀ (j : Nat) t v, Try.f9.params[j]? = some t → args[j]? = some v → Value.okWide Try.prog W .any base t v := hval0
  have hW' := hW
  obtain ⟨p, q, hA0, hV, rfl, hfz, hnd⟩ := hW
  have hA : DataW.TrodAll enc Try.prog W 0 (fun _ => true) true Try.f9.params.toList args.toList ds p := hA0
  rw [Try.params9] at hA hval
  obtain ⟨v0, vs0, d0, ds0, p0, q0, hargs, rfl, rfl, h0, r0⟩ := trodAll_cons hA
  obtain ⟨rfl, rfl, rfl⟩ := trodAll_nil r0
  obtain rfl : args = #[v0] := by cases args; simp_all
  obtain ⟨rfl, rfl⟩ := trodVars_none hV
  obtain ⟨a0, rfl, rfl, rfl, w0⟩ := open_int Try.underlying5 (hval 0 5 v0 rfl rfl) h0
  have b0 := bounds_u8 w0
  clear hA0 hval0
  refine (scrubNone_any W a0 b0).mono fun e W' ⟨he, bel⟩ => ?_
  subst he
  exact ⟨_, rfl, _, _, _, [], _, [], hW', trodAll_mk1 (shut_bool Try.underlying4 _), (trodAll_cons_mk (shut_int Try.underlying5 w0) trodAll_mk0), rfl, bel.frame _, fun h => by cases h⟩

theorem scrubNone_holds : Rows.ScrubNoneSaid :=
  OpenClaim.holds_of_wide 9 Try.f9 rfl rfl rfl rfl rfl rfl rfl ⟨rfl, rfl, rfl, rfl, rfl⟩ rfl rfl rfl rfl rfl (by kernel_rfl) Try.func9 (by kernel_rfl)
    (of_decide_eq_true (by kernel_rfl)) (by unfold Func.isWrapper; rw [if_neg (of_decide_eq_false (by kernel_rfl))]; exact ⟨rfl, rfl⟩)
    (fun os started H enc _ => scrubNone_lifted os started H enc)

#print axioms scrubNone_holds

end Go.Proofs.Ytniamllcoemikaa
