/-
  ShaCompress holds: of every words and every block the law returns true, and its arguments read as they did.
-/
import Derived.Test.YtdemfaolkmillaaShRComp
import Derived.Test.YtdemfaolkmillaaShComp
import Derived.Test.YtdemfaolkmillaaShEq
import Derived.Test.YtdemfaolkmillaaShAwake
import Derived.Test.YtdemfaolkmillaaOpen
import Derived.Test.YtdemfaolkmillaaOpenA
import Derived.ProofKit
import Derived.OpenShut
import Derived.ShutString
import Derived.ChangeOld
namespace Go.Proofs.Ytdemfaolkmillaa
open Go.RowKit Go.ChangeShapes Go.WideShapes Go.ChangeAt
attribute [local go_sem ↓] Go.wp_at_zero Go.wp_at_succ
set_option maxHeartbeats 1600000 in
theorem shaCompress_any (w : World) (s : List UInt32) (hs : s.length = 8) (blk : List UInt8) (hk : blk.length = 64) :
    Calls Try.prog 3 #[.agg (uv s), .agg (bva blk)] w (RetB (.bool true) w) := by
  have hb : Below w.heap.size w ((w.alloc (.cells (uv s) 23)).alloc (.cells (bva blk) 24)) := ((Below.refl _ _).alloc (Nat.le_refl _) _).alloc (by simp) _
  have HS := Lib.hid hs
  have HK := Lib.hid hk
  have HI : Hid ((Try.prog.info? 23).map (·.size) = some (uv s).size) := by rw [uv_size, hs]; exact info28
  have HJ : Hid ((Try.prog.info? 24).map (·.size) = some (bva blk).size) := by rw [bva_size, hk]; exact info29
  obtain ⟨x, hx⟩ : ∃ x, x = compL s blk := ⟨_, rfl⟩
  have heq := eq_words x (by rw [hx, compL_length, hs])
  have HX := Lib.hid hx
  obtain ⟨b1, b2⟩ : Blk ((w.alloc (.cells (uv s) 23)).alloc (.cells (bva blk) 24)) w.heap.size (uv s) 23 ∧ Blk ((w.alloc (.cells (uv s) 23)).alloc (.cells (bva blk) 24)) (w.heap.size + 1) (bva blk) 24 := ⟨heap_alloc2_old _ _ _, heap_alloc2_new _ _ _⟩
  have B1 := Lib.hid b1
  have B2 := Lib.hid b2
  have BB := Lib.hid hb
  clear hs hk b1 b2 hb hx
  go_enter Try.func3, Try.ntmps3
  go_wp2_with fail
  refine (awake_any _).mono ?_
  rintro e w1 ⟨rfl, bw⟩
  have d1 := B1.out.below bw
  have d2 := B2.out.below bw
  have d3 := BB.out.trans (bw.mono BB.out.size)
  have HS0 := Lib.hid (show Blk w1.drew w.heap.size (uv s) 23 ∧ Blk w1.drew (w.heap.size + 1) (bva blk) 24 ∧ Below w.heap.size w w1.drew from ⟨d1, d2, d3.drew⟩)
  clear d1 d2 d3 bw B1 B2 BB
  go_wp2_with fail
  refine wp_region_held_drew (S := fun w' => Blk w' w.heap.size (uv s) 23 ∧ Blk w' (w.heap.size + 1) (bva blk) 24 ∧ Below w.heap.size w w') (by kernel_rfl) HS0.out (fun hh => ?_)
  have HH := Lib.hid hh
  clear hh HS0
  refine wpAnyH_take (i := 0) (v := .agg (uv s)) rfl (by kernel_rfl) (by kernel_rfl) (by kernel_rfl) (fun _ _ _ h => h) (Or.inl ⟨by rfl, fun w' hw' => ?y0⟩) HH.out ?_
  case y0 => exact exec_load 23 (.tmp 2) rfl rfl hw'.1 Try.underlying23 rfl HI.out
  refine wpAnyH_take (i := 1) (v := .agg (bva blk)) rfl (by kernel_rfl) (by kernel_rfl) (by kernel_rfl) (fun _ _ _ h => h) (Or.inl ⟨by rfl, fun w' hw' => ?y1⟩) HH.out ?_
  case y1 => exact exec_load 24 (.tmp 3) rfl rfl hw'.2.1 Try.underlying24 rfl HJ.out
  refine wpAnyH_take (i := 3) (v := .agg (uv s)) rfl (by kernel_rfl) (by kernel_rfl) (by kernel_rfl) (fun _ _ _ h => h) (Or.inl ⟨by rfl, fun w' hw' => ?y3⟩) HH.out ?_
  case y3 => exact exec_load 23 (.tmp 2) rfl rfl hw'.1 Try.underlying23 rfl HI.out
  refine wpAnyH_take (i := 4) (v := .agg (bva blk)) rfl (by kernel_rfl) (by kernel_rfl) (by kernel_rfl) (fun _ _ _ h => h) (Or.inl ⟨by rfl, fun w' hw' => ?y4⟩) HH.out ?_
  case y4 => exact exec_load 24 (.tmp 3) rfl rfl hw'.2.1 Try.underlying24 rfl HJ.out
  refine wpAnyH_ready (rs := [2]) (by kernel_rfl) (by simp) (AllReadyH.cons rfl (fun K hK => ?_) AllReadyH.nil)
  go_simp
  refine (compress_any s blk HS.out HK.out _).mono ?_
  rintro e w2 ⟨rfl, bw⟩
  rw [← HX.out]
  go_simp
  refine hK.out _ _ ⟨HH.out.1.below bw, HH.out.2.1.below bw, HH.out.2.2.trans (bw.mono HH.out.2.2.size)⟩ (fun hh => ?_)
  have HH' := Lib.hid hh
  clear hh hK K HH bw
  have HH := Lib.hid HH'.out
  clear HH'
  refine wpAnyH_ready (rs := [5]) (by kernel_rfl) (by simp) (AllReadyH.cons rfl (fun K hK => ?_) AllReadyH.nil)
  go_simp
  refine (rcompress_any s blk HS.out HK.out _).mono ?_
  rintro e w3 ⟨rfl, bw⟩
  rw [← HX.out]
  go_simp
  refine hK.out _ _ ⟨HH.out.1.below bw, HH.out.2.1.below bw, HH.out.2.2.trans (bw.mono HH.out.2.2.size)⟩ (fun hh => ?_)
  have HH' := Lib.hid hh
  clear hh hK K HH bw
  have HH := Lib.hid HH'.out
  clear HH'
  refine wpAnyH_take (i := 6) (v := ?v6) rfl (by kernel_rfl) (by kernel_rfl) (by kernel_rfl) (fun _ _ _ h => h) (Or.inl ⟨by rfl, fun w' _ => ?y6⟩) HH.out ?_
  case y6 => (go_simp; try with_reducible rfl)
  refine wpAnyH_take (i := 7) (v := ?v7) rfl (by kernel_rfl) (by kernel_rfl) (by kernel_rfl) (fun _ _ _ h => h) (Or.inl ⟨by rfl, fun w' _ => ?y7⟩) HH.out ?_
  case y7 => (go_simp; try with_reducible rfl)
  refine wpAnyH_done (by kernel_rfl) ?_ _
  go_wp2_with fail
  go_ret
  exact ⟨rfl, HH.out.2.2⟩
theorem shaCompress_own : ownKnob Try.prog.godebug = none := by kernel_rfl
theorem shaCompress_laid : laidOutB Try.prog = true := by kernel_rfl

set_option maxRecDepth 100000 in
theorem shaCompress_lifted (os : Os) (started : os.Started) (H : Type) (enc : TypeId × Value → H) :
    ReturnsInHanded {} Try.checked os 3 .any (Rows.shaCompressSpec.pre6 enc Try.prog Try.f3 Rows.shaCompressRow.domain false) (Rows.shaCompressSpec.post enc Try.prog Try.f3 false true false false) := by
  refine returnsInHanded_of_change (C := Try.checked) shaCompress_own started (by kernel_rfl) Try.func3
    (ChangeSpec.witness6 (enc := enc) (C := Try.checked) false ⟨#[], #[.agg #[.int .u32 0, .int .u32 0, .int .u32 0, .int .u32 0, .int .u32 0, .int .u32 0, .int .u32 0, .int .u32 0], .agg #[.int .u8 0, .int .u8 0, .int .u8 0, .int .u8 0, .int .u8 0, .int .u8 0, .int .u8 0, .int .u8 0, .int .u8 0, .int .u8 0, .int .u8 0, .int .u8 0, .int .u8 0, .int .u8 0, .int .u8 0, .int .u8 0, .int .u8 0, .int .u8 0, .int .u8 0, .int .u8 0, .int .u8 0, .int .u8 0, .int .u8 0, .int .u8 0, .int .u8 0, .int .u8 0, .int .u8 0, .int .u8 0, .int .u8 0, .int .u8 0, .int .u8 0, .int .u8 0, .int .u8 0, .int .u8 0, .int .u8 0, .int .u8 0, .int .u8 0, .int .u8 0, .int .u8 0, .int .u8 0, .int .u8 0, .int .u8 0, .int .u8 0, .int .u8 0, .int .u8 0, .int .u8 0, .int .u8 0, .int .u8 0, .int .u8 0, .int .u8 0, .int .u8 0, .int .u8 0, .int .u8 0, .int .u8 0, .int .u8 0, .int .u8 0, .int .u8 0, .int .u8 0, .int .u8 0, .int .u8 0, .int .u8 0, .int .u8 0, .int .u8 0, .int .u8 0]], []⟩ 8 (by kernel_rfl) (by kernel_rfl) (by kernel_rfl) (by kernel_rfl)) ?_
  intro W base args ds gs before hval0 hW _ _
  have hval : ∀ (j : Nat) t v, Try.f3.params[j]? = some t → args[j]? = some v → Value.okWide Try.prog W .any base t v := hval0
  have hW' := hW
  obtain ⟨p, q, hA0, hV, rfl, hfz, hnd⟩ := hW
  have hA : DataW.TrodAll enc Try.prog W 0 (fun _ => true) true Try.f3.params.toList args.toList ds p := hA0
  rw [Try.params3] at hA hval
  obtain ⟨v0, vs0, d0, ds0, p0, q0, hargs, rfl, rfl, h0, r0⟩ := trodAll_cons hA
  obtain ⟨v1, vs1, d1, ds1, p1, q1, rfl, rfl, rfl, h1, r1⟩ := trodAll_cons r0
  obtain ⟨rfl, rfl, rfl⟩ := trodAll_nil r1
  obtain rfl : args = #[v0, v1] := by cases args; simp_all
  obtain ⟨rfl, rfl⟩ := trodVars_none hV
  have lt0 : ∀ x ∈ p0, x.block < W.heap.size := by obtain ⟨m, hm⟩ := h0; exact DataW.trod_lt m _ _ _ hm
  obtain ⟨l0, hl0, rfl⟩ := open_u32s Try.underlying23 Try.underlying22 (by kernel_rfl) (by kernel_rfl) (hval 0 23 v0 rfl rfl) h0
  have lt1 : ∀ x ∈ p1, x.block < W.heap.size := by obtain ⟨m, hm⟩ := h1; exact DataW.trod_lt m _ _ _ hm
  obtain ⟨l1, hl1, rfl⟩ := open_u8s Try.underlying24 Try.underlying5 (by kernel_rfl) (by kernel_rfl) (hval 1 24 v1 rfl rfl) h1
  clear hA0 hval0
  refine (shaCompress_any W l0 hl0 l1 hl1).mono fun e W' ⟨he, bel⟩ => ?_
  subst he
  exact ⟨_, rfl, _, _, _, [], _, [], hW', trodAll_mk1 (shut_bool Try.underlying4 _), (trodAll_cons_mk (Below.trod shaCompress_laid (by kernel_rfl) (of_decide_eq_true (by kernel_rfl)) h0 bel lt0) (trodAll_cons_mk (Below.trod shaCompress_laid (by kernel_rfl) (of_decide_eq_true (by kernel_rfl)) h1 bel lt1) trodAll_mk0)), rfl, bel.frame _, fun h => by cases h⟩

theorem shaCompress_holds : Rows.ShaCompressSaid :=
  OpenClaim.holds_of_wide 3 Try.f3 rfl rfl rfl rfl rfl rfl rfl ⟨rfl, rfl, rfl, rfl, rfl⟩ rfl rfl rfl rfl rfl (by kernel_rfl) Try.func3 (by kernel_rfl)
    (of_decide_eq_true (by kernel_rfl)) (by unfold Func.isWrapper; rw [if_neg (of_decide_eq_false (by kernel_rfl))]; exact ⟨rfl, rfl⟩)
    (fun os started H enc _ => shaCompress_lifted os started H enc)

#print axioms shaCompress_holds

end Go.Proofs.Ytdemfaolkmillaa
