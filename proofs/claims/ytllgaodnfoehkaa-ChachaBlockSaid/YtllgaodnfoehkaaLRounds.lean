/-
  ChachaRounds holds: of every state the law returns true, and its argument reads as it did.
-/
import Derived.Test.YtllgaodnfoehkaaAwake
import Derived.Test.YtllgaodnfoehkaaRounds
import Derived.Test.YtllgaodnfoehkaaRRounds
import Derived.Test.YtllgaodnfoehkaaEqSelf
import Derived.Test.YtllgaodnfoehkaaBlock
import Derived.Deep.RegionHeld
import Derived.Test.YtllgaodnfoehkaaOpenA
import Derived.ProofKit
import Derived.OpenShut
import Derived.ShutString
import Derived.ChangeOld
namespace Go.Proofs.Ytllgaodnfoehkaa
open Go.RowKit Go.ChangeShapes Go.WideShapes Go.ChangeAt
theorem uv_nums (s : List UInt32) : ∀ i (h : i < (uv s).size), ∃ z, (uv s)[i] = .int .u32 z := fun i h => by
  rw [uv_size] at h
  exact ⟨(s[i].toNat : Int), by simp [uv]⟩
theorem bva_nums (s : List UInt8) : ∀ i (h : i < (bva s).size), ∃ z, (bva s)[i] = .int .u8 z := fun i h => by
  rw [bva_size] at h
  exact ⟨(s[i].toNat : Int), by simp [bva, bv]⟩
theorem info22 : (Try.prog.info? 22).isSome = true := by kernel_rfl
theorem info5s : (Try.prog.info? 5).isSome = true := by kernel_rfl
theorem eq_state (s : List UInt32) (hs : s.length = 16) (w : World) : (Op.equalIn 10000 30 (.agg (uv s)) (.agg (uv s))).run Try.prog w = .ok true w := by
  obtain ⟨i, hi⟩ := Option.isSome_iff_exists.1 info22
  exact run_equal_self w Try.underlying30 Try.underlying22 hi (by kernel_rfl) (uv s) (by rw [uv_size, hs]) (uv_nums s)
theorem eq_block (s : List UInt8) (hs : s.length = 64) (w : World) : (Op.equalIn 10000 38 (.agg (bva s)) (.agg (bva s))).run Try.prog w = .ok true w := by
  obtain ⟨i, hi⟩ := Option.isSome_iff_exists.1 info5s
  exact run_equal_self w Try.underlying38 Try.underlying5 hi (by kernel_rfl) (bva s) (by rw [bva_size, hs]) (bva_nums s)
set_option maxHeartbeats 400000 in
theorem chachaRounds_any (w : World) (s : List UInt32) (hs : s.length = 16) :
    Calls Try.prog 5 #[.agg (uv s)] w (RetB (.bool true) w) := by
  have HI : Hid ((Try.prog.info? 30).map (·.size) = some (uv s).size) := by rw [uv_size, hs]; exact info30
  have heq := eq_state (rounds s) (by rw [rounds_length, hs])
  go_enter Try.func5, Try.ntmps5
  go_wp2
  refine wp_region_held_drew (S := fun w' => Blk w' w.heap.size (uv s) 30 ∧ Below w.heap.size w w') (by kernel_rfl) ⟨heap_alloc_new _ _, ((Below.refl _ _).alloc (Nat.le_refl _) _).drew⟩ (fun hh => ?_)
  have HH := Lib.hid hh
  clear hh
  refine wpAnyH_ready (rs := [0]) (by kernel_rfl) (by simp) (AllReadyH.cons rfl (fun K hK => ?_) AllReadyH.nil)
  go_simp
  refine (awake_any _).mono ?_
  rintro e w1 ⟨rfl, bw1⟩
  go_simp
  refine hK.out _ _ ⟨HH.out.1.below bw1, HH.out.2.trans (bw1.mono HH.out.2.size)⟩ (fun hh => ?_)
  have HH' := Lib.hid hh
  clear hh hK K HH bw1
  have HH := Lib.hid HH'.out
  clear HH'
  refine wpAnyH_take (i := 1) (v := ?v1) rfl (by kernel_rfl) (by kernel_rfl) (by kernel_rfl) (fun _ _ _ h => h) (Or.inl ⟨by rfl, fun w' _ => ?y1⟩) HH.out ?_
  case y1 => (go_simp; try with_reducible rfl)
  refine wpAnyH_take (i := 2) (v := .agg (uv s)) rfl (by kernel_rfl) (by kernel_rfl) (by kernel_rfl) (fun _ _ _ h => h) (Or.inl ⟨by rfl, fun w' hw' => ?y2⟩) HH.out ?_
  case y2 => exact exec_load 30 (.tmp 1) rfl rfl hw'.1 Try.underlying30 rfl HI.out
  refine wpAnyH_take (i := 4) (v := .agg (uv s)) rfl (by kernel_rfl) (by kernel_rfl) (by kernel_rfl) (fun _ _ _ h => h) (Or.inl ⟨by rfl, fun w' hw' => ?y4⟩) HH.out ?_
  case y4 => exact exec_load 30 (.tmp 1) rfl rfl hw'.1 Try.underlying30 rfl HI.out
  refine wpAnyH_ready (rs := [3]) (by kernel_rfl) (by simp) (AllReadyH.cons rfl (fun K hK => ?_) AllReadyH.nil)
  go_simp
  refine (rounds_any s hs _).mono ?_
  rintro e w2 ⟨rfl, bw2⟩
  go_simp
  refine hK.out _ _ ⟨HH.out.1.below bw2, HH.out.2.trans (bw2.mono HH.out.2.size)⟩ (fun hh => ?_)
  have HH' := Lib.hid hh
  clear hh hK K HH bw2
  have HH := Lib.hid HH'.out
  clear HH'
  refine wpAnyH_ready (rs := [5]) (by kernel_rfl) (by simp) (AllReadyH.cons rfl (fun K hK => ?_) AllReadyH.nil)
  go_simp
  refine (rrounds_any s hs _).mono ?_
  rintro e w3 ⟨rfl, bw3⟩
  go_simp
  refine hK.out _ _ ⟨HH.out.1.below bw3, HH.out.2.trans (bw3.mono HH.out.2.size)⟩ (fun hh => ?_)
  have HH' := Lib.hid hh
  clear hh hK K HH bw3
  have HH := Lib.hid HH'.out
  clear HH'
  refine wpAnyH_take (i := 6) (v := ?v6) rfl (by kernel_rfl) (by kernel_rfl) (by kernel_rfl) (fun _ _ _ h => h) (Or.inl ⟨by rfl, fun w' _ => ?y6⟩) HH.out ?_
  case y6 => (go_simp; try with_reducible rfl)
  refine wpAnyH_take (i := 7) (v := ?v7) rfl (by kernel_rfl) (by kernel_rfl) (by kernel_rfl) (fun _ _ _ h => h) (Or.inl ⟨by rfl, fun w' _ => ?y7⟩) HH.out ?_
  case y7 => (go_simp; try with_reducible rfl)
  refine wpAnyH_take (i := 8) (v := ?v8) rfl (by kernel_rfl) (by kernel_rfl) (by kernel_rfl) (fun _ _ _ h => h) (Or.inl ⟨by rfl, fun w' _ => ?y8⟩) HH.out ?_
  case y8 => (go_simp; try with_reducible rfl)
  refine wpAnyH_done (by kernel_rfl) ?_ _
  go_wp2
  go_ret
  exact ⟨rfl, HH.out.2⟩
theorem chachaRounds_own : ownKnob Try.prog.godebug = none := by kernel_rfl
theorem chachaRounds_laid : laidOutB Try.prog = true := by kernel_rfl

set_option maxRecDepth 100000 in
theorem chachaRounds_lifted (os : Os) (started : os.Started) (H : Type) (enc : TypeId × Value → H) :
    ReturnsInHanded {} Try.checked os 5 .any (Rows.chachaRoundsSpec.pre6 enc Try.prog Try.f5 Rows.chachaRoundsRow.domain false) (Rows.chachaRoundsSpec.post enc Try.prog Try.f5 false true false false) := by
  refine returnsInHanded_of_change (C := Try.checked) chachaRounds_own started (by kernel_rfl) Try.func5
    (ChangeSpec.witness6 (enc := enc) (C := Try.checked) false ⟨#[], #[.agg #[.int .u32 0, .int .u32 0, .int .u32 0, .int .u32 0, .int .u32 0, .int .u32 0, .int .u32 0, .int .u32 0, .int .u32 0, .int .u32 0, .int .u32 0, .int .u32 0, .int .u32 0, .int .u32 0, .int .u32 0, .int .u32 0]], []⟩ 8 (by kernel_rfl) (by kernel_rfl) (by kernel_rfl) (by kernel_rfl)) ?_
  intro W base args ds gs before hval0 hW _ _
  have hval : ∀ (j : Nat) t v, Try.f5.params[j]? = some t → args[j]? = some v → Value.okWide Try.prog W .any base t v := hval0
  have hW' := hW
  obtain ⟨p, q, hA0, hV, rfl, hfz, hnd⟩ := hW
  have hA : DataW.TrodAll enc Try.prog W 0 (fun _ => true) true Try.f5.params.toList args.toList ds p := hA0
  rw [Try.params5] at hA hval
  obtain ⟨v0, vs0, d0, ds0, p0, q0, hargs, rfl, rfl, h0, r0⟩ := trodAll_cons hA
  obtain ⟨rfl, rfl, rfl⟩ := trodAll_nil r0
  obtain rfl : args = #[v0] := by cases args; simp_all
  obtain ⟨rfl, rfl⟩ := trodVars_none hV
  have lt0 : ∀ x ∈ p0, x.block < W.heap.size := by obtain ⟨m, hm⟩ := h0; exact DataW.trod_lt m _ _ _ hm
  obtain ⟨l0, hl0, rfl⟩ := open_u32s Try.underlying30 Try.underlying22 (by kernel_rfl) (by kernel_rfl) (hval 0 30 v0 rfl rfl) h0
  clear hA0 hval0
  refine (chachaRounds_any W l0 hl0).mono fun e W' ⟨he, bel⟩ => ?_
  subst he
  exact ⟨_, rfl, _, _, _, [], _, [], hW', trodAll_mk1 (shut_bool Try.underlying4 _), (trodAll_cons_mk (Below.trod chachaRounds_laid (by kernel_rfl) (of_decide_eq_true (by kernel_rfl)) h0 bel lt0) trodAll_mk0), rfl, bel.frame _, fun h => by cases h⟩

theorem chachaRounds_holds : Rows.ChachaRoundsSaid :=
  OpenClaim.holds_of_wide 5 Try.f5 rfl rfl rfl rfl rfl rfl rfl ⟨rfl, rfl, rfl, rfl, rfl⟩ rfl rfl rfl rfl rfl (by kernel_rfl) Try.func5 (by kernel_rfl)
    (of_decide_eq_true (by kernel_rfl)) (by unfold Func.isWrapper; rw [if_neg (of_decide_eq_false (by kernel_rfl))]; exact ⟨rfl, rfl⟩)
    (fun os started H enc _ => chachaRounds_lifted os started H enc)

#print axioms chachaRounds_holds

end Go.Proofs.Ytllgaodnfoehkaa
