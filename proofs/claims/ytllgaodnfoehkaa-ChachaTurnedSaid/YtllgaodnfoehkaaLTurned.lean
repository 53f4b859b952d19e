/-
  ChachaTurned holds: of every state and every count the law returns true, and its arguments read as they did.
-/
import Derived.Test.YtllgaodnfoehkaaAwake
import Derived.Test.YtllgaodnfoehkaaTurned
import Derived.Test.YtllgaodnfoehkaaLRounds
import Derived.Test.YtllgaodnfoehkaaOpenA
import Derived.ProofKit
import Derived.OpenShut
import Derived.ShutString
import Derived.ChangeOld
namespace Go.Proofs.Ytllgaodnfoehkaa
open Go.RowKit Go.ChangeShapes Go.WideShapes Go.ChangeAt
set_option maxHeartbeats 800000 in
theorem chachaTurned_any (w : World) (s : List UInt32) (hs : s.length = 16) (b : Int) (hb : 0 ≤ b ∧ b ≤ 255) :
    Calls Try.prog 6 #[.agg (uv s), .int .u8 b] w (RetB (.bool true) w) := by
  obtain ⟨hb0, hb1⟩ := hb
  obtain ⟨N, hN'⟩ : ∃ N : Nat, b % 4 = (N : Int) := ⟨(b % 4).toNat, by omega⟩
  have hN : N < 4 := by omega
  have HI : Hid ((Try.prog.info? 30).map (·.size) = some (uv s).size) := by rw [uv_size, hs]; exact info30
  have heq : ∀ W, (Op.equalIn 10000 30 (.agg (uv (rounds (turnL s N)))) (.agg (uv (turnL (rounds s) N)))).run Try.prog W = .ok true W := fun W => by
    rw [rounds_turn hN s hs]; exact eq_state _ (turnL_length _ _) W
  go_enter Try.func6, Try.ntmps6
  go_wp2_with fail
  refine (awake_any _).mono ?_
  rintro e w1 ⟨rfl, bw1⟩
  have B1 : Blk w1 w.heap.size (uv s) 30 := Blk.below (heap_alloc_new _ _) bw1
  have B2 : Below w.heap.size w w1 := ((Below.refl _ _).alloc (Nat.le_refl _) _).trans (bw1.mono (by simp))
  have G1 := Lib.hid B1
  have G2 := Lib.hid B2
  clear B1 B2 bw1
  go_wp2_with fail
  refine wp_region_held_drew (S := fun w' => Blk w' w.heap.size (uv s) 30 ∧ Below w.heap.size w w') (by kernel_rfl) ⟨G1.out, G2.out.drew⟩ (fun hh => ?_)
  have HH := Lib.hid hh
  clear hh
  refine wpAnyH_take (i := 0) (v := .agg (uv s)) rfl (by kernel_rfl) (by kernel_rfl) (by kernel_rfl) (fun _ _ _ h => h) (Or.inl ⟨by rfl, fun w' hw' => ?y0⟩) HH.out ?_
  case y0 => exact exec_load 30 (.tmp 2) rfl rfl hw'.1 Try.underlying30 rfl HI.out
  refine wpAnyH_take (i := 1) (v := ?v1) rfl (by kernel_rfl) (by kernel_rfl) (by kernel_rfl) (fun _ _ _ h => h) (Or.inl ⟨by rfl, fun w' _ => ?y1⟩) HH.out ?_
  case y1 => (go_simp; try with_reducible rfl)
  refine wpAnyH_take (i := 4) (v := .agg (uv s)) rfl (by kernel_rfl) (by kernel_rfl) (by kernel_rfl) (fun _ _ _ h => h) (Or.inl ⟨by rfl, fun w' hw' => ?y4⟩) HH.out ?_
  case y4 => exact exec_load 30 (.tmp 2) rfl rfl hw'.1 Try.underlying30 rfl HI.out
  refine wpAnyH_take (i := 6) (v := ?v6) rfl (by kernel_rfl) (by kernel_rfl) (by kernel_rfl) (fun _ _ _ h => h) (Or.inl ⟨by rfl, fun w' _ => ?y6⟩) HH.out ?_
  case y6 => (go_simp; try with_reducible rfl)
  refine wpAnyH_ready (rs := [2]) (by kernel_rfl) (by simp) (AllReadyH.cons rfl (fun K hK => ?_) AllReadyH.nil)
  go_simp
  refine (turned_any s hs N hN _).mono ?_
  rintro e w2 ⟨rfl, bw2⟩
  go_simp
  refine hK.out _ _ ⟨HH.out.1.below bw2, HH.out.2.trans (bw2.mono HH.out.2.size)⟩ (fun hh => ?_)
  have HH' := Lib.hid hh
  clear hh hK K HH bw2
  have HH := Lib.hid HH'.out
  clear HH'
  refine wpAnyH_ready (rs := [3]) (by kernel_rfl) (by simp) (AllReadyH.cons rfl (fun K hK => ?_) AllReadyH.nil)
  go_simp
  refine (rounds_any (turnL s N) (turnL_length _ _) _).mono ?_
  rintro e w3 ⟨rfl, bw3⟩
  go_simp
  refine hK.out _ _ ⟨HH.out.1.below bw3, HH.out.2.trans (bw3.mono HH.out.2.size)⟩ (fun hh => ?_)
  have HH' := Lib.hid hh
  clear hh hK K HH bw3
  have HH := Lib.hid HH'.out
  clear HH'
  refine wpAnyH_ready (rs := [5]) (by kernel_rfl) (by simp) (AllReadyH.cons rfl (fun K hK => ?_) AllReadyH.nil)
  go_simp
  refine (rounds_any s hs _).mono ?_
  rintro e w4 ⟨rfl, bw4⟩
  go_simp
  refine hK.out _ _ ⟨HH.out.1.below bw4, HH.out.2.trans (bw4.mono HH.out.2.size)⟩ (fun hh => ?_)
  have HH' := Lib.hid hh
  clear hh hK K HH bw4
  have HH := Lib.hid HH'.out
  clear HH'
  refine wpAnyH_ready (rs := [7]) (by kernel_rfl) (by simp) (AllReadyH.cons rfl (fun K hK => ?_) AllReadyH.nil)
  go_simp
  refine (turned_any (rounds s) (by rw [rounds_length, hs]) N hN _).mono ?_
  rintro e w5 ⟨rfl, bw5⟩
  go_simp
  refine hK.out _ _ ⟨HH.out.1.below bw5, HH.out.2.trans (bw5.mono HH.out.2.size)⟩ (fun hh => ?_)
  have HH' := Lib.hid hh
  clear hh hK K HH bw5
  have HH := Lib.hid HH'.out
  clear HH'
  refine wpAnyH_take (i := 8) (v := ?v8) rfl (by kernel_rfl) (by kernel_rfl) (by kernel_rfl) (fun _ _ _ h => h) (Or.inl ⟨by rfl, fun w' _ => ?y8⟩) HH.out ?_
  case y8 => (go_simp; try with_reducible rfl)
  refine wpAnyH_take (i := 9) (v := ?v9) rfl (by kernel_rfl) (by kernel_rfl) (by kernel_rfl) (fun _ _ _ h => h) (Or.inl ⟨by rfl, fun w' _ => ?y9⟩) HH.out ?_
  case y9 => (go_simp; try with_reducible rfl)
  refine wpAnyH_done (by kernel_rfl) ?_ _
  go_wp2
  go_ret
  exact ⟨rfl, HH.out.2⟩
theorem chachaTurned_own : ownKnob Try.prog.godebug = none := by kernel_rfl
theorem chachaTurned_laid : laidOutB Try.prog = true := by kernel_rfl

set_option maxRecDepth 100000 in
theorem chachaTurned_lifted (os : Os) (started : os.Started) (H : Type) (enc : TypeId × Value → H) :
    ReturnsInHanded {} Try.checked os 6 .any (Rows.chachaTurnedSpec.pre6 enc Try.prog Try.f6 Rows.chachaTurnedRow.domain false) (Rows.chachaTurnedSpec.post enc Try.prog Try.f6 false true false false) := by
  refine returnsInHanded_of_change (C := Try.checked) chachaTurned_own started (by kernel_rfl) Try.func6
    (ChangeSpec.witness6 (enc := enc) (C := Try.checked) false ⟨#[], #[.agg #[.int .u32 0, .int .u32 0, .int .u32 0, .int .u32 0, .int .u32 0, .int .u32 0, .int .u32 0, .int .u32 0, .int .u32 0, .int .u32 0, .int .u32 0, .int .u32 0, .int .u32 0, .int .u32 0, .int .u32 0, .int .u32 0], .int .u8 0], []⟩ 8 (by kernel_rfl) (by kernel_rfl) (by kernel_rfl) (by kernel_rfl)) ?_
  intro W base args ds gs before hval0 hW _ _
  have hval : ∀ (j : Nat) t v, Try.f6.params[j]? = some t → args[j]? = some v → Value.okWide Try.prog W .any base t v := hval0
  have hW' := hW
  obtain ⟨p, q, hA0, hV, rfl, hfz, hnd⟩ := hW
  have hA : DataW.TrodAll enc Try.prog W 0 (fun _ => true) true Try.f6.params.toList args.toList ds p := hA0
  rw [Try.params6] at hA hval
  obtain ⟨v0, vs0, d0, ds0, p0, q0, hargs, rfl, rfl, h0, r0⟩ := trodAll_cons hA
  obtain ⟨v1, vs1, d1, ds1, p1, q1, rfl, rfl, rfl, h1, r1⟩ := trodAll_cons r0
  obtain ⟨rfl, rfl, rfl⟩ := trodAll_nil r1
  obtain rfl : args = #[v0, v1] := by cases args; simp_all
  obtain ⟨rfl, rfl⟩ := trodVars_none hV
  have lt0 : ∀ x ∈ p0, x.block < W.heap.size := by obtain ⟨m, hm⟩ := h0; exact DataW.trod_lt m _ _ _ hm
  obtain ⟨l0, hl0, rfl⟩ := open_u32s Try.underlying30 Try.underlying22 (by kernel_rfl) (by kernel_rfl) (hval 0 30 v0 rfl rfl) h0
  obtain ⟨a1, rfl, rfl, rfl, w1⟩ := open_int Try.underlying5 (hval 1 5 v1 rfl rfl) h1
  have b1 := bounds_u8 w1
  clear hA0 hval0
  refine (chachaTurned_any W l0 hl0 a1 b1).mono fun e W' ⟨he, bel⟩ => ?_
  subst he
  exact ⟨_, rfl, _, _, _, [], _, [], hW', trodAll_mk1 (shut_bool Try.underlying4 _), (trodAll_cons_mk (Below.trod chachaTurned_laid (by kernel_rfl) (of_decide_eq_true (by kernel_rfl)) h0 bel lt0) (trodAll_cons_mk (shut_int Try.underlying5 w1) trodAll_mk0)), rfl, bel.frame _, fun h => by cases h⟩

theorem chachaTurned_holds : Rows.ChachaTurnedSaid :=
  OpenClaim.holds_of_wide 6 Try.f6 rfl rfl rfl rfl rfl rfl rfl ⟨rfl, rfl, rfl, rfl, rfl⟩ rfl rfl rfl rfl rfl (by kernel_rfl) Try.func6 (by kernel_rfl)
    (of_decide_eq_true (by kernel_rfl)) (by unfold Func.isWrapper; rw [if_neg (of_decide_eq_false (by kernel_rfl))]; exact ⟨rfl, rfl⟩)
    (fun os started H enc _ => chachaTurned_lifted os started H enc)

#print axioms chachaTurned_holds

end Go.Proofs.Ytllgaodnfoehkaa
