/-
  Of no cipher there is no tree; of no tree nothing; a zero one has no leaves: for every seed and every number.
-/
import Derived.Test.YtkfcllcdkgnfbaaKtZero
import Derived.Test.YtkfcllcdkgnfbaaRows
import Derived.Test.YtkfcllcdkgnfbaaOpen
import Derived.Test.YtkfcllcdkgnfbaaOpenA
import Derived.ProofKit
import Derived.OpenShut
import Derived.ShutString
import Derived.ChangeOld
namespace Go.Proofs.Ytkfcllcdkgnfbaa
open Go.RowKit Go.ChangeShapes Go.WideShapes Go.ChangeAt
open Kt
attribute [local go_sem ↓] Go.wp_at_zero Go.wp_at_succ
set_option maxRecDepth 100000 in
set_option maxHeartbeats 6400000 in
theorem keytreeNone_any (w : World) (s : List UInt8) (hs : s.length = 32) (b : Int) (_hb : 0 ≤ b ∧ b ≤ 18446744073709551615) :
    Calls Try.prog 10 #[.agg (bva s), .int .u64 b] w (RetB (.bool true) w) := by
  have HS := Lib.hid hs
  have HK : Hid ((Try.prog.info? 23).map (·.size) = some (bva s).size) := by rw [bva_size, hs]; exact info_keyL
  have B1 := Lib.hid (show Blk (w.alloc (.cells (bva s) 23)) w.heap.size (bva s) 23 from heap_alloc_new _ _)
  have BB := Lib.hid (show Below w.heap.size w (w.alloc (.cells (bva s) 23)) from (Below.refl _ _).alloc (Nat.le_refl _) _)
  clear hs
  go_enter Try.func10, Try.ntmps10
  go_wp2_with fail
  refine (ktAwake_any _).mono ?_
  rintro e w1 ⟨rfl, bw⟩
  have C1 := Lib.hid (B1.out.below bw)
  have CB := Lib.hid (BB.out.trans (bw.mono BB.out.size))
  clear bw B1 BB
  obtain ⟨rt, hrt⟩ : ∃ rt : Nd, rt = ⟨0, 0, s⟩ := ⟨_, rfl⟩
  have HRT := Lib.hid hrt
  have HOK : Hid (okS 0 [rt]) := by rw [hrt]; exact okS_root HS.out
  obtain ⟨zz, hzz⟩ : ∃ zz : List UInt8, zz = List.replicate 32 0 := ⟨_, rfl⟩
  have hz23 : ∀ W, (zeroValue 23).run Try.prog W = .ok (.agg (bva zz)) W := fun _ => by rw [hzz]; kernel_rfl
  have ZZ3 : Hid (zz.length = 32) := by show _ = _; rw [hzz]; rfl
  have HZZ := Lib.hid hzz
  clear hrt hzz
  have hzt : ∀ W, (zeroValue 67).run Try.prog W = .ok (.agg #[.nilIface, .slice none 0 0]) W := fun _ => by kernel_rfl
  obtain ⟨x, hx⟩ : ∃ x : Nd, x = ⟨0, 0, s⟩ := ⟨_, rfl⟩
  have hxs : x.s.length = 32 := by rw [hx]; exact HS.out
  have HBS := Lib.hid (show ∀ W, (Instr.build 48 #[(2, .agg (bva s))]).run Try.prog W = .ok (.agg (ndC x)) W from fun W => by rw [hx]; exact build_seed s HS.out W)
  have HXS := Lib.hid hxs
  have HIZ : Hid ((Try.prog.info? 23).map (·.size) = some (bva zz).size) := by rw [bva_size, ZZ3.out]; exact info_keyL
  obtain ⟨ie, hie, hz0, hz1, hz2⟩ := info_parts info_heldW
  have Z2 := Lib.hid (show Zr (w1.alloc (.cells #[.nilIface, .slice none 0 0] 67)) w1.heap.size from heap_alloc_new _ _)
  have C2 := Lib.hid (show Blk (w1.alloc (.cells #[.nilIface, .slice none 0 0] 67)) w.heap.size (bva s) 23 from blk_old1 C1.out)
  have B2 := Lib.hid (show Below w.heap.size w (w1.alloc (.cells #[.nilIface, .slice none 0 0] 67)) from CB.out.alloc CB.out.size _)
  have Z3' := Lib.hid (show Zr ((w1.alloc (.cells #[.nilIface, .slice none 0 0] 67)).alloc (.cells (ndC x) 48)) w1.heap.size from blk_old1 Z2.out)
  have C3 := Lib.hid (show Blk ((w1.alloc (.cells #[.nilIface, .slice none 0 0] 67)).alloc (.cells (ndC x) 48)) w.heap.size (bva s) 23 from blk_old1 C2.out)
  have B3 := Lib.hid (show Below w.heap.size w ((w1.alloc (.cells #[.nilIface, .slice none 0 0] 67)).alloc (.cells (ndC x) 48)) from B2.out.alloc B2.out.size _)
  clear hx hxs C1 CB Z2 B2
  go_wp2_with (first
    | (refine wpList_load_row rfl 23 (.tmp 2) rfl w.heap.size rfl 23 (bva s) (0, 0) _ C2.out Try.underlying23 rfl HK.out ?_)
    | (refine wpList_build rfl 48 #[(2, .tmp 18)] rfl (v := .agg (ndC x)) ?hbld ?_; case hbld => (simp only [List.map_toArray, List.map_cons, List.map_nil]; show (Instr.build 48 #[(2, .agg (bva s))]).run Try.prog _ = _; exact HBS.out _))
    | (refine wpList_buildSlice rfl 40 48 1 #[(0, .tmp 19)] rfl (ndC x) ie _ Try.underlying40 hie hz0 (by rw [hz1]; omega) (by rw [hz1]; omega) (by rw [hz1]; simp only [List.map_toArray, List.map_cons, List.map_nil]; exact one_fill x HXS.out) ?_))
  refine (from_nil _ _).mono ?_
  rintro e v3 ⟨rfl, rfl⟩
  clear C2
  go_wp2_with fail
  refine (from_any (B := 0) none 0 0 [] _ rfl (fun y hy => by simp at hy) (fun y hy => by simp at hy) (Nat.zero_le _) Rd.none (by omega)).mono ?_
  rintro e v4 ⟨⟨_, g2, F2, rfl, ht2, hF2⟩ | ⟨hnot, _⟩, bw⟩
  rotate_left
  · exact absurd trivial hnot
  have HT := Lib.hid ht2
  have KCx101 := Lib.hid (C3.out.below bw)
  have KZx101 := Lib.hid (Z3'.out.below bw)
  have HBx101 := Lib.hid (B3.out.trans (bw.mono B3.out.size))
  clear bw ht2 hF2 C3 Z3' B3
  go_wp2_with fail
  refine (tkey_nil b _).mono ?_
  rintro e v5 ⟨rfl, bw⟩
  rw [keyV_none, ← HZZ.out]
  have KCx102 := Lib.hid (KCx101.out.below bw)
  have KZx102 := Lib.hid (KZx101.out.below bw)
  have HBx102 := Lib.hid (HBx101.out.trans (bw.mono HBx101.out.size))
  have HTx102 := Lib.hid (HT.out.below bw)
  clear bw KCx101 KZx101 HBx101 HT
  go_wp2_with (refine wpList_store_row rfl 23 (.tmp 11) (.tmp 34) rfl v5.heap.size (bva zz) rfl rfl 23 (bva zz) (heap_alloc_new _ _) HIZ.out (by rfl) (bva_one _) ?_
               generalize hwx : World.setRow _ _ _ = wx103
               have EB : Below v5.heap.size v5 wx103 := by rw [← hwx]; exact below_setRow ((Below.refl _ _).alloc (Nat.le_refl _) _) (Nat.le_refl _) _
               have KAxn103 := Lib.hid (show Blk wx103 v5.heap.size (bva zz) 23 by rw [← hwx]; exact setRow_heap _ _ _ _ _ _ (heap_alloc_new _ _))
               have KCx104 := Lib.hid (KCx102.out.below EB)
               have KZx104 := Lib.hid (KZx102.out.below EB)
               have HBx104 := Lib.hid (HBx102.out.trans (EB.mono HBx102.out.size))
               have HTx104 := Lib.hid (HTx102.out.below EB)
               clear hwx EB KCx102 KZx102 HBx102 HTx102)
  rename_i K8 hK8 K7 hK7
  have HK8 := Lib.hid hK8
  clear hK8
  refine (tkey_zero _ b _ KZx104.out).mono ?_
  rintro e v6 ⟨rfl, bw⟩
  rw [keyV_none, ← HZZ.out]
  have KCx105 := Lib.hid (KCx104.out.below bw)
  have KZx105 := Lib.hid (KZx104.out.below bw)
  have HBx105 := Lib.hid (HBx104.out.trans (bw.mono HBx104.out.size))
  have HTx105 := Lib.hid (HTx104.out.below bw)
  have KAx105 := Lib.hid (KAxn103.out.below bw)
  clear bw KCx104 KZx104 HBx104 HTx104 KAxn103
  go_wp2_with (refine wpList_store_row rfl 23 (.tmp 13) (.tmp 39) rfl v6.heap.size (bva zz) rfl rfl 23 (bva zz) (heap_alloc_new _ _) HIZ.out (by rfl) (bva_one _) ?_
               generalize hwx : World.setRow _ _ _ = wx106
               have EB : Below v6.heap.size v6 wx106 := by rw [← hwx]; exact below_setRow ((Below.refl _ _).alloc (Nat.le_refl _) _) (Nat.le_refl _) _
               have KBxn106 := Lib.hid (show Blk wx106 v6.heap.size (bva zz) 23 by rw [← hwx]; exact setRow_heap _ _ _ _ _ _ (heap_alloc_new _ _))
               have KCx107 := Lib.hid (KCx105.out.below EB)
               have KZx107 := Lib.hid (KZx105.out.below EB)
               have HBx107 := Lib.hid (HBx105.out.trans (EB.mono HBx105.out.size))
               have HTx107 := Lib.hid (HTx105.out.below EB)
               have KAx107 := Lib.hid (KAx105.out.below EB)
               clear hwx EB KCx105 KZx105 HBx105 HTx105 KAx105)
  try simp only [Act.put, List.setIfInBounds_toArray, List.set_cons_zero, List.set_cons_succ]
  refine HK8.out _ _ ?_
  dsimp only [List.append]
  go_wp2_with (refine wpList_load_row rfl 23 (.tmp 2) rfl w.heap.size rfl 23 (bva s) (0, 0) _ KCx107.out Try.underlying23 rfl HK.out ?_)
  refine (new_nil s HS.out _).mono ?_
  rintro e v7 ⟨rfl, bw⟩
  have KCx108 := Lib.hid (KCx107.out.below bw)
  have KZx108 := Lib.hid (KZx107.out.below bw)
  have HBx108 := Lib.hid (HBx107.out.trans (bw.mono HBx107.out.size))
  have HTx108 := Lib.hid (HTx107.out.below bw)
  clear bw KCx107 KZx107 HBx107 HTx107
  go_wp2_with fail
  refine (tcount_tr HTx108.out).mono ?_
  rintro e v8 ⟨rfl, bw⟩
  rw [countL]
  have KCx109 := Lib.hid (KCx108.out.below bw)
  have KZx109 := Lib.hid (KZx108.out.below bw)
  have HBx109 := Lib.hid (HBx108.out.trans (bw.mono HBx108.out.size))
  have HTx109 := Lib.hid (HTx108.out.below bw)
  clear bw KCx108 KZx108 HBx108 HTx108
  go_wp2_with fail
  refine (has_nil b _).mono ?_
  rintro e v9 ⟨rfl, bw⟩
  have KCx110 := Lib.hid (KCx109.out.below bw)
  have KZx110 := Lib.hid (KZx109.out.below bw)
  have HBx110 := Lib.hid (HBx109.out.trans (bw.mono HBx109.out.size))
  have HTx110 := Lib.hid (HTx109.out.below bw)
  clear bw KCx109 KZx109 HBx109 HTx109
  go_wp2_with fail
  refine (tpuncture_nil b _).mono ?_
  rintro e v10 ⟨rfl, bw⟩
  have KCx111 := Lib.hid (KCx110.out.below bw)
  have KZx111 := Lib.hid (KZx110.out.below bw)
  have HBx111 := Lib.hid (HBx110.out.trans (bw.mono HBx110.out.size))
  have HTx111 := Lib.hid (HTx110.out.below bw)
  clear bw KCx110 KZx110 HBx110 HTx110
  go_wp2_with fail
  refine (theld_nil _).mono ?_
  rintro e v11 ⟨rfl, rfl⟩
  go_wp2_with fail
  refine (tcount_nil _).mono ?_
  rintro e v12 ⟨rfl, rfl⟩
  go_wp2_with fail
  refine (tclone_nil _).mono ?_
  rintro e v13 ⟨rfl, rfl⟩
  go_wp2_with fail
  refine (tpuncture_zero _ b _ KZx111.out).mono ?_
  rintro e v14 ⟨rfl, bw⟩
  have KCx112 := Lib.hid (KCx111.out.below bw)
  have KZx112 := Lib.hid (KZx111.out.below bw)
  have HBx112 := Lib.hid (HBx111.out.trans (bw.mono HBx111.out.size))
  have HTx112 := Lib.hid (HTx111.out.below bw)
  clear bw KCx111 KZx111 HBx111 HTx111
  go_wp2_with fail
  refine (tcount_zero _ _ KZx112.out).mono ?_
  rintro e v15 ⟨rfl, bw⟩
  have KCx113 := Lib.hid (KCx112.out.below bw)
  have KZx113 := Lib.hid (KZx112.out.below bw)
  have HBx113 := Lib.hid (HBx112.out.trans (bw.mono HBx112.out.size))
  have HTx113 := Lib.hid (HTx112.out.below bw)
  clear bw KCx112 KZx112 HBx112 HTx112
  go_wp2_with fail
  go_ret
  exact ⟨rfl, HBx113.out⟩
theorem keytreeNone_own : ownKnob Try.prog.godebug = none := by kernel_rfl
theorem keytreeNone_laid : laidOutB Try.prog = true := by kernel_rfl

set_option maxRecDepth 100000 in
theorem keytreeNone_lifted (os : Os) (started : os.Started) (H : Type) (enc : TypeId × Value → H) :
    ReturnsInHanded {} Try.checked os 10 .any (Rows.keytreeNoneSpec.pre6 enc Try.prog Try.f10 Rows.keytreeNoneRow.domain false) (Rows.keytreeNoneSpec.post enc Try.prog Try.f10 false true false false) := by
  refine returnsInHanded_of_change (C := Try.checked) keytreeNone_own started (by kernel_rfl) Try.func10
    (ChangeSpec.witness6 (enc := enc) (C := Try.checked) false ⟨#[], #[.agg #[.int .u8 0, .int .u8 0, .int .u8 0, .int .u8 0, .int .u8 0, .int .u8 0, .int .u8 0, .int .u8 0, .int .u8 0, .int .u8 0, .int .u8 0, .int .u8 0, .int .u8 0, .int .u8 0, .int .u8 0, .int .u8 0, .int .u8 0, .int .u8 0, .int .u8 0, .int .u8 0, .int .u8 0, .int .u8 0, .int .u8 0, .int .u8 0, .int .u8 0, .int .u8 0, .int .u8 0, .int .u8 0, .int .u8 0, .int .u8 0, .int .u8 0, .int .u8 0], .int .u64 0], []⟩ 8 (by kernel_rfl) (by kernel_rfl) (by kernel_rfl) (by kernel_rfl)) ?_
  intro W base args ds gs before hval0 hW _ _
  have hval : ∀ (j : Nat) t v, Try.f10.params[j]? = some t → args[j]? = some v → Value.okWide Try.prog W .any base t v := hval0
  have hW' := hW
  obtain ⟨p, q, hA0, hV, rfl, hfz, hnd⟩ := hW
  have hA : DataW.TrodAll enc Try.prog W 0 (fun _ => true) true Try.f10.params.toList args.toList ds p := hA0
  rw [Try.params10] at hA hval
  obtain ⟨v0, vs0, d0, ds0, p0, q0, hargs, rfl, rfl, h0, r0⟩ := trodAll_cons hA
  obtain ⟨v1, vs1, d1, ds1, p1, q1, rfl, rfl, rfl, h1, r1⟩ := trodAll_cons r0
  obtain ⟨rfl, rfl, rfl⟩ := trodAll_nil r1
  obtain rfl : args = #[v0, v1] := by cases args; simp_all
  obtain ⟨rfl, rfl⟩ := trodVars_none hV
  have lt0 : ∀ x ∈ p0, x.block < W.heap.size := by obtain ⟨m, hm⟩ := h0; exact DataW.trod_lt m _ _ _ hm
  obtain ⟨l0, hl0, rfl⟩ := open_u8s Try.underlying23 Try.underlying5 (by kernel_rfl) (by kernel_rfl) (hval 0 23 v0 rfl rfl) h0
  obtain ⟨a1, rfl, rfl, rfl, w1⟩ := open_int Try.underlying25 (hval 1 25 v1 rfl rfl) h1
  have b1 := bounds_u64 w1
  clear hA0 hval0
  refine (keytreeNone_any W l0 hl0 a1 b1).mono fun e W' ⟨he, bel⟩ => ?_
  subst he
  exact ⟨_, rfl, _, _, _, [], _, [], hW', trodAll_mk1 (shut_bool Try.underlying4 _), (trodAll_cons_mk (Below.trod keytreeNone_laid (by kernel_rfl) (of_decide_eq_true (by kernel_rfl)) h0 bel lt0) (trodAll_cons_mk (shut_int Try.underlying25 w1) trodAll_mk0)), rfl, bel.frame _, fun h => by cases h⟩

theorem keytreeNone_holds : Rows.KeytreeNoneSaid :=
  OpenClaim.holds_of_wide 10 Try.f10 rfl rfl rfl rfl rfl rfl rfl ⟨rfl, rfl, rfl, rfl, rfl⟩ rfl rfl rfl rfl rfl (by kernel_rfl) Try.func10 (by kernel_rfl)
    (of_decide_eq_true (by kernel_rfl)) (by unfold Func.isWrapper; rw [if_neg (of_decide_eq_false (by kernel_rfl))]; exact ⟨rfl, rfl⟩)
    (fun os started H enc _ => keytreeNone_lifted os started H enc)

#print axioms keytreeNone_holds

end Go.Proofs.Ytkfcllcdkgnfbaa
