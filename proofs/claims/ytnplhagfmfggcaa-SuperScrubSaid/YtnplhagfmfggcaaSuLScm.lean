/-
  SuperScrub: a superblock that rots on one device is healed by going through the mirror: then it is read from either device alone.
-/
import Derived.Test.YtnplhagfmfggcaaSy1
import Derived.Test.YtnplhagfmfggcaaRows
import Derived.ProofKit
import Derived.OpenShut
import Derived.ShutString
import Derived.ChangeOld
namespace Go.Proofs.Ytnplhagfmfggcaa
open Go.RowKit Kd Mi Sx Su Go.ChangeShapes Go.WideShapes Go.ChangeAt
attribute [local go_sem ↓] Go.wp_at_zero Go.wp_at_succ
set_option maxRecDepth 100000 in
set_option maxHeartbeats 12800000 in
theorem superScrub_any (w : World) (s : Sp) (hs : s.ok) (first : Bool) (q0 : Int) (hq0 : 0 ≤ q0 ∧ q0 ≤ 255) (m0 : Int) (hm0 : 0 ≤ m0 ∧ m0 ≤ 255) : Calls Try.prog 12 #[spA s, .bool first, .int .u8 q0, .int .u8 m0] w (RetB (.bool true) w) := by
  have HS := Lib.hid hs
  obtain ⟨q, hq⟩ : ∃ q : Nat, (q : Int) = q0.tmod 128 := ⟨(q0.tmod 128).toNat, by rw [Int.tmod_eq_emod_of_nonneg hq0.1]; omega⟩
  have q1 : q0.tmod 128 = (q : Int) := hq.symm
  have HQ := Lib.hid (show q < 128 by rw [Int.tmod_eq_emod_of_nonneg hq0.1] at hq; omega)
  obtain ⟨b, hb⟩ : ∃ b : UInt8, (b.toNat : Int) = m0 := ⟨UInt8.ofNat m0.toNat, by rw [UInt8.toNat_ofNat']; omega⟩
  subst hb
  have z1 : wrap64 q0 = q0 := by unfold wrap64; omega
  have v1 : IntKind.i64.wrap q0 = q0 := IntWalk.i64_in _ (by omega)
  have p1 : (s.v : Int).tmod 2 = ((placeP s : Nat) : Int) := tmod_place s
  have p2 : wrap64 ((placeP s : Nat) : Int) = ((placeP s : Nat) : Int) := by have := place_lt s; unfold wrap64; omega
  have p3 : IntKind.i64.wrap ((placeP s : Nat) : Int) = ((placeP s : Nat) : Int) := IntWalk.i64_in _ (by have := place_lt s; omega)
  have p4 : (s.v : Int) % 2 = ((placeP s : Nat) : Int) := rfl
  clear hs hq
  have hzl : ∀ W, (zeroValue 117).run Try.prog W = .ok (.agg zeroLit) W := fun _ => by kernel_rfl
  have hzs := zero_super
  obtain ⟨w1, hw1⟩ : ∃ W, W = (w.alloc (.cells #[.int .u64 (s.v : Int), .int .i64 s.n, .int .u64 (s.t : Int)] 100)) := ⟨_, rfl⟩
  have X1_s := Lib.hid (show Blk w1 w.heap.size #[.int .u64 (s.v : Int), .int .i64 s.n, .int .u64 (s.t : Int)] 100 by rw [hw1]; exact heap_alloc_new _ _)
  have B1 := Lib.hid (show Below w.heap.size w w1 by rw [hw1]; exact (Below.refl _ _).alloc (Nat.le_refl _) _)
  unfold spA
  go_enter Try.func12, Try.ntmps12
  go_wp2_with fail
  rw [← hw1]
  clear hw1
  refine (awake_any w1).mono ?_
  rintro e wp2 ⟨rfl, bw⟩
  have Xp2_s := Lib.hid (X1_s.out.below bw)
  have Bp2 := Lib.hid (B1.out.trans (bw.mono B1.out.size))
  clear bw B1 X1_s
  have cc0 := Xp2_s.out.cell 0
  have cc1 := Xp2_s.out.cell 1
  have cc2 := Xp2_s.out.cell 2
  go_wp2_with fail
  clear cc0 cc1 cc2
  refine (may_any s wp2).mono ?_
  rintro e wp3 ⟨rfl, bw⟩
  have Xp3_s := Lib.hid (Xp2_s.out.below bw)
  have Bp3 := Lib.hid (Bp2.out.trans (bw.mono Bp2.out.size))
  clear bw Bp2 Xp2_s
  by_cases hos : okP s = true
  · skip
    rw [hos]
    have HOS := Lib.hid hos
    clear hos
    have cc0 := Xp3_s.out.cell 0
    have cc1 := Xp3_s.out.cell 1
    have cc2 := Xp3_s.out.cell 2
    go_wp2_with fail
    clear cc0 cc1 cc2
    refine (pair_any wp3).mono ?_
    rintro e wq4 ⟨pw, g1, g2, bx, g, sq4, Fq4, rfl, h⟩
    have Hq4 := Lib.hid h
    clear h
    have cc0 := (Xp3_s.out.below Hq4.out.live.bel).cell 0
    have cc1 := (Xp3_s.out.below Hq4.out.live.bel).cell 1
    have cc2 := (Xp3_s.out.below Hq4.out.live.bel).cell 2
    go_wp2_with fail
    clear cc0 cc1 cc2
    refine (su_write Hq4.out s HS.out HOS.out (by omega)).mono ?_
    rintro e wm5 ⟨rfl, sm5, Fm5, h, hmv⟩
    have Hm5 := Lib.hid (show Mu.LM pw g1 g2 (gdS litS bx) g wp3 wm5 sm5 Fm5 (stM (oneL s) (oneL s) false false) 0 from h)
    clear h hmv Hq4
    have hso := And.intro HOS.out HS.out.1
    have HSO := Lib.hid hso
    clear hso
    cases first with
    | true =>
      have cc0 := (Xp3_s.out.below Hm5.out.live.bel).cell 0
      have cc1 := (Xp3_s.out.below Hm5.out.live.bel).cell 1
      have cc2 := (Xp3_s.out.below Hm5.out.live.bel).cell 2
      go_wp2_with fail
      clear cc0 cc1 cc2
      have HRT := Lib.hid (Mu.lm_rot0 Hm5.out (placeP s : Int) (q : Int) b)
      rw [show (stM (oneL s) (oneL s) false false).rot 0 (placeP s : Int) (q : Int) b = stM (rotL (oneL s) (placeP s) q b) (oneL s) false false from rot_st0 _ _ _ _ (n := placeP s) (by have := place_lt s; omega) HQ.out b] at HRT
      refine (HRT.out).mono ?_
      rintro e wm6 ⟨rfl, sm6, Fm6, h, hmv⟩
      have Hm6 := Lib.hid (show Mu.LM pw g1 g2 (gdS litS bx) g wp3 wm6 sm6 Fm6 (stM (rotL (oneL s) (placeP s) q b) (oneL s) false false) 0 from h)
      clear h hmv Hm5
      clear HRT
      have cc0 := (Xp3_s.out.below Hm6.out.live.bel).cell 0
      have cc1 := (Xp3_s.out.below Hm6.out.live.bel).cell 1
      have cc2 := (Xp3_s.out.below Hm6.out.live.bel).cell 2
      go_wp2_with fail
      clear cc0 cc1 cc2
      obtain ⟨L', M', hLM, hat⟩ := scrub_st (gdS litS bx).f (L := (rotL (oneL s) (placeP s) q b)) (M := (oneL s)) (by rw [rotL, List.length_set, oneL_len]) (oneL_len s)
      have HAL := Lib.hid (Sc.lm_all Hm6.out (by rw [stM_len]; omega) (by omega))
      rw [stM_len, hLM] at HAL
      have HAT := Lib.hid (show ∀ a, a < 2 → L'.getD a zeroS = (oneL s).getD a zeroS ∧ M'.getD a zeroS = (oneL s).getD a zeroS from fun a ha => by
        have h := scrub_one s HSO.out HQ.out b (bx := bx) ha
        obtain ⟨e1, e2⟩ := hat a (by omega)
        exact ⟨e1.trans h.1, e2.trans h.2.1⟩)
      clear hLM hat
      refine (HAL.out).mono ?_
      rintro e wm7 ⟨rfl, sm7, Fm7, h, hmv⟩
      have Hm7 := Lib.hid (show Mu.LM pw g1 g2 (gdS litS bx) g wp3 wm7 sm7 Fm7 (stM L' M' false false) (0 + 4) from h)
      clear h hmv Hm6
      clear HAL
      have cc0 := (Xp3_s.out.below Hm7.out.live.bel).cell 0
      have cc1 := (Xp3_s.out.below Hm7.out.live.bel).cell 1
      have cc2 := (Xp3_s.out.below Hm7.out.live.bel).cell 2
      go_wp2_with fail
      clear cc0 cc1 cc2
      have HFL := Lib.hid (show Calls Try.prog 56 #[.pointer (some ⟨g, 0, none⟩)] wm7 (Mu.RetM (.int .i64 0) pw g1 g2 (gdS litS bx) g wp3 (stM L' M' false false) 0 Fm7 wm7) from Mu.lm_flush Hm7.out)
      refine (HFL.out).mono ?_
      rintro e wm8 ⟨rfl, sm8, Fm8, h, hmv⟩
      have Hm8 := Lib.hid (show Mu.LM pw g1 g2 (gdS litS bx) g wp3 wm8 sm8 Fm8 (stM L' M' false false) 0 from h)
      clear h hmv Hm7
      clear HFL
      have cc0 := (Xp3_s.out.below Hm8.out.live.bel).cell 0
      have cc1 := (Xp3_s.out.below Hm8.out.live.bel).cell 1
      have cc2 := (Xp3_s.out.below Hm8.out.live.bel).cell 2
      go_wp2_with fail
      clear cc0 cc1 cc2
      refine (Mu.lm_out1 Hm8.out true).mono ?_
      rintro e wm9 ⟨rfl, sm9, Fm9, h, hmv⟩
      have Hm9 := Lib.hid (show Mu.LM pw g1 g2 (gdS litS bx) g wp3 wm9 sm9 Fm9 (stM L' M' false true) 0 from h)
      clear h hmv Hm8
      have cc0 := (Xp3_s.out.below Hm9.out.live.bel).cell 0
      have cc1 := (Xp3_s.out.below Hm9.out.live.bel).cell 1
      have cc2 := (Xp3_s.out.below Hm9.out.live.bel).cell 2
      go_wp2_with fail
      clear cc0 cc1 cc2
      have HRD := Lib.hid (su_read (_e := 0) Hm9.out (row_keeps HSO.out (a := 0) (bx := bx) (by omega) (.inl ⟨rfl, (HAT.out _ (place_lt s)).1.trans (one_sec s)⟩) (.inr (by rw [(HAT.out _ (by omega)).1]; exact keeps_one s (by omega))) (.inl rfl)) (row_keeps HSO.out (a := 1) (bx := bx) (by omega) (.inl ⟨rfl, (HAT.out _ (place_lt s)).1.trans (one_sec s)⟩) (.inr (by rw [(HAT.out _ (by omega)).1]; exact keeps_one s (by omega))) (.inl rfl)) (s, 0) (by rw [one_take]; rfl))
      unfold spA at HRD
      refine (HRD.out).mono ?_
      rintro e wm10 ⟨rfl, sm10, Fm10, h, hmv⟩
      have Hm10 := Lib.hid (show Mu.LM pw g1 g2 (gdS litS bx) g wp3 wm10 sm10 Fm10 (stM L' M' false true) 0 from h)
      clear h hmv Hm9
      clear HRD
      have hq := eq_super s
      have cc0 := (Xp3_s.out.below Hm10.out.live.bel).cell 0
      have cc1 := (Xp3_s.out.below Hm10.out.live.bel).cell 1
      have cc2 := (Xp3_s.out.below Hm10.out.live.bel).cell 2
      have cc3 : (wm10.alloc (.cells #[.int .u64 (s.v : Int), .int .i64 s.n, .int .u64 (s.t : Int)] 100)).cell? _ = _ := ((Xp3_s.out.below Hm10.out.live.bel).below (show Below wm10.heap.size wm10 (wm10.alloc (.cells #[.int .u64 (s.v : Int), .int .i64 s.n, .int .u64 (s.t : Int)] 100)) from (Below.refl _ _).alloc (Nat.le_refl _) _)).cell 0
      have cc4 : (wm10.alloc (.cells #[.int .u64 (s.v : Int), .int .i64 s.n, .int .u64 (s.t : Int)] 100)).cell? _ = _ := ((Xp3_s.out.below Hm10.out.live.bel).below (show Below wm10.heap.size wm10 (wm10.alloc (.cells #[.int .u64 (s.v : Int), .int .i64 s.n, .int .u64 (s.t : Int)] 100)) from (Below.refl _ _).alloc (Nat.le_refl _) _)).cell 1
      have cc5 : (wm10.alloc (.cells #[.int .u64 (s.v : Int), .int .i64 s.n, .int .u64 (s.t : Int)] 100)).cell? _ = _ := ((Xp3_s.out.below Hm10.out.live.bel).below (show Below wm10.heap.size wm10 (wm10.alloc (.cells #[.int .u64 (s.v : Int), .int .i64 s.n, .int .u64 (s.t : Int)] 100)) from (Below.refl _ _).alloc (Nat.le_refl _) _)).cell 2
      go_wp2_with fail
      clear cc0 cc1 cc2 cc3 cc4 cc5
      go_ret
      exact ⟨rfl, (Bp3.out.trans (Hm10.out.live.bel.mono Bp3.out.size)).alloc ((Bp3.out.trans (Hm10.out.live.bel.mono Bp3.out.size)).size) _⟩
    | false =>
      have cc0 := (Xp3_s.out.below Hm5.out.live.bel).cell 0
      have cc1 := (Xp3_s.out.below Hm5.out.live.bel).cell 1
      have cc2 := (Xp3_s.out.below Hm5.out.live.bel).cell 2
      go_wp2_with fail
      clear cc0 cc1 cc2
      have HRT := Lib.hid (Mu.lm_rot1 Hm5.out (placeP s : Int) (q : Int) b)
      rw [show (stM (oneL s) (oneL s) false false).rot 1 (placeP s : Int) (q : Int) b = stM (oneL s) (rotL (oneL s) (placeP s) q b) false false from rot_st1 _ _ _ _ (n := placeP s) (by have := place_lt s; omega) HQ.out b] at HRT
      refine (HRT.out).mono ?_
      rintro e wm11 ⟨rfl, sm11, Fm11, h, hmv⟩
      have Hm11 := Lib.hid (show Mu.LM pw g1 g2 (gdS litS bx) g wp3 wm11 sm11 Fm11 (stM (oneL s) (rotL (oneL s) (placeP s) q b) false false) 0 from h)
      clear h hmv Hm5
      clear HRT
      have cc0 := (Xp3_s.out.below Hm11.out.live.bel).cell 0
      have cc1 := (Xp3_s.out.below Hm11.out.live.bel).cell 1
      have cc2 := (Xp3_s.out.below Hm11.out.live.bel).cell 2
      go_wp2_with fail
      clear cc0 cc1 cc2
      obtain ⟨L', M', hLM, hat⟩ := scrub_st (gdS litS bx).f (L := (oneL s)) (M := (rotL (oneL s) (placeP s) q b)) (oneL_len s) (by rw [rotL, List.length_set, oneL_len])
      have HAL := Lib.hid (Sc.lm_all Hm11.out (by rw [stM_len]; omega) (by omega))
      rw [stM_len, hLM] at HAL
      have HAT := Lib.hid (show ∀ a, a < 2 → L'.getD a zeroS = (oneL s).getD a zeroS ∧ M'.getD a zeroS = (oneL s).getD a zeroS from fun a ha => by
        have h := scrub_one s HSO.out HQ.out b (bx := bx) ha
        obtain ⟨e1, e2⟩ := hat a (by omega)
        exact ⟨e1.trans h.2.2.1, e2.trans h.2.2.2⟩)
      clear hLM hat
      refine (HAL.out).mono ?_
      rintro e wm12 ⟨rfl, sm12, Fm12, h, hmv⟩
      have Hm12 := Lib.hid (show Mu.LM pw g1 g2 (gdS litS bx) g wp3 wm12 sm12 Fm12 (stM L' M' false false) (0 + 4) from h)
      clear h hmv Hm11
      clear HAL
      have cc0 := (Xp3_s.out.below Hm12.out.live.bel).cell 0
      have cc1 := (Xp3_s.out.below Hm12.out.live.bel).cell 1
      have cc2 := (Xp3_s.out.below Hm12.out.live.bel).cell 2
      go_wp2_with fail
      clear cc0 cc1 cc2
      have HFL := Lib.hid (show Calls Try.prog 56 #[.pointer (some ⟨g, 0, none⟩)] wm12 (Mu.RetM (.int .i64 0) pw g1 g2 (gdS litS bx) g wp3 (stM L' M' false false) 0 Fm12 wm12) from Mu.lm_flush Hm12.out)
      refine (HFL.out).mono ?_
      rintro e wm13 ⟨rfl, sm13, Fm13, h, hmv⟩
      have Hm13 := Lib.hid (show Mu.LM pw g1 g2 (gdS litS bx) g wp3 wm13 sm13 Fm13 (stM L' M' false false) 0 from h)
      clear h hmv Hm12
      clear HFL
      have cc0 := (Xp3_s.out.below Hm13.out.live.bel).cell 0
      have cc1 := (Xp3_s.out.below Hm13.out.live.bel).cell 1
      have cc2 := (Xp3_s.out.below Hm13.out.live.bel).cell 2
      go_wp2_with fail
      clear cc0 cc1 cc2
      refine (Mu.lm_out0 Hm13.out true).mono ?_
      rintro e wm14 ⟨rfl, sm14, Fm14, h, hmv⟩
      have Hm14 := Lib.hid (show Mu.LM pw g1 g2 (gdS litS bx) g wp3 wm14 sm14 Fm14 (stM L' M' true false) 0 from h)
      clear h hmv Hm13
      have cc0 := (Xp3_s.out.below Hm14.out.live.bel).cell 0
      have cc1 := (Xp3_s.out.below Hm14.out.live.bel).cell 1
      have cc2 := (Xp3_s.out.below Hm14.out.live.bel).cell 2
      go_wp2_with fail
      clear cc0 cc1 cc2
      have HRD := Lib.hid (su_read (_e := 0) Hm14.out (row_keeps HSO.out (a := 0) (bx := bx) (by omega) (.inr ⟨rfl, (HAT.out _ (place_lt s)).2.trans (one_sec s)⟩) (.inl rfl) (.inr (by rw [(HAT.out _ (by omega)).2]; exact keeps_one s (by omega)))) (row_keeps HSO.out (a := 1) (bx := bx) (by omega) (.inr ⟨rfl, (HAT.out _ (place_lt s)).2.trans (one_sec s)⟩) (.inl rfl) (.inr (by rw [(HAT.out _ (by omega)).2]; exact keeps_one s (by omega)))) (s, 0) (by rw [one_take]; rfl))
      unfold spA at HRD
      refine (HRD.out).mono ?_
      rintro e wm15 ⟨rfl, sm15, Fm15, h, hmv⟩
      have Hm15 := Lib.hid (show Mu.LM pw g1 g2 (gdS litS bx) g wp3 wm15 sm15 Fm15 (stM L' M' true false) 0 from h)
      clear h hmv Hm14
      clear HRD
      have hq := eq_super s
      have cc0 := (Xp3_s.out.below Hm15.out.live.bel).cell 0
      have cc1 := (Xp3_s.out.below Hm15.out.live.bel).cell 1
      have cc2 := (Xp3_s.out.below Hm15.out.live.bel).cell 2
      have cc3 : (wm15.alloc (.cells #[.int .u64 (s.v : Int), .int .i64 s.n, .int .u64 (s.t : Int)] 100)).cell? _ = _ := ((Xp3_s.out.below Hm15.out.live.bel).below (show Below wm15.heap.size wm15 (wm15.alloc (.cells #[.int .u64 (s.v : Int), .int .i64 s.n, .int .u64 (s.t : Int)] 100)) from (Below.refl _ _).alloc (Nat.le_refl _) _)).cell 0
      have cc4 : (wm15.alloc (.cells #[.int .u64 (s.v : Int), .int .i64 s.n, .int .u64 (s.t : Int)] 100)).cell? _ = _ := ((Xp3_s.out.below Hm15.out.live.bel).below (show Below wm15.heap.size wm15 (wm15.alloc (.cells #[.int .u64 (s.v : Int), .int .i64 s.n, .int .u64 (s.t : Int)] 100)) from (Below.refl _ _).alloc (Nat.le_refl _) _)).cell 1
      have cc5 : (wm15.alloc (.cells #[.int .u64 (s.v : Int), .int .i64 s.n, .int .u64 (s.t : Int)] 100)).cell? _ = _ := ((Xp3_s.out.below Hm15.out.live.bel).below (show Below wm15.heap.size wm15 (wm15.alloc (.cells #[.int .u64 (s.v : Int), .int .i64 s.n, .int .u64 (s.t : Int)] 100)) from (Below.refl _ _).alloc (Nat.le_refl _) _)).cell 2
      go_wp2_with fail
      clear cc0 cc1 cc2 cc3 cc4 cc5
      go_ret
      exact ⟨rfl, (Bp3.out.trans (Hm15.out.live.bel.mono Bp3.out.size)).alloc ((Bp3.out.trans (Hm15.out.live.bel.mono Bp3.out.size)).size) _⟩
  · have hk : okP s = false := by simpa using hos
    rw [hk]
    clear hos hk
    have cc0 := Xp3_s.out.cell 0
    have cc1 := Xp3_s.out.cell 1
    have cc2 := Xp3_s.out.cell 2
    go_wp2_with fail
    clear cc0 cc1 cc2
    go_ret
    exact ⟨rfl, Bp3.out⟩
theorem superScrub_own : ownKnob Try.prog.godebug = none := by kernel_rfl
theorem superScrub_laid : laidOutB Try.prog = true := by kernel_rfl

set_option maxRecDepth 100000 in
theorem superScrub_lifted (os : Os) (started : os.Started) (H : Type) (enc : TypeId × Value → H) :
    ReturnsInHanded {} Try.checked os 12 .any (Rows.superScrubSpec.pre6 enc Try.prog Try.f12 Rows.superScrubRow.domain false) (Rows.superScrubSpec.post enc Try.prog Try.f12 false true false false) := by
  refine returnsInHanded_of_change (C := Try.checked) superScrub_own started (by kernel_rfl) Try.func12
    (ChangeSpec.witness6 (enc := enc) (C := Try.checked) false ⟨#[], #[.agg #[.int .u64 0, .int .i64 0, .int .u64 0], .bool false, .int .u8 0, .int .u8 0], []⟩ 8 (by kernel_rfl) (by kernel_rfl) (by kernel_rfl) (by kernel_rfl)) ?_
  intro W base args ds gs before hval0 hW _ _
  have hval : ∀ (j : Nat) t v, Try.f12.params[j]? = some t → args[j]? = some v → Value.okWide Try.prog W .any base t v := hval0
  have hW' := hW
  obtain ⟨p, q, hA0, hV, rfl, hfz, hnd⟩ := hW
  have hA : DataW.TrodAll enc Try.prog W 0 (fun _ => true) true Try.f12.params.toList args.toList ds p := hA0
  rw [Try.params12] at hA hval
  obtain ⟨v0, vs0, d0, ds0, p0, q0, hargs, rfl, rfl, h0, r0⟩ := trodAll_cons hA
  obtain ⟨v1, vs1, d1, ds1, p1, q1, rfl, rfl, rfl, h1, r1⟩ := trodAll_cons r0
  obtain ⟨v2, vs2, d2, ds2, p2, q2, rfl, rfl, rfl, h2, r2⟩ := trodAll_cons r1
  obtain ⟨v3, vs3, d3, ds3, p3, q3, rfl, rfl, rfl, h3, r3⟩ := trodAll_cons r2
  obtain ⟨rfl, rfl, rfl⟩ := trodAll_nil r3
  obtain rfl : args = #[v0, v1, v2, v3] := by cases args; simp_all
  obtain ⟨rfl, rfl⟩ := trodVars_none hV
  have lt0 : ∀ x ∈ p0, x.block < W.heap.size := by obtain ⟨m, hm⟩ := h0; exact DataW.trod_lt m _ _ _ hm
  obtain ⟨x0, rfl, ox0⟩ := Su.open_super (hval 0 100 v0 rfl rfl) h0
  obtain ⟨a1, rfl, rfl, rfl⟩ := open_bool Try.underlying4 (hval 1 4 v1 rfl rfl) h1
  obtain ⟨a2, rfl, rfl, rfl, w2⟩ := open_int Try.underlying5 (hval 2 5 v2 rfl rfl) h2
  have b2 := bounds_u8 w2
  obtain ⟨a3, rfl, rfl, rfl, w3⟩ := open_int Try.underlying5 (hval 3 5 v3 rfl rfl) h3
  have b3 := bounds_u8 w3
  clear hA0 hval0
  refine (superScrub_any W x0 ox0 a1 a2 b2 a3 b3).mono fun e W' ⟨he, bel⟩ => ?_
  subst he
  exact ⟨_, rfl, _, _, _, [], _, [], hW', trodAll_mk1 (shut_bool Try.underlying4 _), (trodAll_cons_mk (Below.trod superScrub_laid (by kernel_rfl) (of_decide_eq_true (by kernel_rfl)) h0 bel lt0) (trodAll_cons_mk (shut_bool Try.underlying4 a1) (trodAll_cons_mk (shut_int Try.underlying5 w2) (trodAll_cons_mk (shut_int Try.underlying5 w3) trodAll_mk0)))), rfl, bel.frame _, fun h => by cases h⟩

theorem superScrub_holds : Rows.SuperScrubSaid :=
  OpenClaim.holds_of_wide 12 Try.f12 rfl rfl rfl rfl rfl rfl rfl ⟨rfl, rfl, rfl, rfl, rfl⟩ rfl rfl rfl rfl rfl (by kernel_rfl) Try.func12 (by kernel_rfl)
    (of_decide_eq_true (by kernel_rfl)) (by unfold Func.isWrapper; rw [if_neg (of_decide_eq_false (by kernel_rfl))]; exact ⟨rfl, rfl⟩)
    (fun os started H enc _ => superScrub_lifted os started H enc)

#print axioms superScrub_holds

end Go.Proofs.Ytnplhagfmfggcaa
