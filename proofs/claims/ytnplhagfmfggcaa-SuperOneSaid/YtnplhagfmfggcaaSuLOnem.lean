/-
  SuperOne: a device that rots at its superblocks, or is out, takes nothing away: the other one's is read.
-/
import Derived.Test.YtnplhagfmfggcaaSy1
import Derived.Test.YtnplhagfmfggcaaRows
import Derived.ProofKit
import Derived.OpenShut
import Derived.ShutString
import Derived.ChangeOld
namespace Go.Proofs.Ytnplhagfmfggcaa
open Go.RowKit Kd Mi Sx Su Go.ChangeShapes Go.WideShapes Go.ChangeAt
attribute [local go_sem ↓] Go.wp_at_zero Go.wp_at_succ
set_option maxRecDepth 100000 in
set_option maxHeartbeats 12800000 in
theorem superOne_any (w : World) (s : Sp) (hs : s.ok) (first out : Bool) (q0 : Int) (hq0 : 0 ≤ q0 ∧ q0 ≤ 255) (m0 : Int) (hm0 : 0 ≤ m0 ∧ m0 ≤ 255) : Calls Try.prog 10 #[spA s, .bool first, .bool out, .int .u8 q0, .int .u8 m0] w (RetB (.bool true) w) := by
  have HS := Lib.hid hs
  obtain ⟨q, hq⟩ : ∃ q : Nat, (q : Int) = q0.tmod 128 := ⟨(q0.tmod 128).toNat, by rw [Int.tmod_eq_emod_of_nonneg hq0.1]; omega⟩
  have q1 : q0.tmod 128 = (q : Int) := hq.symm
  have HQ := Lib.hid (show q < 128 by rw [Int.tmod_eq_emod_of_nonneg hq0.1] at hq; omega)
  obtain ⟨b, hb⟩ : ∃ b : UInt8, (b.toNat : Int) = m0 := ⟨UInt8.ofNat m0.toNat, by rw [UInt8.toNat_ofNat']; omega⟩
  subst hb
  have z1 : wrap64 q0 = q0 := by unfold wrap64; omega
  have v1 : IntKind.i64.wrap q0 = q0 := IntWalk.i64_in _ (by omega)
  clear hs hq
  have hzl : ∀ W, (zeroValue 117).run Try.prog W = .ok (.agg zeroLit) W := fun _ => by kernel_rfl
  have hzs := zero_super
  obtain ⟨w1, hw1⟩ : ∃ W, W = (w.alloc (.cells #[.int .u64 (s.v : Int), .int .i64 s.n, .int .u64 (s.t : Int)] 100)) := ⟨_, rfl⟩
  have X1_s := Lib.hid (show Blk w1 w.heap.size #[.int .u64 (s.v : Int), .int .i64 s.n, .int .u64 (s.t : Int)] 100 by rw [hw1]; exact heap_alloc_new _ _)
  have B1 := Lib.hid (show Below w.heap.size w w1 by rw [hw1]; exact (Below.refl _ _).alloc (Nat.le_refl _) _)
  unfold spA
  go_enter Try.func10, Try.ntmps10
  go_wp2_with fail
  rw [← hw1]
  clear hw1
  refine (awake_any w1).mono ?_
  rintro e wp2 ⟨rfl, bw⟩
  have Xp2_s := Lib.hid (X1_s.out.below bw)
  have Bp2 := Lib.hid (B1.out.trans (bw.mono B1.out.size))
  clear bw B1 X1_s
  have cc0 := Xp2_s.out.cell 0
  have cc1 := Xp2_s.out.cell 1
  have cc2 := Xp2_s.out.cell 2
  go_wp2_with fail
  clear cc0 cc1 cc2
  refine (may_any s wp2).mono ?_
  rintro e wp3 ⟨rfl, bw⟩
  have Xp3_s := Lib.hid (Xp2_s.out.below bw)
  have Bp3 := Lib.hid (Bp2.out.trans (bw.mono Bp2.out.size))
  clear bw Bp2 Xp2_s
  by_cases hos : okP s = true
  · skip
    rw [hos]
    have HOS := Lib.hid hos
    clear hos
    have cc0 := Xp3_s.out.cell 0
    have cc1 := Xp3_s.out.cell 1
    have cc2 := Xp3_s.out.cell 2
    go_wp2_with fail
    clear cc0 cc1 cc2
    refine (pair_any wp3).mono ?_
    rintro e wq4 ⟨pw, g1, g2, bx, g, sq4, Fq4, rfl, h⟩
    have Hq4 := Lib.hid h
    clear h
    have cc0 := (Xp3_s.out.below Hq4.out.live.bel).cell 0
    have cc1 := (Xp3_s.out.below Hq4.out.live.bel).cell 1
    have cc2 := (Xp3_s.out.below Hq4.out.live.bel).cell 2
    go_wp2_with fail
    clear cc0 cc1 cc2
    refine (su_write Hq4.out s HS.out HOS.out (by omega)).mono ?_
    rintro e wm5 ⟨rfl, sm5, Fm5, h, hmv⟩
    have Hm5 := Lib.hid (show Mu.LM pw g1 g2 (gdS litS bx) g wp3 wm5 sm5 Fm5 (stM (oneL s) (oneL s) false false) 0 from h)
    clear h hmv Hq4
    have hso := And.intro HOS.out HS.out.1
    have HSO := Lib.hid hso
    clear hso
    cases first with
    | true =>
      cases out with
      | true =>
        skip
        have cc0 := (Xp3_s.out.below Hm5.out.live.bel).cell 0
        have cc1 := (Xp3_s.out.below Hm5.out.live.bel).cell 1
        have cc2 := (Xp3_s.out.below Hm5.out.live.bel).cell 2
        go_wp2_with fail
        clear cc0 cc1 cc2
        refine (Mu.lm_out0 Hm5.out true).mono ?_
        rintro e wm6 ⟨rfl, sm6, Fm6, h, hmv⟩
        have Hm6 := Lib.hid (show Mu.LM pw g1 g2 (gdS litS bx) g wp3 wm6 sm6 Fm6 (stM (oneL s) (oneL s) true false) 0 from h)
        clear h hmv Hm5
        have cc0 := (Xp3_s.out.below Hm6.out.live.bel).cell 0
        have cc1 := (Xp3_s.out.below Hm6.out.live.bel).cell 1
        have cc2 := (Xp3_s.out.below Hm6.out.live.bel).cell 2
        go_wp2_with fail
        clear cc0 cc1 cc2
        have HRD := Lib.hid (su_read (_e := 0) Hm6.out (row_keeps HSO.out (a := 0) (bx := bx) (by omega) (.inr ⟨rfl, one_sec s⟩) (.inl rfl) (.inr (keeps_one s (by omega)))) (row_keeps HSO.out (a := 1) (bx := bx) (by omega) (.inr ⟨rfl, one_sec s⟩) (.inl rfl) (.inr (keeps_one s (by omega)))) (s, 0) (by rw [one_take]; rfl))
        unfold spA at HRD
        refine (HRD.out).mono ?_
        rintro e wm7 ⟨rfl, sm7, Fm7, h, hmv⟩
        have Hm7 := Lib.hid (show Mu.LM pw g1 g2 (gdS litS bx) g wp3 wm7 sm7 Fm7 (stM (oneL s) (oneL s) true false) 0 from h)
        clear h hmv Hm6
        clear HRD
        have hq := eq_super s
        have cc0 := (Xp3_s.out.below Hm7.out.live.bel).cell 0
        have cc1 := (Xp3_s.out.below Hm7.out.live.bel).cell 1
        have cc2 := (Xp3_s.out.below Hm7.out.live.bel).cell 2
        have cc3 : (wm7.alloc (.cells #[.int .u64 (s.v : Int), .int .i64 s.n, .int .u64 (s.t : Int)] 100)).cell? _ = _ := ((Xp3_s.out.below Hm7.out.live.bel).below (show Below wm7.heap.size wm7 (wm7.alloc (.cells #[.int .u64 (s.v : Int), .int .i64 s.n, .int .u64 (s.t : Int)] 100)) from (Below.refl _ _).alloc (Nat.le_refl _) _)).cell 0
        have cc4 : (wm7.alloc (.cells #[.int .u64 (s.v : Int), .int .i64 s.n, .int .u64 (s.t : Int)] 100)).cell? _ = _ := ((Xp3_s.out.below Hm7.out.live.bel).below (show Below wm7.heap.size wm7 (wm7.alloc (.cells #[.int .u64 (s.v : Int), .int .i64 s.n, .int .u64 (s.t : Int)] 100)) from (Below.refl _ _).alloc (Nat.le_refl _) _)).cell 1
        have cc5 : (wm7.alloc (.cells #[.int .u64 (s.v : Int), .int .i64 s.n, .int .u64 (s.t : Int)] 100)).cell? _ = _ := ((Xp3_s.out.below Hm7.out.live.bel).below (show Below wm7.heap.size wm7 (wm7.alloc (.cells #[.int .u64 (s.v : Int), .int .i64 s.n, .int .u64 (s.t : Int)] 100)) from (Below.refl _ _).alloc (Nat.le_refl _) _)).cell 2
        go_wp2_with fail
        clear cc0 cc1 cc2 cc3 cc4 cc5
        clear hq
        obtain ⟨wa8, hwa8⟩ : ∃ W, W = wm7.alloc (.cells #[.int .u64 (s.v : Int), .int .i64 s.n, .int .u64 (s.t : Int)] 100) := ⟨_, rfl⟩
        have Ha8 := Lib.hid (Hm7.out.below (show Below wm7.heap.size wm7 wa8 by rw [hwa8]; exact (Below.refl _ _).alloc (Nat.le_refl _) _))
        rw [← hwa8]
        clear hwa8 Hm7
        refine (Mu.lm_out0 Ha8.out true).mono ?_
        rintro e wm9 ⟨rfl, sm9, Fm9, h, hmv⟩
        have Hm9 := Lib.hid (show Mu.LM pw g1 g2 (gdS litS bx) g wp3 wm9 sm9 Fm9 (stM (oneL s) (oneL s) true false) 0 from h)
        clear h hmv Ha8
        have cc0 := (Xp3_s.out.below Hm9.out.live.bel).cell 0
        have cc1 := (Xp3_s.out.below Hm9.out.live.bel).cell 1
        have cc2 := (Xp3_s.out.below Hm9.out.live.bel).cell 2
        go_wp2_with fail
        clear cc0 cc1 cc2
        refine (Mu.lm_out1 Hm9.out true).mono ?_
        rintro e wm10 ⟨rfl, sm10, Fm10, h, hmv⟩
        have Hm10 := Lib.hid (show Mu.LM pw g1 g2 (gdS litS bx) g wp3 wm10 sm10 Fm10 (stM (oneL s) (oneL s) true true) 0 from h)
        clear h hmv Hm9
        have cc0 := (Xp3_s.out.below Hm10.out.live.bel).cell 0
        have cc1 := (Xp3_s.out.below Hm10.out.live.bel).cell 1
        have cc2 := (Xp3_s.out.below Hm10.out.live.bel).cell 2
        go_wp2_with fail
        clear cc0 cc1 cc2
        have HRD := Lib.hid (su_read (_e := 0) (d0 := none) (d1 := none) Hm10.out (down_row (a := 0) (by omega)) (down_row (a := 1) (by omega)) (zeroP, 13) (by rw [down_read]; rfl))
        unfold spA at HRD
        refine (HRD.out).mono ?_
        rintro e wm11 ⟨rfl, sm11, Fm11, h, hmv⟩
        have Hm11 := Lib.hid (show Mu.LM pw g1 g2 (gdS litS bx) g wp3 wm11 sm11 Fm11 (stM (oneL s) (oneL s) true true) 0 from h)
        clear h hmv Hm10
        clear HRD
        obtain ⟨wA, hwA⟩ : ∃ W, W = wm11.alloc (.cells #[.int .u64 (zeroP.v : Int), .int .i64 zeroP.n, .int .u64 (zeroP.t : Int)] 100) := ⟨_, rfl⟩
        have bwA : Below wm11.heap.size wm11 wA := by rw [hwA]; exact (Below.refl _ _).alloc (Nat.le_refl _) _
        have HA := Lib.hid (Hm11.out.below bwA)
        have DA := Lib.hid (show Blk wA wm11.heap.size #[.int .u64 (zeroP.v : Int), .int .i64 zeroP.n, .int .u64 (zeroP.t : Int)] 100 by rw [hwA]; exact heap_alloc_new _ _)
        have hn := Lib.hid (fun W => uread_nilM (.iface 117 (.agg zeroLit)) W)
        have hn2 := Lib.hid (fun W => uread_nilC g W)
        unfold spA at hn hn2
        have cc0 := (Xp3_s.out.below Hm11.out.live.bel).cell 0
        have cc1 := (Xp3_s.out.below Hm11.out.live.bel).cell 1
        have cc2 := (Xp3_s.out.below Hm11.out.live.bel).cell 2
        go_wp2_with fail
        clear cc0 cc1 cc2
        rw [← hwA]
        clear hwA bwA Hm11
        refine (hn.out wA).mono ?_
        rintro e wB ⟨rfl, bw⟩
        obtain ⟨wC, hwC⟩ : ∃ W, W = wB.alloc (.cells #[.int .u64 (zeroP.v : Int), .int .i64 zeroP.n, .int .u64 (zeroP.t : Int)] 100) := ⟨_, rfl⟩
        have bw := bw.trans ((show Below wB.heap.size wB wC by rw [hwC]; exact (Below.refl _ _).alloc (Nat.le_refl _) _).mono bw.size)
        have HC := Lib.hid (HA.out.below bw)
        have DC := Lib.hid (DA.out.below bw)
        clear bw HA DA hn
        go_wp2_with fail
        rw [← hwC]
        clear hwC
        refine (hn2.out wC).mono ?_
        rintro e wD ⟨rfl, bw⟩
        have bw2 := bw.trans ((show Below wD.heap.size wD (wD.alloc (.cells #[.int .u64 (zeroP.v : Int), .int .i64 zeroP.n, .int .u64 (zeroP.t : Int)] 100)) from (Below.refl _ _).alloc (Nat.le_refl _) _).mono bw.size)
        have HD := Lib.hid (HC.out.below bw2)
        have DD := Lib.hid (DC.out.below bw2)
        clear bw bw2 HC DC hn2
        have cc0 : (wD.alloc (.cells #[.int .u64 (zeroP.v : Int), .int .i64 zeroP.n, .int .u64 (zeroP.t : Int)] 100)).cell? ⟨wm11.heap.size, 0, none⟩ = some (.int .u64 0) := DD.out.cell 0
        have cc1 : (wD.alloc (.cells #[.int .u64 (zeroP.v : Int), .int .i64 zeroP.n, .int .u64 (zeroP.t : Int)] 100)).cell? ⟨wm11.heap.size, 1, none⟩ = some (.int .i64 0) := DD.out.cell 1
        have cc2 : (wD.alloc (.cells #[.int .u64 (zeroP.v : Int), .int .i64 zeroP.n, .int .u64 (zeroP.t : Int)] 100)).cell? ⟨wm11.heap.size, 2, none⟩ = some (.int .u64 0) := DD.out.cell 2
        have hq : ∀ W, (Op.equalIn 10000 100 (.agg #[.int .u64 0, .int .i64 0, .int .u64 0]) (.agg #[.int .u64 0, .int .i64 0, .int .u64 0])).run Try.prog W = .ok true W := fun W => eq_super zeroP W
        go_wp2_with fail
        go_ret
        exact ⟨rfl, Bp3.out.trans (HD.out.live.bel.mono Bp3.out.size)⟩
      | false =>
        skip
        have cc0 := (Xp3_s.out.below Hm5.out.live.bel).cell 0
        have cc1 := (Xp3_s.out.below Hm5.out.live.bel).cell 1
        have cc2 := (Xp3_s.out.below Hm5.out.live.bel).cell 2
        go_wp2_with fail
        clear cc0 cc1 cc2
        have HRT := Lib.hid (Mu.lm_rot0 Hm5.out 0 (q : Int) b)
        rw [show (stM (oneL s) (oneL s) false false).rot 0 0 (q : Int) b = stM (rotL (oneL s) 0 q b) (oneL s) false false from rot_st0 _ _ _ _ (n := 0) (by omega) HQ.out b] at HRT
        refine (HRT.out).mono ?_
        rintro e wm13 ⟨rfl, sm13, Fm13, h, hmv⟩
        have Hm13 := Lib.hid (show Mu.LM pw g1 g2 (gdS litS bx) g wp3 wm13 sm13 Fm13 (stM (rotL (oneL s) 0 q b) (oneL s) false false) 0 from h)
        clear h hmv Hm5
        clear HRT
        have cc0 := (Xp3_s.out.below Hm13.out.live.bel).cell 0
        have cc1 := (Xp3_s.out.below Hm13.out.live.bel).cell 1
        have cc2 := (Xp3_s.out.below Hm13.out.live.bel).cell 2
        go_wp2_with fail
        clear cc0 cc1 cc2
        have HRT := Lib.hid (Mu.lm_rot0 Hm13.out 1 (q : Int) b)
        rw [show (stM (rotL (oneL s) 0 q b) (oneL s) false false).rot 0 1 (q : Int) b = stM (rotL (rotL (oneL s) 0 q b) 1 q b) (oneL s) false false from rot_st0 _ _ _ _ (n := 1) (by omega) HQ.out b] at HRT
        refine (HRT.out).mono ?_
        rintro e wm14 ⟨rfl, sm14, Fm14, h, hmv⟩
        have Hm14 := Lib.hid (show Mu.LM pw g1 g2 (gdS litS bx) g wp3 wm14 sm14 Fm14 (stM (rotL (rotL (oneL s) 0 q b) 1 q b) (oneL s) false false) 0 from h)
        clear h hmv Hm13
        clear HRT
        have cc0 := (Xp3_s.out.below Hm14.out.live.bel).cell 0
        have cc1 := (Xp3_s.out.below Hm14.out.live.bel).cell 1
        have cc2 := (Xp3_s.out.below Hm14.out.live.bel).cell 2
        go_wp2_with fail
        clear cc0 cc1 cc2
        have HRD := Lib.hid (su_read (_e := 0) Hm14.out (row_keeps HSO.out (a := 0) (bx := bx) (by omega) (.inr ⟨rfl, one_sec s⟩) (.inr (keeps_rot s (by omega) HQ.out b)) (.inr (keeps_one s (by omega)))) (row_keeps HSO.out (a := 1) (bx := bx) (by omega) (.inr ⟨rfl, one_sec s⟩) (.inr (keeps_rot s (by omega) HQ.out b)) (.inr (keeps_one s (by omega)))) (s, 0) (by rw [one_take]; rfl))
        unfold spA at HRD
        refine (HRD.out).mono ?_
        rintro e wm15 ⟨rfl, sm15, Fm15, h, hmv⟩
        have Hm15 := Lib.hid (show Mu.LM pw g1 g2 (gdS litS bx) g wp3 wm15 sm15 Fm15 (stM (rot2 (oneL s) q b) (oneL s) false false) 0 from h)
        clear h hmv Hm14
        clear HRD
        have hq := eq_super s
        have cc0 := (Xp3_s.out.below Hm15.out.live.bel).cell 0
        have cc1 := (Xp3_s.out.below Hm15.out.live.bel).cell 1
        have cc2 := (Xp3_s.out.below Hm15.out.live.bel).cell 2
        have cc3 : (wm15.alloc (.cells #[.int .u64 (s.v : Int), .int .i64 s.n, .int .u64 (s.t : Int)] 100)).cell? _ = _ := ((Xp3_s.out.below Hm15.out.live.bel).below (show Below wm15.heap.size wm15 (wm15.alloc (.cells #[.int .u64 (s.v : Int), .int .i64 s.n, .int .u64 (s.t : Int)] 100)) from (Below.refl _ _).alloc (Nat.le_refl _) _)).cell 0
        have cc4 : (wm15.alloc (.cells #[.int .u64 (s.v : Int), .int .i64 s.n, .int .u64 (s.t : Int)] 100)).cell? _ = _ := ((Xp3_s.out.below Hm15.out.live.bel).below (show Below wm15.heap.size wm15 (wm15.alloc (.cells #[.int .u64 (s.v : Int), .int .i64 s.n, .int .u64 (s.t : Int)] 100)) from (Below.refl _ _).alloc (Nat.le_refl _) _)).cell 1
        have cc5 : (wm15.alloc (.cells #[.int .u64 (s.v : Int), .int .i64 s.n, .int .u64 (s.t : Int)] 100)).cell? _ = _ := ((Xp3_s.out.below Hm15.out.live.bel).below (show Below wm15.heap.size wm15 (wm15.alloc (.cells #[.int .u64 (s.v : Int), .int .i64 s.n, .int .u64 (s.t : Int)] 100)) from (Below.refl _ _).alloc (Nat.le_refl _) _)).cell 2
        go_wp2_with fail
        clear cc0 cc1 cc2 cc3 cc4 cc5
        clear hq
        obtain ⟨wa16, hwa16⟩ : ∃ W, W = wm15.alloc (.cells #[.int .u64 (s.v : Int), .int .i64 s.n, .int .u64 (s.t : Int)] 100) := ⟨_, rfl⟩
        have Ha16 := Lib.hid (Hm15.out.below (show Below wm15.heap.size wm15 wa16 by rw [hwa16]; exact (Below.refl _ _).alloc (Nat.le_refl _) _))
        rw [← hwa16]
        clear hwa16 Hm15
        refine (Mu.lm_out0 Ha16.out true).mono ?_
        rintro e wm17 ⟨rfl, sm17, Fm17, h, hmv⟩
        have Hm17 := Lib.hid (show Mu.LM pw g1 g2 (gdS litS bx) g wp3 wm17 sm17 Fm17 (stM (rot2 (oneL s) q b) (oneL s) true false) 0 from h)
        clear h hmv Ha16
        have cc0 := (Xp3_s.out.below Hm17.out.live.bel).cell 0
        have cc1 := (Xp3_s.out.below Hm17.out.live.bel).cell 1
        have cc2 := (Xp3_s.out.below Hm17.out.live.bel).cell 2
        go_wp2_with fail
        clear cc0 cc1 cc2
        refine (Mu.lm_out1 Hm17.out true).mono ?_
        rintro e wm18 ⟨rfl, sm18, Fm18, h, hmv⟩
        have Hm18 := Lib.hid (show Mu.LM pw g1 g2 (gdS litS bx) g wp3 wm18 sm18 Fm18 (stM (rot2 (oneL s) q b) (oneL s) true true) 0 from h)
        clear h hmv Hm17
        have cc0 := (Xp3_s.out.below Hm18.out.live.bel).cell 0
        have cc1 := (Xp3_s.out.below Hm18.out.live.bel).cell 1
        have cc2 := (Xp3_s.out.below Hm18.out.live.bel).cell 2
        go_wp2_with fail
        clear cc0 cc1 cc2
        have HRD := Lib.hid (su_read (_e := 0) (d0 := none) (d1 := none) Hm18.out (down_row (a := 0) (by omega)) (down_row (a := 1) (by omega)) (zeroP, 13) (by rw [down_read]; rfl))
        unfold spA at HRD
        refine (HRD.out).mono ?_
        rintro e wm19 ⟨rfl, sm19, Fm19, h, hmv⟩
        have Hm19 := Lib.hid (show Mu.LM pw g1 g2 (gdS litS bx) g wp3 wm19 sm19 Fm19 (stM (rot2 (oneL s) q b) (oneL s) true true) 0 from h)
        clear h hmv Hm18
        clear HRD
        obtain ⟨wA, hwA⟩ : ∃ W, W = wm19.alloc (.cells #[.int .u64 (zeroP.v : Int), .int .i64 zeroP.n, .int .u64 (zeroP.t : Int)] 100) := ⟨_, rfl⟩
        have bwA : Below wm19.heap.size wm19 wA := by rw [hwA]; exact (Below.refl _ _).alloc (Nat.le_refl _) _
        have HA := Lib.hid (Hm19.out.below bwA)
        have DA := Lib.hid (show Blk wA wm19.heap.size #[.int .u64 (zeroP.v : Int), .int .i64 zeroP.n, .int .u64 (zeroP.t : Int)] 100 by rw [hwA]; exact heap_alloc_new _ _)
        have hn := Lib.hid (fun W => uread_nilM (.iface 117 (.agg zeroLit)) W)
        have hn2 := Lib.hid (fun W => uread_nilC g W)
        unfold spA at hn hn2
        have cc0 := (Xp3_s.out.below Hm19.out.live.bel).cell 0
        have cc1 := (Xp3_s.out.below Hm19.out.live.bel).cell 1
        have cc2 := (Xp3_s.out.below Hm19.out.live.bel).cell 2
        go_wp2_with fail
        clear cc0 cc1 cc2
        rw [← hwA]
        clear hwA bwA Hm19
        refine (hn.out wA).mono ?_
        rintro e wB ⟨rfl, bw⟩
        obtain ⟨wC, hwC⟩ : ∃ W, W = wB.alloc (.cells #[.int .u64 (zeroP.v : Int), .int .i64 zeroP.n, .int .u64 (zeroP.t : Int)] 100) := ⟨_, rfl⟩
        have bw := bw.trans ((show Below wB.heap.size wB wC by rw [hwC]; exact (Below.refl _ _).alloc (Nat.le_refl _) _).mono bw.size)
        have HC := Lib.hid (HA.out.below bw)
        have DC := Lib.hid (DA.out.below bw)
        clear bw HA DA hn
        go_wp2_with fail
        rw [← hwC]
        clear hwC
        refine (hn2.out wC).mono ?_
        rintro e wD ⟨rfl, bw⟩
        have bw2 := bw.trans ((show Below wD.heap.size wD (wD.alloc (.cells #[.int .u64 (zeroP.v : Int), .int .i64 zeroP.n, .int .u64 (zeroP.t : Int)] 100)) from (Below.refl _ _).alloc (Nat.le_refl _) _).mono bw.size)
        have HD := Lib.hid (HC.out.below bw2)
        have DD := Lib.hid (DC.out.below bw2)
        clear bw bw2 HC DC hn2
        have cc0 : (wD.alloc (.cells #[.int .u64 (zeroP.v : Int), .int .i64 zeroP.n, .int .u64 (zeroP.t : Int)] 100)).cell? ⟨wm19.heap.size, 0, none⟩ = some (.int .u64 0) := DD.out.cell 0
        have cc1 : (wD.alloc (.cells #[.int .u64 (zeroP.v : Int), .int .i64 zeroP.n, .int .u64 (zeroP.t : Int)] 100)).cell? ⟨wm19.heap.size, 1, none⟩ = some (.int .i64 0) := DD.out.cell 1
        have cc2 : (wD.alloc (.cells #[.int .u64 (zeroP.v : Int), .int .i64 zeroP.n, .int .u64 (zeroP.t : Int)] 100)).cell? ⟨wm19.heap.size, 2, none⟩ = some (.int .u64 0) := DD.out.cell 2
        have hq : ∀ W, (Op.equalIn 10000 100 (.agg #[.int .u64 0, .int .i64 0, .int .u64 0]) (.agg #[.int .u64 0, .int .i64 0, .int .u64 0])).run Try.prog W = .ok true W := fun W => eq_super zeroP W
        go_wp2_with fail
        go_ret
        exact ⟨rfl, Bp3.out.trans (HD.out.live.bel.mono Bp3.out.size)⟩
    | false =>
      cases out with
      | true =>
        skip
        have cc0 := (Xp3_s.out.below Hm5.out.live.bel).cell 0
        have cc1 := (Xp3_s.out.below Hm5.out.live.bel).cell 1
        have cc2 := (Xp3_s.out.below Hm5.out.live.bel).cell 2
        go_wp2_with fail
        clear cc0 cc1 cc2
        refine (Mu.lm_out1 Hm5.out true).mono ?_
        rintro e wm21 ⟨rfl, sm21, Fm21, h, hmv⟩
        have Hm21 := Lib.hid (show Mu.LM pw g1 g2 (gdS litS bx) g wp3 wm21 sm21 Fm21 (stM (oneL s) (oneL s) false true) 0 from h)
        clear h hmv Hm5
        have cc0 := (Xp3_s.out.below Hm21.out.live.bel).cell 0
        have cc1 := (Xp3_s.out.below Hm21.out.live.bel).cell 1
        have cc2 := (Xp3_s.out.below Hm21.out.live.bel).cell 2
        go_wp2_with fail
        clear cc0 cc1 cc2
        have HRD := Lib.hid (su_read (_e := 0) Hm21.out (row_keeps HSO.out (a := 0) (bx := bx) (by omega) (.inl ⟨rfl, one_sec s⟩) (.inr (keeps_one s (by omega))) (.inl rfl)) (row_keeps HSO.out (a := 1) (bx := bx) (by omega) (.inl ⟨rfl, one_sec s⟩) (.inr (keeps_one s (by omega))) (.inl rfl)) (s, 0) (by rw [one_take]; rfl))
        unfold spA at HRD
        refine (HRD.out).mono ?_
        rintro e wm22 ⟨rfl, sm22, Fm22, h, hmv⟩
        have Hm22 := Lib.hid (show Mu.LM pw g1 g2 (gdS litS bx) g wp3 wm22 sm22 Fm22 (stM (oneL s) (oneL s) false true) 0 from h)
        clear h hmv Hm21
        clear HRD
        have hq := eq_super s
        have cc0 := (Xp3_s.out.below Hm22.out.live.bel).cell 0
        have cc1 := (Xp3_s.out.below Hm22.out.live.bel).cell 1
        have cc2 := (Xp3_s.out.below Hm22.out.live.bel).cell 2
        have cc3 : (wm22.alloc (.cells #[.int .u64 (s.v : Int), .int .i64 s.n, .int .u64 (s.t : Int)] 100)).cell? _ = _ := ((Xp3_s.out.below Hm22.out.live.bel).below (show Below wm22.heap.size wm22 (wm22.alloc (.cells #[.int .u64 (s.v : Int), .int .i64 s.n, .int .u64 (s.t : Int)] 100)) from (Below.refl _ _).alloc (Nat.le_refl _) _)).cell 0
        have cc4 : (wm22.alloc (.cells #[.int .u64 (s.v : Int), .int .i64 s.n, .int .u64 (s.t : Int)] 100)).cell? _ = _ := ((Xp3_s.out.below Hm22.out.live.bel).below (show Below wm22.heap.size wm22 (wm22.alloc (.cells #[.int .u64 (s.v : Int), .int .i64 s.n, .int .u64 (s.t : Int)] 100)) from (Below.refl _ _).alloc (Nat.le_refl _) _)).cell 1
        have cc5 : (wm22.alloc (.cells #[.int .u64 (s.v : Int), .int .i64 s.n, .int .u64 (s.t : Int)] 100)).cell? _ = _ := ((Xp3_s.out.below Hm22.out.live.bel).below (show Below wm22.heap.size wm22 (wm22.alloc (.cells #[.int .u64 (s.v : Int), .int .i64 s.n, .int .u64 (s.t : Int)] 100)) from (Below.refl _ _).alloc (Nat.le_refl _) _)).cell 2
        go_wp2_with fail
        clear cc0 cc1 cc2 cc3 cc4 cc5
        clear hq
        obtain ⟨wa23, hwa23⟩ : ∃ W, W = wm22.alloc (.cells #[.int .u64 (s.v : Int), .int .i64 s.n, .int .u64 (s.t : Int)] 100) := ⟨_, rfl⟩
        have Ha23 := Lib.hid (Hm22.out.below (show Below wm22.heap.size wm22 wa23 by rw [hwa23]; exact (Below.refl _ _).alloc (Nat.le_refl _) _))
        rw [← hwa23]
        clear hwa23 Hm22
        refine (Mu.lm_out0 Ha23.out true).mono ?_
        rintro e wm24 ⟨rfl, sm24, Fm24, h, hmv⟩
        have Hm24 := Lib.hid (show Mu.LM pw g1 g2 (gdS litS bx) g wp3 wm24 sm24 Fm24 (stM (oneL s) (oneL s) true true) 0 from h)
        clear h hmv Ha23
        have cc0 := (Xp3_s.out.below Hm24.out.live.bel).cell 0
        have cc1 := (Xp3_s.out.below Hm24.out.live.bel).cell 1
        have cc2 := (Xp3_s.out.below Hm24.out.live.bel).cell 2
        go_wp2_with fail
        clear cc0 cc1 cc2
        refine (Mu.lm_out1 Hm24.out true).mono ?_
        rintro e wm25 ⟨rfl, sm25, Fm25, h, hmv⟩
        have Hm25 := Lib.hid (show Mu.LM pw g1 g2 (gdS litS bx) g wp3 wm25 sm25 Fm25 (stM (oneL s) (oneL s) true true) 0 from h)
        clear h hmv Hm24
        have cc0 := (Xp3_s.out.below Hm25.out.live.bel).cell 0
        have cc1 := (Xp3_s.out.below Hm25.out.live.bel).cell 1
        have cc2 := (Xp3_s.out.below Hm25.out.live.bel).cell 2
        go_wp2_with fail
        clear cc0 cc1 cc2
        have HRD := Lib.hid (su_read (_e := 0) (d0 := none) (d1 := none) Hm25.out (down_row (a := 0) (by omega)) (down_row (a := 1) (by omega)) (zeroP, 13) (by rw [down_read]; rfl))
        unfold spA at HRD
        refine (HRD.out).mono ?_
        rintro e wm26 ⟨rfl, sm26, Fm26, h, hmv⟩
        have Hm26 := Lib.hid (show Mu.LM pw g1 g2 (gdS litS bx) g wp3 wm26 sm26 Fm26 (stM (oneL s) (oneL s) true true) 0 from h)
        clear h hmv Hm25
        clear HRD
        obtain ⟨wA, hwA⟩ : ∃ W, W = wm26.alloc (.cells #[.int .u64 (zeroP.v : Int), .int .i64 zeroP.n, .int .u64 (zeroP.t : Int)] 100) := ⟨_, rfl⟩
        have bwA : Below wm26.heap.size wm26 wA := by rw [hwA]; exact (Below.refl _ _).alloc (Nat.le_refl _) _
        have HA := Lib.hid (Hm26.out.below bwA)
        have DA := Lib.hid (show Blk wA wm26.heap.size #[.int .u64 (zeroP.v : Int), .int .i64 zeroP.n, .int .u64 (zeroP.t : Int)] 100 by rw [hwA]; exact heap_alloc_new _ _)
        have hn := Lib.hid (fun W => uread_nilM (.iface 117 (.agg zeroLit)) W)
        have hn2 := Lib.hid (fun W => uread_nilC g W)
        unfold spA at hn hn2
        have cc0 := (Xp3_s.out.below Hm26.out.live.bel).cell 0
        have cc1 := (Xp3_s.out.below Hm26.out.live.bel).cell 1
        have cc2 := (Xp3_s.out.below Hm26.out.live.bel).cell 2
        go_wp2_with fail
        clear cc0 cc1 cc2
        rw [← hwA]
        clear hwA bwA Hm26
        refine (hn.out wA).mono ?_
        rintro e wB ⟨rfl, bw⟩
        obtain ⟨wC, hwC⟩ : ∃ W, W = wB.alloc (.cells #[.int .u64 (zeroP.v : Int), .int .i64 zeroP.n, .int .u64 (zeroP.t : Int)] 100) := ⟨_, rfl⟩
        have bw := bw.trans ((show Below wB.heap.size wB wC by rw [hwC]; exact (Below.refl _ _).alloc (Nat.le_refl _) _).mono bw.size)
        have HC := Lib.hid (HA.out.below bw)
        have DC := Lib.hid (DA.out.below bw)
        clear bw HA DA hn
        go_wp2_with fail
        rw [← hwC]
        clear hwC
        refine (hn2.out wC).mono ?_
        rintro e wD ⟨rfl, bw⟩
        have bw2 := bw.trans ((show Below wD.heap.size wD (wD.alloc (.cells #[.int .u64 (zeroP.v : Int), .int .i64 zeroP.n, .int .u64 (zeroP.t : Int)] 100)) from (Below.refl _ _).alloc (Nat.le_refl _) _).mono bw.size)
        have HD := Lib.hid (HC.out.below bw2)
        have DD := Lib.hid (DC.out.below bw2)
        clear bw bw2 HC DC hn2
        have cc0 : (wD.alloc (.cells #[.int .u64 (zeroP.v : Int), .int .i64 zeroP.n, .int .u64 (zeroP.t : Int)] 100)).cell? ⟨wm26.heap.size, 0, none⟩ = some (.int .u64 0) := DD.out.cell 0
        have cc1 : (wD.alloc (.cells #[.int .u64 (zeroP.v : Int), .int .i64 zeroP.n, .int .u64 (zeroP.t : Int)] 100)).cell? ⟨wm26.heap.size, 1, none⟩ = some (.int .i64 0) := DD.out.cell 1
        have cc2 : (wD.alloc (.cells #[.int .u64 (zeroP.v : Int), .int .i64 zeroP.n, .int .u64 (zeroP.t : Int)] 100)).cell? ⟨wm26.heap.size, 2, none⟩ = some (.int .u64 0) := DD.out.cell 2
        have hq : ∀ W, (Op.equalIn 10000 100 (.agg #[.int .u64 0, .int .i64 0, .int .u64 0]) (.agg #[.int .u64 0, .int .i64 0, .int .u64 0])).run Try.prog W = .ok true W := fun W => eq_super zeroP W
        go_wp2_with fail
        go_ret
        exact ⟨rfl, Bp3.out.trans (HD.out.live.bel.mono Bp3.out.size)⟩
      | false =>
        skip
        have cc0 := (Xp3_s.out.below Hm5.out.live.bel).cell 0
        have cc1 := (Xp3_s.out.below Hm5.out.live.bel).cell 1
        have cc2 := (Xp3_s.out.below Hm5.out.live.bel).cell 2
        go_wp2_with fail
        clear cc0 cc1 cc2
        have HRT := Lib.hid (Mu.lm_rot1 Hm5.out 0 (q : Int) b)
        rw [show (stM (oneL s) (oneL s) false false).rot 1 0 (q : Int) b = stM (oneL s) (rotL (oneL s) 0 q b) false false from rot_st1 _ _ _ _ (n := 0) (by omega) HQ.out b] at HRT
        refine (HRT.out).mono ?_
        rintro e wm28 ⟨rfl, sm28, Fm28, h, hmv⟩
        have Hm28 := Lib.hid (show Mu.LM pw g1 g2 (gdS litS bx) g wp3 wm28 sm28 Fm28 (stM (oneL s) (rotL (oneL s) 0 q b) false false) 0 from h)
        clear h hmv Hm5
        clear HRT
        have cc0 := (Xp3_s.out.below Hm28.out.live.bel).cell 0
        have cc1 := (Xp3_s.out.below Hm28.out.live.bel).cell 1
        have cc2 := (Xp3_s.out.below Hm28.out.live.bel).cell 2
        go_wp2_with fail
        clear cc0 cc1 cc2
        have HRT := Lib.hid (Mu.lm_rot1 Hm28.out 1 (q : Int) b)
        rw [show (stM (oneL s) (rotL (oneL s) 0 q b) false false).rot 1 1 (q : Int) b = stM (oneL s) (rotL (rotL (oneL s) 0 q b) 1 q b) false false from rot_st1 _ _ _ _ (n := 1) (by omega) HQ.out b] at HRT
        refine (HRT.out).mono ?_
        rintro e wm29 ⟨rfl, sm29, Fm29, h, hmv⟩
        have Hm29 := Lib.hid (show Mu.LM pw g1 g2 (gdS litS bx) g wp3 wm29 sm29 Fm29 (stM (oneL s) (rotL (rotL (oneL s) 0 q b) 1 q b) false false) 0 from h)
        clear h hmv Hm28
        clear HRT
        have cc0 := (Xp3_s.out.below Hm29.out.live.bel).cell 0
        have cc1 := (Xp3_s.out.below Hm29.out.live.bel).cell 1
        have cc2 := (Xp3_s.out.below Hm29.out.live.bel).cell 2
        go_wp2_with fail
        clear cc0 cc1 cc2
        have HRD := Lib.hid (su_read (_e := 0) Hm29.out (row_keeps HSO.out (a := 0) (bx := bx) (by omega) (.inl ⟨rfl, one_sec s⟩) (.inr (keeps_one s (by omega))) (.inr (keeps_rot s (by omega) HQ.out b))) (row_keeps HSO.out (a := 1) (bx := bx) (by omega) (.inl ⟨rfl, one_sec s⟩) (.inr (keeps_one s (by omega))) (.inr (keeps_rot s (by omega) HQ.out b))) (s, 0) (by rw [one_take]; rfl))
        unfold spA at HRD
        refine (HRD.out).mono ?_
        rintro e wm30 ⟨rfl, sm30, Fm30, h, hmv⟩
        have Hm30 := Lib.hid (show Mu.LM pw g1 g2 (gdS litS bx) g wp3 wm30 sm30 Fm30 (stM (oneL s) (rot2 (oneL s) q b) false false) 0 from h)
        clear h hmv Hm29
        clear HRD
        have hq := eq_super s
        have cc0 := (Xp3_s.out.below Hm30.out.live.bel).cell 0
        have cc1 := (Xp3_s.out.below Hm30.out.live.bel).cell 1
        have cc2 := (Xp3_s.out.below Hm30.out.live.bel).cell 2
        have cc3 : (wm30.alloc (.cells #[.int .u64 (s.v : Int), .int .i64 s.n, .int .u64 (s.t : Int)] 100)).cell? _ = _ := ((Xp3_s.out.below Hm30.out.live.bel).below (show Below wm30.heap.size wm30 (wm30.alloc (.cells #[.int .u64 (s.v : Int), .int .i64 s.n, .int .u64 (s.t : Int)] 100)) from (Below.refl _ _).alloc (Nat.le_refl _) _)).cell 0
        have cc4 : (wm30.alloc (.cells #[.int .u64 (s.v : Int), .int .i64 s.n, .int .u64 (s.t : Int)] 100)).cell? _ = _ := ((Xp3_s.out.below Hm30.out.live.bel).below (show Below wm30.heap.size wm30 (wm30.alloc (.cells #[.int .u64 (s.v : Int), .int .i64 s.n, .int .u64 (s.t : Int)] 100)) from (Below.refl _ _).alloc (Nat.le_refl _) _)).cell 1
        have cc5 : (wm30.alloc (.cells #[.int .u64 (s.v : Int), .int .i64 s.n, .int .u64 (s.t : Int)] 100)).cell? _ = _ := ((Xp3_s.out.below Hm30.out.live.bel).below (show Below wm30.heap.size wm30 (wm30.alloc (.cells #[.int .u64 (s.v : Int), .int .i64 s.n, .int .u64 (s.t : Int)] 100)) from (Below.refl _ _).alloc (Nat.le_refl _) _)).cell 2
        go_wp2_with fail
        clear cc0 cc1 cc2 cc3 cc4 cc5
        clear hq
        obtain ⟨wa31, hwa31⟩ : ∃ W, W = wm30.alloc (.cells #[.int .u64 (s.v : Int), .int .i64 s.n, .int .u64 (s.t : Int)] 100) := ⟨_, rfl⟩
        have Ha31 := Lib.hid (Hm30.out.below (show Below wm30.heap.size wm30 wa31 by rw [hwa31]; exact (Below.refl _ _).alloc (Nat.le_refl _) _))
        rw [← hwa31]
        clear hwa31 Hm30
        refine (Mu.lm_out0 Ha31.out true).mono ?_
        rintro e wm32 ⟨rfl, sm32, Fm32, h, hmv⟩
        have Hm32 := Lib.hid (show Mu.LM pw g1 g2 (gdS litS bx) g wp3 wm32 sm32 Fm32 (stM (oneL s) (rot2 (oneL s) q b) true false) 0 from h)
        clear h hmv Ha31
        have cc0 := (Xp3_s.out.below Hm32.out.live.bel).cell 0
        have cc1 := (Xp3_s.out.below Hm32.out.live.bel).cell 1
        have cc2 := (Xp3_s.out.below Hm32.out.live.bel).cell 2
        go_wp2_with fail
        clear cc0 cc1 cc2
        refine (Mu.lm_out1 Hm32.out true).mono ?_
        rintro e wm33 ⟨rfl, sm33, Fm33, h, hmv⟩
        have Hm33 := Lib.hid (show Mu.LM pw g1 g2 (gdS litS bx) g wp3 wm33 sm33 Fm33 (stM (oneL s) (rot2 (oneL s) q b) true true) 0 from h)
        clear h hmv Hm32
        have cc0 := (Xp3_s.out.below Hm33.out.live.bel).cell 0
        have cc1 := (Xp3_s.out.below Hm33.out.live.bel).cell 1
        have cc2 := (Xp3_s.out.below Hm33.out.live.bel).cell 2
        go_wp2_with fail
        clear cc0 cc1 cc2
        have HRD := Lib.hid (su_read (_e := 0) (d0 := none) (d1 := none) Hm33.out (down_row (a := 0) (by omega)) (down_row (a := 1) (by omega)) (zeroP, 13) (by rw [down_read]; rfl))
        unfold spA at HRD
        refine (HRD.out).mono ?_
        rintro e wm34 ⟨rfl, sm34, Fm34, h, hmv⟩
        have Hm34 := Lib.hid (show Mu.LM pw g1 g2 (gdS litS bx) g wp3 wm34 sm34 Fm34 (stM (oneL s) (rot2 (oneL s) q b) true true) 0 from h)
        clear h hmv Hm33
        clear HRD
        obtain ⟨wA, hwA⟩ : ∃ W, W = wm34.alloc (.cells #[.int .u64 (zeroP.v : Int), .int .i64 zeroP.n, .int .u64 (zeroP.t : Int)] 100) := ⟨_, rfl⟩
        have bwA : Below wm34.heap.size wm34 wA := by rw [hwA]; exact (Below.refl _ _).alloc (Nat.le_refl _) _
        have HA := Lib.hid (Hm34.out.below bwA)
        have DA := Lib.hid (show Blk wA wm34.heap.size #[.int .u64 (zeroP.v : Int), .int .i64 zeroP.n, .int .u64 (zeroP.t : Int)] 100 by rw [hwA]; exact heap_alloc_new _ _)
        have hn := Lib.hid (fun W => uread_nilM (.iface 117 (.agg zeroLit)) W)
        have hn2 := Lib.hid (fun W => uread_nilC g W)
        unfold spA at hn hn2
        have cc0 := (Xp3_s.out.below Hm34.out.live.bel).cell 0
        have cc1 := (Xp3_s.out.below Hm34.out.live.bel).cell 1
        have cc2 := (Xp3_s.out.below Hm34.out.live.bel).cell 2
        go_wp2_with fail
        clear cc0 cc1 cc2
        rw [← hwA]
        clear hwA bwA Hm34
        refine (hn.out wA).mono ?_
        rintro e wB ⟨rfl, bw⟩
        obtain ⟨wC, hwC⟩ : ∃ W, W = wB.alloc (.cells #[.int .u64 (zeroP.v : Int), .int .i64 zeroP.n, .int .u64 (zeroP.t : Int)] 100) := ⟨_, rfl⟩
        have bw := bw.trans ((show Below wB.heap.size wB wC by rw [hwC]; exact (Below.refl _ _).alloc (Nat.le_refl _) _).mono bw.size)
        have HC := Lib.hid (HA.out.below bw)
        have DC := Lib.hid (DA.out.below bw)
        clear bw HA DA hn
        go_wp2_with fail
        rw [← hwC]
        clear hwC
        refine (hn2.out wC).mono ?_
        rintro e wD ⟨rfl, bw⟩
        have bw2 := bw.trans ((show Below wD.heap.size wD (wD.alloc (.cells #[.int .u64 (zeroP.v : Int), .int .i64 zeroP.n, .int .u64 (zeroP.t : Int)] 100)) from (Below.refl _ _).alloc (Nat.le_refl _) _).mono bw.size)
        have HD := Lib.hid (HC.out.below bw2)
        have DD := Lib.hid (DC.out.below bw2)
        clear bw bw2 HC DC hn2
        have cc0 : (wD.alloc (.cells #[.int .u64 (zeroP.v : Int), .int .i64 zeroP.n, .int .u64 (zeroP.t : Int)] 100)).cell? ⟨wm34.heap.size, 0, none⟩ = some (.int .u64 0) := DD.out.cell 0
        have cc1 : (wD.alloc (.cells #[.int .u64 (zeroP.v : Int), .int .i64 zeroP.n, .int .u64 (zeroP.t : Int)] 100)).cell? ⟨wm34.heap.size, 1, none⟩ = some (.int .i64 0) := DD.out.cell 1
        have cc2 : (wD.alloc (.cells #[.int .u64 (zeroP.v : Int), .int .i64 zeroP.n, .int .u64 (zeroP.t : Int)] 100)).cell? ⟨wm34.heap.size, 2, none⟩ = some (.int .u64 0) := DD.out.cell 2
        have hq : ∀ W, (Op.equalIn 10000 100 (.agg #[.int .u64 0, .int .i64 0, .int .u64 0]) (.agg #[.int .u64 0, .int .i64 0, .int .u64 0])).run Try.prog W = .ok true W := fun W => eq_super zeroP W
        go_wp2_with fail
        go_ret
        exact ⟨rfl, Bp3.out.trans (HD.out.live.bel.mono Bp3.out.size)⟩
  · have hk : okP s = false := by simpa using hos
    rw [hk]
    clear hos hk
    have cc0 := Xp3_s.out.cell 0
    have cc1 := Xp3_s.out.cell 1
    have cc2 := Xp3_s.out.cell 2
    go_wp2_with fail
    clear cc0 cc1 cc2
    go_ret
    exact ⟨rfl, Bp3.out⟩
theorem superOne_own : ownKnob Try.prog.godebug = none := by kernel_rfl
theorem superOne_laid : laidOutB Try.prog = true := by kernel_rfl

set_option maxRecDepth 100000 in
theorem superOne_lifted (os : Os) (started : os.Started) (H : Type) (enc : TypeId × Value → H) :
    ReturnsInHanded {} Try.checked os 10 .any (Rows.superOneSpec.pre6 enc Try.prog Try.f10 Rows.superOneRow.domain false) (Rows.superOneSpec.post enc Try.prog Try.f10 false true false false) := by
  refine returnsInHanded_of_change (C := Try.checked) superOne_own started (by kernel_rfl) Try.func10
    (ChangeSpec.witness6 (enc := enc) (C := Try.checked) false ⟨#[], #[.agg #[.int .u64 0, .int .i64 0, .int .u64 0], .bool false, .bool false, .int .u8 0, .int .u8 0], []⟩ 8 (by kernel_rfl) (by kernel_rfl) (by kernel_rfl) (by kernel_rfl)) ?_
  intro W base args ds gs before hval0 hW _ _
  have hval : ∀ (j : Nat) t v, Try.f10.params[j]? = some t → args[j]? = some v → Value.okWide Try.prog W .any base t v := hval0
  have hW' := hW
  obtain ⟨p, q, hA0, hV, rfl, hfz, hnd⟩ := hW
  have hA : DataW.TrodAll enc Try.prog W 0 (fun _ => true) true Try.f10.params.toList args.toList ds p := hA0
  rw [Try.params10] at hA hval
  obtain ⟨v0, vs0, d0, ds0, p0, q0, hargs, rfl, rfl, h0, r0⟩ := trodAll_cons hA
  obtain ⟨v1, vs1, d1, ds1, p1, q1, rfl, rfl, rfl, h1, r1⟩ := trodAll_cons r0
  obtain ⟨v2, vs2, d2, ds2, p2, q2, rfl, rfl, rfl, h2, r2⟩ := trodAll_cons r1
  obtain ⟨v3, vs3, d3, ds3, p3, q3, rfl, rfl, rfl, h3, r3⟩ := trodAll_cons r2
  obtain ⟨v4, vs4, d4, ds4, p4, q4, rfl, rfl, rfl, h4, r4⟩ := trodAll_cons r3
  obtain ⟨rfl, rfl, rfl⟩ := trodAll_nil r4
  obtain rfl : args = #[v0, v1, v2, v3, v4] := by cases args; simp_all
  obtain ⟨rfl, rfl⟩ := trodVars_none hV
  have lt0 : ∀ x ∈ p0, x.block < W.heap.size := by obtain ⟨m, hm⟩ := h0; exact DataW.trod_lt m _ _ _ hm
  obtain ⟨x0, rfl, ox0⟩ := Su.open_super (hval 0 100 v0 rfl rfl) h0
  obtain ⟨a1, rfl, rfl, rfl⟩ := open_bool Try.underlying4 (hval 1 4 v1 rfl rfl) h1
  obtain ⟨a2, rfl, rfl, rfl⟩ := open_bool Try.underlying4 (hval 2 4 v2 rfl rfl) h2
  obtain ⟨a3, rfl, rfl, rfl, w3⟩ := open_int Try.underlying5 (hval 3 5 v3 rfl rfl) h3
  have b3 := bounds_u8 w3
  obtain ⟨a4, rfl, rfl, rfl, w4⟩ := open_int Try.underlying5 (hval 4 5 v4 rfl rfl) h4
  have b4 := bounds_u8 w4
  clear hA0 hval0
  refine (superOne_any W x0 ox0 a1 a2 a3 b3 a4 b4).mono fun e W' ⟨he, bel⟩ => ?_
  subst he
  exact ⟨_, rfl, _, _, _, [], _, [], hW', trodAll_mk1 (shut_bool Try.underlying4 _), (trodAll_cons_mk (Below.trod superOne_laid (by kernel_rfl) (of_decide_eq_true (by kernel_rfl)) h0 bel lt0) (trodAll_cons_mk (shut_bool Try.underlying4 a1) (trodAll_cons_mk (shut_bool Try.underlying4 a2) (trodAll_cons_mk (shut_int Try.underlying5 w3) (trodAll_cons_mk (shut_int Try.underlying5 w4) trodAll_mk0))))), rfl, bel.frame _, fun h => by cases h⟩

theorem superOne_holds : Rows.SuperOneSaid :=
  OpenClaim.holds_of_wide 10 Try.f10 rfl rfl rfl rfl rfl rfl rfl ⟨rfl, rfl, rfl, rfl, rfl⟩ rfl rfl rfl rfl rfl (by kernel_rfl) Try.func10 (by kernel_rfl)
    (of_decide_eq_true (by kernel_rfl)) (by unfold Func.isWrapper; rw [if_neg (of_decide_eq_false (by kernel_rfl))]; exact ⟨rfl, rfl⟩)
    (fun os started H enc _ => superOne_lifted os started H enc)

#print axioms superOne_holds

end Go.Proofs.Ytnplhagfmfggcaa
