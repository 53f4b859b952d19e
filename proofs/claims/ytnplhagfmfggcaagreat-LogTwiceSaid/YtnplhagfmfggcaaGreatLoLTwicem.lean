/-
  LogTwice holds: of any two bytes, any acts and any power failure the law returns true.
-/
import Derived.Test.YtnplhagfmfggcaaGreatLz6
import Derived.Deep.RegionHeld
import Derived.Deep.Cut
import Derived.Test.YtnplhagfmfggcaaGreatRows
import Derived.ProofKit
import Derived.OpenShut
import Derived.ShutString
import Derived.ChangeOld
namespace Go.Proofs.YtnplhagfmfggcaaGreat
open Go.RowKit Kd Mi Sx Sg Lo Go.ChangeShapes Go.WideShapes Go.ChangeAt
attribute [local go_sem ↓] Go.wp_at_zero Go.wp_at_succ
set_option maxRecDepth 100000 in
set_option maxHeartbeats 25600000 in
theorem logTwice_any (w : World) (x0 : Int) (hx0 : 0 ≤ x0 ∧ x0 ≤ 255) (y0 : Int) (hy0 : 0 ≤ y0 ∧ y0 ≤ 255) (A : Option Addr) (N c : Nat) (l : List La) (hl : l.length = N) (_ : N ≤ c) (hm : c ≤ maxLen) (hr : Rd w.heap.size w A (las l)) (hz : ∀ y ∈ l, y.ok w) (c0 c1 c2 c3 c4 : Int) (hcr : byteB c0 ∧ byteB c1 ∧ byteB c2 ∧ byteB c3 ∧ byteB c4) :
    Calls Tryz.prog 3 #[.int .u8 x0, .int .u8 y0, .slice A N c, .agg (crashV c0 c1 c2 c3 c4)] w (RetB (.bool true) w) := by
  unfold byteB at hcr
  obtain ⟨k0, k1, k2, k3, k4⟩ := hcr
  have u0 := k0.1
  have v0 := k0.2
  have u1 := k1.1
  have v1 := k1.2
  have u2 := k2.1
  have v2 := k2.2
  have u3 := k3.1
  have v3 := k3.2
  have u4 := k4.1
  have v4 := k4.2
  have z0 : wrap64 c0 = c0 := by unfold wrap64; omega
  have z1 : wrap64 c1 = c1 := by unfold wrap64; omega
  have z2 : wrap64 c2 = c2 := by unfold wrap64; omega
  have z3 : wrap64 c3 = c3 := by unfold wrap64; omega
  have z4 : wrap64 c4 = c4 := by unfold wrap64; omega
  have q0 : IntKind.i64.wrap c0 = c0 := IntWalk.i64_in _ (by omega)
  have q1 : IntKind.i64.wrap c1 = c1 := IntWalk.i64_in _ (by omega)
  have q2 : IntKind.i64.wrap c2 = c2 := IntWalk.i64_in _ (by omega)
  have q3 : IntKind.i64.wrap c3 = c3 := IntWalk.i64_in _ (by omega)
  have q4 : IntKind.i64.wrap c4 = c4 := IntWalk.i64_in _ (by omega)
  clear k0 k1 k2 k3 k4
  have HL := Lib.hid hl
  have HR := Lib.hid hr
  have HZ := Lib.hid hz
  have hi2 : 0 ≤ x0.tmod 4 ∧ x0.tmod 4 < 4 := by rw [Int.tmod_eq_emod_of_nonneg hx0.1]; omega
  have hj2 : 0 ≤ y0.tmod 4 ∧ y0.tmod 4 < 4 := by rw [Int.tmod_eq_emod_of_nonneg hy0.1]; omega
  obtain ⟨a, ha⟩ : ∃ a : Nat, (a : Int) = 3 + x0.tmod 4 := ⟨(3 + x0.tmod 4).toNat, by omega⟩
  obtain ⟨b, hb⟩ : ∃ b : Nat, (b : Int) = 1 + y0.tmod 4 := ⟨(1 + y0.tmod 4).toNat, by omega⟩
  have HMD := Lib.hid (fun W => made_any x0 y0 hx0 hy0 a b ha hb W)
  have HAB := Lib.hid (show (3 ≤ a ∧ a ≤ 6) ∧ 1 ≤ b ∧ b ≤ 4 by omega)
  have HOK := Lib.hid (show Sg.okS (a : Int) (b : Int) by unfold Sg.okS; omega)
  have GB := Lib.hid (show ∀ y ∈ l, y.b.length ≤ 9223372036854775807 from fun y hy => by have h := (hz y hy).cap; unfold maxLen at h; omega)
  have HGR := Lib.hid (fun W (hR : Rd W.heap.size W A (las l)) => great_any A N c l W hl (by unfold maxLen at hm; omega) hR GB.out)
  obtain ⟨w1, hw1⟩ : ∃ W, W = w.alloc (.cells (crashV c0 c1 c2 c3 c4) 24) := ⟨_, rfl⟩
  obtain ⟨bC, hbC⟩ : ∃ z, z = w.heap.size := ⟨_, rfl⟩
  have B1 := Lib.hid (show Below w.heap.size w w1 by rw [hw1]; exact (Below.refl _ _).alloc (Nat.le_refl _) _)
  have C1 := Lib.hid (show Blk w1 bC (crashV c0 c1 c2 c3 c4) 24 by rw [hw1, hbC]; exact heap_alloc_new _ _)
  have hzl : ∀ W, (zeroValue 53).run Tryz.prog W = .ok (.agg zeroLit) W := fun _ => by kernel_rfl
  unfold crashV at hw1
  clear hl hr hm hz hi2 hj2 ha hb hx0 hy0
  go_enter Tryz.func3, Tryz.ntmps3
  unfold crashV
  go_wp2_with fail
  rw [← hw1, ← hbC]
  clear hw1 hbC
  refine (Lo.awake_any w1).mono ?_
  rintro e w2 ⟨rfl, bw⟩
  have B2 := Lib.hid (B1.out.trans (bw.mono B1.out.size))
  have C2 := Lib.hid (C1.out.below bw)
  have R2 := Lib.hid ((HR.out.below B2.out).more B2.out.size)
  clear bw B1 C1
  go_wp2_with fail
  refine (HGR.out w2 R2.out).mono ?_
  rintro e w3 ⟨rfl, bw⟩
  have B3 := Lib.hid (B2.out.trans (bw.mono B2.out.size))
  have C3 := Lib.hid (C2.out.below bw)
  clear bw R2 B2 C2 HGR
  by_cases hgr : greatL l = true
  · rw [if_pos hgr]
    go_wp2_with fail
    go_ret
    exact ⟨rfl, B3.out⟩
  rw [if_neg hgr]
  have HN30 := Lib.hid (show N ≤ 30 by
    have h : greatL l = false := by simpa using hgr
    rw [greatL, Bool.or_eq_false_iff] at h
    have := of_decide_eq_false h.1; have := HL.out; omega)
  clear hgr
  go_wp2_with fail
  refine (HMD.out w3).mono ?_
  rintro e w4 ⟨p, g1, g2, bx, gm, q, s4, F4, rfl, h⟩
  have H4 := Lib.hid (tw_new h)
  obtain ⟨wb, hwb⟩ : ∃ W, W = w3 := ⟨_, rfl⟩
  rw [← hwb] at H4 C3
  have BB := Lib.hid (show Below w.heap.size w wb by rw [hwb]; exact B3.out)
  clear h hwb B3 HMD
  obtain ⟨RC, hRC⟩ : ∃ RC, RC = rigC p g1 g2 gm q a b := ⟨_, rfl⟩
  have HRC := Lib.hid (show RC[0]? = some (Value.pointer (some ⟨p, 0, none⟩)) ∧ RC[1]? = some (Value.pointer (some ⟨g1, 0, none⟩)) ∧ RC[2]? = some (Value.pointer (some ⟨g2, 0, none⟩)) ∧ RC[5]? = some (Value.int .i64 (a : Int)) ∧ RC[6]? = some (Value.int .i64 (b : Int)) by rw [hRC]; exact ⟨rfl, rfl, rfl, rfl, rfl⟩)
  have HRX := Lib.hid hRC
  obtain ⟨w5, hw5⟩ : ∃ W, W = w4.alloc (.cells RC 34) := ⟨_, rfl⟩
  obtain ⟨bR, hbR⟩ : ∃ z, z = w4.heap.size := ⟨_, rfl⟩
  have hlt4 := (LogL (Mu.one p g1 g2) (gdS litS bx) gm q litS).lt H4.out.live.at_
  have R5 := Lib.hid (show Bz wb w5 F4 bR RC 34 from ⟨by rw [hw5, hbR]; exact heap_alloc_new _ _, by rw [hbR]; exact H4.out.live.bel.size, fun hf => by have := hlt4 _ hf; omega⟩)
  have H5 := Lib.hid (H4.out.below (show Below w4.heap.size w4 w5 by rw [hw5]; exact (Below.refl _ _).alloc (Nat.le_refl _) _))
  rw [hRC] at hw5
  unfold rigC at hw5
  clear hRC H4 hlt4
  unfold rigC
  have HIR : Hid ((Tryz.prog.info? 34).map (·.size) = some RC.size) := Lib.hid (by rw [HRX.out]; exact rig_info)
  go_upto_region 8 with fail
  rw [← hw5, ← hbR]
  clear hw5 hbR
  have CC := Lib.hid (show Blk _ bC _ 24 from C3.out.below H5.out.live.bel)
  have r1 := (R5.out.1.cell 1).trans HRC.out.2.1
  have cc1 : _ = some (Value.int .u8 c1) := CC.out.cell 1
  have cc3 : _ = some (Value.int .u8 c3) := CC.out.cell 3
  go_wp2_with fail
  refine (tl_tear0 H5.out c1 c3).mono ?_
  rintro e w6 ⟨rfl, s6, l6, F6, ht, hm⟩
  have H6 := Lib.hid ht
  have R6 := Lib.hid (R5.out.step hm)
  clear ht hm H5 R5 CC r1 cc1 cc3
  have CC := Lib.hid (show Blk _ bC _ 24 from C3.out.below H6.out.live.bel)
  have r2 := (R6.out.1.cell 2).trans HRC.out.2.2.1
  have cc2 : _ = some (Value.int .u8 c2) := CC.out.cell 2
  have cc4 : _ = some (Value.int .u8 c4) := CC.out.cell 4
  go_wp2_with fail
  refine (tl_tear1 H6.out c2 c4).mono ?_
  rintro e w7 ⟨rfl, s7, l7, F7, ht, hm⟩
  have H7 := Lib.hid ht
  have R7 := Lib.hid (R6.out.step hm)
  clear ht hm H6 R6 CC r2 cc2 cc4
  have CC := Lib.hid (show Blk _ bC _ 24 from C3.out.below H7.out.live.bel)
  have r0 := (R7.out.1.cell 0).trans HRC.out.1
  have cc0 : _ = some (Value.int .u8 c0) := CC.out.cell 0
  go_wp2_with fail
  refine (tl_fail H7.out c0 (by omega)).mono ?_
  rintro e w8 ⟨rfl, s8, l8, F8, ht, hm⟩
  have H8 := Lib.hid ht
  have R8 := Lib.hid (R7.out.step hm)
  clear ht hm H7 R7 CC r0 cc0
  go_wp2_with (refine wpList_load_row rfl 34 (.tmp 9) rfl bR rfl 34 RC (0, 0) _ R8.out.1 rig_under rfl HIR.out ?_)
  rw [HRX.out]
  refine (lplay_any (TwL.mk H8.out.live H8.out.tw) HAB.out A N c l HL.out HN30.out BB.out HR.out HZ.out).mono ?_
  rintro e w9 ⟨rfl, s9, l9, F9, ht, hn, hb, hg⟩
  obtain ⟨FD, hld, hfd⟩ := tl_devs ht
  have D9 := Lib.hid hld
  have PD9 := Lib.hid (And.intro ht.tw.pd hg)
  have R9 := Lib.hid (show Bz wb w9 FD bR RC 34 from ⟨R8.out.1.but hb R8.out.2.2, R8.out.2.1, fun hf => (hn bR (hfd bR hf)).elim R8.out.2.2 (fun h => by have := R8.out.1.lt; omega)⟩)
  clear ht hn hb hg hld hfd H8 R8 HIR
  have r0 := (R9.out.1.cell 0).trans HRC.out.1
  go_wp2_with fail
  refine (live_fail D9.out 0 (by omega)).mono ?_
  rintro e w10 ⟨rfl, F10, h, hn, hb⟩
  have D10 := Lib.hid h
  have R10 := Lib.hid (R9.out.go hn hb)
  clear h hn hb D9 R9 r0
  have r1 := (R10.out.1.cell 1).trans HRC.out.2.1
  go_wp2_with fail
  have hfl := live_flush D10.out 0 (by show 0 < s9.d.ds.length; rw [PD9.out.1.ds]; omega)
  refine hfl.mono ?_
  clear hfl
  rintro e w11 ⟨rfl, F11, h, hn, hb⟩
  have D11 := Lib.hid h
  have R11 := Lib.hid (R10.out.go hn hb)
  clear h hn hb D10 R10 r1
  have r0 := (R11.out.1.cell 0).trans HRC.out.1
  go_wp2_with fail
  refine (live_restart D11.out).mono ?_
  rintro e w12 ⟨rfl, F12, h, hn, hb⟩
  obtain ⟨e0, e1⟩ := see_end PD9.out.1 PD9.out.2 (i := 0) (by omega)
  obtain ⟨e2, e3⟩ := see_end PD9.out.1 PD9.out.2 (i := 1) (by omega)
  obtain ⟨L0, hL0⟩ : ∃ L, L = ((endS s9.d).at 0).st := ⟨_, rfl⟩
  obtain ⟨L1, hL1⟩ : ∃ L, L = ((endS s9.d).at 1).st := ⟨_, rfl⟩
  rw [← hL0] at e0 e1
  rw [← hL1] at e2 e3
  have D12 := Lib.hid (Mu.ld_new h e0 e2)
  have HLL := Lib.hid (And.intro e1 e3)
  have R12 := Lib.hid (R11.out.go hn hb)
  clear h hn hb D11 R11 r0 e0 e1 e2 e3 hL0 hL1 PD9
  go_wp2_with fail
  obtain ⟨wA6, hw6⟩ : ∃ W, W = w12.drew := ⟨_, rfl⟩
  have bd : Below w12.heap.size w12 wA6 := by rw [hw6]; exact (Below.refl _ _).drew
  have D6 := Lib.hid (Mu.LD.below D12.out bd)
  have Y6 := Lib.hid (show Blk wA6 bR RC 34 from R12.out.1.below bd)
  have HFD := Lib.hid (show ¬F12 bR ∧ wb.heap.size ≤ bR from ⟨R12.out.2.2, R12.out.2.1⟩)
  have T6 := Lib.hid (show But F12 wA6 wA6 from But.refl _)
  refine wp_region_held_drew (S := (fun w' => w'.cell? ⟨bR, 1, none⟩ = some (.pointer (some ⟨g1, 0, none⟩)) ∧ w'.cell? ⟨bR, 2, none⟩ = some (.pointer (some ⟨g2, 0, none⟩)) ∧ w'.cell? ⟨bR, 5, none⟩ = some (.int .i64 (a : Int)) ∧ w'.cell? ⟨bR, 6, none⟩ = some (.int .i64 (b : Int)))) (by kernel_rfl) (by rw [← hw6]; exact ⟨(Y6.out.cell 1).trans HRC.out.2.1, (Y6.out.cell 2).trans HRC.out.2.2.1, (Y6.out.cell 5).trans HRC.out.2.2.2.1, (Y6.out.cell 6).trans HRC.out.2.2.2.2⟩) (fun hh => ?_)
  rw [← hw6] at hh ⊢
  have HH := Lib.hid hh
  clear hh hw6
  try simp only [List.getElem_toArray, List.getElem_cons_succ, List.getElem_cons_zero, Act.put, List.setIfInBounds_toArray, List.set_cons_zero, List.set_cons_succ]
  refine wpAnyH_take (i := 0) (v := ?vEA0) rfl (by kernel_rfl) (by kernel_rfl) (by kernel_rfl) (fun _ _ _ h => h) (Or.inl ⟨by rfl, fun w' _ => ?yEA0⟩) HH.out ?_
  case yEA0 => (go_simp; try with_reducible rfl)
  try simp only [List.getElem_toArray, List.getElem_cons_succ, List.getElem_cons_zero, Act.put, List.setIfInBounds_toArray, List.set_cons_zero, List.set_cons_succ]
  refine wpAnyH_take (i := 2) (v := ?vEA2) rfl (by kernel_rfl) (by kernel_rfl) (by kernel_rfl) (fun _ _ _ h => h) (Or.inl ⟨by rfl, fun w' _ => ?yEA2⟩) HH.out ?_
  case yEA2 => (go_simp; try with_reducible rfl)
  try simp only [List.getElem_toArray, List.getElem_cons_succ, List.getElem_cons_zero, Act.put, List.setIfInBounds_toArray, List.set_cons_zero, List.set_cons_succ]
  refine wpAnyH_take (i := 10) (v := ?vEA10) rfl (by kernel_rfl) (by kernel_rfl) (by kernel_rfl) (fun _ _ _ h => h) (Or.inl ⟨by rfl, fun w' _ => ?yEA10⟩) HH.out ?_
  case yEA10 => (go_simp; try with_reducible rfl)
  try simp only [List.getElem_toArray, List.getElem_cons_succ, List.getElem_cons_zero, Act.put, List.setIfInBounds_toArray, List.set_cons_zero, List.set_cons_succ]
  refine wpAnyH_take (i := 1) (v := .pointer (some ⟨g1, 0, none⟩)) rfl (by kernel_rfl) (by kernel_rfl) (by kernel_rfl) (fun _ _ _ h => h) (Or.inl ⟨by rfl, fun w' hw' => ?yEA1⟩) HH.out ?_
  case yEA1 => ((have hc := hw'.1); go_simp; try with_reducible rfl)
  try simp only [List.getElem_toArray, List.getElem_cons_succ, List.getElem_cons_zero, Act.put, List.setIfInBounds_toArray, List.set_cons_zero, List.set_cons_succ]
  refine wpAnyH_take (i := 3) (v := .pointer (some ⟨g2, 0, none⟩)) rfl (by kernel_rfl) (by kernel_rfl) (by kernel_rfl) (fun _ _ _ h => h) (Or.inl ⟨by rfl, fun w' hw' => ?yEA3⟩) HH.out ?_
  case yEA3 => ((have hc := hw'.2.1); go_simp; try with_reducible rfl)
  try simp only [List.getElem_toArray, List.getElem_cons_succ, List.getElem_cons_zero, Act.put, List.setIfInBounds_toArray, List.set_cons_zero, List.set_cons_succ]
  refine wpAnyH_take (i := 11) (v := .agg #[.int .i64 (a : Int), .int .i64 (b : Int)]) rfl (by kernel_rfl) (by kernel_rfl) (by kernel_rfl) (fun _ _ _ h => h) (Or.inl ⟨by rfl, fun w' hw' => ?yEA11⟩) HH.out ?_
  case yEA11 => ((have hc := hw'.2.2.1; have hc2 := hw'.2.2.2); go_simp; try with_reducible rfl)
  try simp only [List.getElem_toArray, List.getElem_cons_succ, List.getElem_cons_zero, Act.put, List.setIfInBounds_toArray, List.set_cons_zero, List.set_cons_succ]
  refine wpAnyH_take (i := 4) (v := .agg zeroLit) rfl (by kernel_rfl) (by kernel_rfl) (by kernel_rfl) (fun _ _ _ h => h) (Or.inl ⟨by rfl, fun w' hw' => ?yEA4⟩) HH.out ?_
  case yEA4 => (go_simp; try with_reducible rfl)
  try simp only [List.getElem_toArray, List.getElem_cons_succ, List.getElem_cons_zero, Act.put, List.setIfInBounds_toArray, List.set_cons_zero, List.set_cons_succ]
  refine wpAnyH_take (i := 8) (v := .agg zeroLit) rfl (by kernel_rfl) (by kernel_rfl) (by kernel_rfl) (fun _ _ _ h => h) (Or.inl ⟨by rfl, fun w' hw' => ?yEA8⟩) HH.out ?_
  case yEA8 => (go_simp; try with_reducible rfl)
  try simp only [List.getElem_toArray, List.getElem_cons_succ, List.getElem_cons_zero, Act.put, List.setIfInBounds_toArray, List.set_cons_zero, List.set_cons_succ]
  refine wpAnyH_take (i := 5) (v := ?vEA5) rfl (by kernel_rfl) (by kernel_rfl) (by kernel_rfl) (fun _ _ _ h => h) (Or.inl ⟨by rfl, fun w' _ => ?yEA5⟩) HH.out ?_
  case yEA5 => (go_simp; try with_reducible rfl)
  try simp only [List.getElem_toArray, List.getElem_cons_succ, List.getElem_cons_zero, Act.put, List.setIfInBounds_toArray, List.set_cons_zero, List.set_cons_succ]
  refine wpAnyH_take (i := 9) (v := ?vEA9) rfl (by kernel_rfl) (by kernel_rfl) (by kernel_rfl) (fun _ _ _ h => h) (Or.inl ⟨by rfl, fun w' _ => ?yEA9⟩) HH.out ?_
  case yEA9 => (go_simp; try with_reducible rfl)
  try simp only [List.getElem_toArray, List.getElem_cons_succ, List.getElem_cons_zero, Act.put, List.setIfInBounds_toArray, List.set_cons_zero, List.set_cons_succ]
  refine wpAnyH_ready (rs := [6]) (by kernel_rfl) (by simp) (AllReadyH.cons rfl (fun K hK => ?_) AllReadyH.nil)
  go_simp
  refine (good_iface 53 (.agg zeroLit) _).mono ?_
  rintro e wA7 ⟨rfl, hw7⟩
  obtain ⟨bG, hbG⟩ : ∃ v, v = wA6.heap.size := ⟨_, rfl⟩
  rw [← hbG]
  have bw : Below wA6.heap.size wA6 wA7 := by rw [hw7]; exact (Below.refl _ _).alloc (Nat.le_refl _) _
  have HBG := Lib.hid (show Blk wA7 bG #[litS.v] 84 by rw [hw7, hbG]; exact heap_alloc_new _ _)
  have NG := Lib.hid (show ¬F12 bG ∧ wb.heap.size ≤ bG ∧ wA6.heap.size ≤ bG from ⟨fun hf => by have := (Mu.one p g1 g2).L.lt D6.out.live.at_ bG hf; omega, by rw [hbG]; exact D6.out.live.bel.size, by rw [hbG]; exact Nat.le_refl _⟩)
  have D7 := Lib.hid (Mu.LD.below D6.out bw)
  have Y7 := Lib.hid (Y6.out.below bw)
  have T7 := Lib.hid (Mi.but_step T6.out (but_below (T := fun _ => False) bw) (fun _ h => h.elim))
  clear bw hw7 hbG
  go_simp
  refine hK.out _ _ ⟨(Y7.out.cell 1).trans HRC.out.2.1, (Y7.out.cell 2).trans HRC.out.2.2.1, (Y7.out.cell 5).trans HRC.out.2.2.2.1, (Y7.out.cell 6).trans HRC.out.2.2.2.2⟩ (fun hh => ?_)
  have HH' := Lib.hid hh
  clear hh hK K HH D6 Y6 T6
  have HH := Lib.hid HH'.out
  clear HH'
  try simp only [List.getElem_toArray, List.getElem_cons_succ, List.getElem_cons_zero, Act.put, List.setIfInBounds_toArray, List.set_cons_zero, List.set_cons_succ]
  refine wpAnyH_ready (rs := [7]) (by kernel_rfl) (by simp) (AllReadyH.cons rfl (fun K hK => ?_) AllReadyH.nil)
  go_simp
  refine (lm_newB (G := gdS litS bG) (fun _ _ _ _ _ _ => trivial) D7.out (fun y hy => by rw [show (gdS litS bG).l = [(bG, #[litS.v], 84)] from rfl, List.mem_singleton] at hy; subst hy; exact ⟨HBG.out, NG.out.1, NG.out.2.1⟩) (n := 2 + a * b) HLL.out.1 HLL.out.2).mono ?_
  rintro e wA8 ⟨gmA, s8, F8, rfl, h, hf, hb⟩
  have D8 := Lib.hid (show Mu.LM p g1 g2 (gdS litS bG) gmA wb wA8 s8 F8 (Sc.startM L0 L1 (2 + a * b)) 0 from h)
  have hmem : ∀ k, (∃ y ∈ (gdS litS bG).l, k = y.1) → k = bG := fun k hk => by obtain ⟨y, hy, e⟩ := hk; rw [show (gdS litS bG).l = [(bG, #[litS.v], 84)] from rfl, List.mem_singleton] at hy; rw [e, hy]
  have T8 := Lib.hid (Mi.but_step T7.out hb (fun k hk => hk.imp id (fun h => by rw [hmem k h]; exact NG.out.2.2)))
  have Y8 := Lib.hid (Y7.out.but hb (fun hx => hx.elim HFD.out.1 (fun h => by have h1 := hmem _ h; have h2 := HBG.out; rw [← h1] at h2; have h3 : wA7.heap[bR]? = some (.cells RC 34 (0, 0)) := Y7.out; have h4 : wA7.heap[bR]? = some (.cells #[litS.v] 84 (0, 0)) := h2; rw [h3] at h4; injection h4 with h4; injection h4 with _ h4; exact absurd h4 (by decide))))
  have K8 := Lib.hid (show ∀ j, j < wA6.heap.size → ¬F12 j → ¬F8 j from fun j hj hn hx => (hf j hx).elim (fun hx => hx.elim hn (fun h => by have := hmem _ h; have := NG.out.2.2; omega)) (fun h => by have := T7.out.size; omega))
  clear h hf hb hmem
  go_simp
  refine hK.out _ _ ⟨(Y8.out.cell 1).trans HRC.out.2.1, (Y8.out.cell 2).trans HRC.out.2.2.1, (Y8.out.cell 5).trans HRC.out.2.2.2.1, (Y8.out.cell 6).trans HRC.out.2.2.2.2⟩ (fun hh => ?_)
  have HH' := Lib.hid hh
  clear hh hK K HH D7 Y7 T7 HBG NG
  have HH := Lib.hid HH'.out
  clear HH'
  try simp only [List.getElem_toArray, List.getElem_cons_succ, List.getElem_cons_zero, Act.put, List.setIfInBounds_toArray, List.set_cons_zero, List.set_cons_succ]
  refine wpAnyH_ready (rs := [12]) (by kernel_rfl) (by simp) (AllReadyH.cons rfl (fun K hK => ?_) AllReadyH.nil)
  go_simp
  refine (topen_any D8.out HLL.out.1 HLL.out.2 a b HOK.out (Nat.le_refl _)).mono ?_
  rintro e wA9 ⟨qA, AA, kA, cA, fA, dA, GA, OA, XA, rfl, hld, how, hfd, hp, hs, h1, h2, h3, h4, h5⟩
  have DDA := Lib.hid hld
  have OWA := Lib.hid how
  have FDA := Lib.hid hfd
  have PSA := Lib.hid (And.intro hp hs)
  have DJA := Lib.hid (And.intro h1 h2)
  have T9 := Lib.hid (Mi.but_step T8.out h5 (fun k hk => (Classical.em (k < wA6.heap.size)).elim (fun hk6 => .inl (Classical.byContradiction fun hn => K8.out k hk6 hn hk)) (fun hk6 => .inr (by omega))))
  have K9 := Lib.hid (show ∀ j, j < wA6.heap.size → ¬F12 j → ¬GA j from fun j hj hn hx => (h3 j (.inl hx)).elim (K8.out j hj hn) (fun h => by have := T8.out.size; omega))
  have Y9 := Lib.hid (Y8.out.but h5 (K8.out bR (by have := (show Blk wA6 bR RC 34 from R12.out.1.below bd).lt; omega) HFD.out.1))
  clear hld how hfd hp hs h1 h2 h3 h4 h5
  go_simp
  refine hK.out _ _ ⟨(Y9.out.cell 1).trans HRC.out.2.1, (Y9.out.cell 2).trans HRC.out.2.2.1, (Y9.out.cell 5).trans HRC.out.2.2.2.1, (Y9.out.cell 6).trans HRC.out.2.2.2.2⟩ (fun hh => ?_)
  have HH' := Lib.hid hh
  clear hh hK K HH D8 Y8 T8 K8
  have HH := Lib.hid HH'.out
  clear HH'
  try simp only [List.getElem_toArray, List.getElem_cons_succ, List.getElem_cons_zero, Act.put, List.setIfInBounds_toArray, List.set_cons_zero, List.set_cons_succ]
  refine wpAnyH_take (i := 13) (v := ?vGA13) rfl (by kernel_rfl) (by kernel_rfl) (by kernel_rfl) (fun _ _ _ h => h) (Or.inl ⟨by rfl, fun w' _ => ?yGA13⟩) HH.out ?_
  case yGA13 => (go_simp; try with_reducible rfl)
  try simp only [List.getElem_toArray, List.getElem_cons_succ, List.getElem_cons_zero, Act.put, List.setIfInBounds_toArray, List.set_cons_zero, List.set_cons_succ]
  refine wpAnyH_take (i := 14) (v := ?vGA14) rfl (by kernel_rfl) (by kernel_rfl) (by kernel_rfl) (fun _ _ _ h => h) (Or.inl ⟨by rfl, fun w' _ => ?yGA14⟩) HH.out ?_
  case yGA14 => (go_simp; try with_reducible rfl)
  try simp only [List.getElem_toArray, List.getElem_cons_succ, List.getElem_cons_zero, Act.put, List.setIfInBounds_toArray, List.set_cons_zero, List.set_cons_succ]
  refine wpAnyH_take (i := 15) (v := ?vGA15) rfl (by kernel_rfl) (by kernel_rfl) (by kernel_rfl) (fun _ _ _ h => h) (Or.inl ⟨by rfl, fun w' _ => ?yGA15⟩) HH.out ?_
  case yGA15 => (go_simp; try with_reducible rfl)
  try simp only [List.getElem_toArray, List.getElem_cons_succ, List.getElem_cons_zero, Act.put, List.setIfInBounds_toArray, List.set_cons_zero, List.set_cons_succ]
  refine wpAnyH_take (i := 16) (v := ?vGA16) rfl (by kernel_rfl) (by kernel_rfl) (by kernel_rfl) (fun _ _ _ h => h) (Or.inl ⟨by rfl, fun w' _ => ?yGA16⟩) HH.out ?_
  case yGA16 => (go_simp; try with_reducible rfl)
  try simp only [List.getElem_toArray, List.getElem_cons_succ, List.getElem_cons_zero, Act.put, List.setIfInBounds_toArray, List.set_cons_zero, List.set_cons_succ]
  refine wpAnyH_take (i := 17) (v := ?vGA17) rfl (by kernel_rfl) (by kernel_rfl) (by kernel_rfl) (fun _ _ _ h => h) (Or.inl ⟨by rfl, fun w' _ => ?yGA17⟩) HH.out ?_
  case yGA17 => (go_simp; try with_reducible rfl)
  try simp only [List.getElem_toArray, List.getElem_cons_succ, List.getElem_cons_zero, Act.put, List.setIfInBounds_toArray, List.set_cons_zero, List.set_cons_succ]
  refine wpAnyH_take (i := 18) (v := ?vGA18) rfl (by kernel_rfl) (by kernel_rfl) (by kernel_rfl) (fun _ _ _ h => h) (Or.inl ⟨by rfl, fun w' _ => ?yGA18⟩) HH.out ?_
  case yGA18 => (go_simp; try with_reducible rfl)
  try simp only [List.getElem_toArray, List.getElem_cons_succ, List.getElem_cons_zero, Act.put, List.setIfInBounds_toArray, List.set_cons_zero, List.set_cons_succ]
  refine wpAnyH_take (i := 19) (v := ?vGA19) rfl (by kernel_rfl) (by kernel_rfl) (by kernel_rfl) (fun _ _ _ h => h) (Or.inl ⟨by rfl, fun w' _ => ?yGA19⟩) HH.out ?_
  case yGA19 => (go_simp; try with_reducible rfl)
  try simp only [List.getElem_toArray, List.getElem_cons_succ, List.getElem_cons_zero, Act.put, List.setIfInBounds_toArray, List.set_cons_zero, List.set_cons_succ]
  refine wpAnyH_done (by kernel_rfl) ?_ _
  clear HH
  have HBA := Lib.hid (show But F12 w12 wA9 from Mi.but_step (but_below (T := F12) bd) T9.out (fun k hk => .inl hk))
  have hsz : w12.heap.size ≤ wA6.heap.size := bd.size
  have RRA := Lib.hid (show Bz wb wA9 GA bR RC 34 from ⟨Y9.out, R12.out.2.1, K9.out bR (by have := R12.out.1.lt; omega) HFD.out.1⟩)
  clear hsz bd T9 K9 Y9 HFD
  obtain ⟨M0, hM0⟩ : ∃ L, L = chosen litS.f L0 L1 L0 (a * b) := ⟨_, rfl⟩
  obtain ⟨M1, hM1⟩ : ∃ L, L = chosen litS.f L0 L1 L1 (a * b) := ⟨_, rfl⟩
  rw [← hM0, ← hM1] at DDA
  have HMM := Lib.hid (show M0.length = 2 + a * b ∧ M1.length = 2 + a * b by rw [hM0, hM1, chosen_length, chosen_length]; exact HLL.out)
  have HBS := Lib.hid (show baseF litS.f M0 M1 (2 + a * b) = baseF litS.f L0 L1 (2 + a * b) by rw [hM0, hM1, Nat.add_comm 2]; exact base_again litS.f L0 L1 (by have := HLL.out.1; omega) (by have := HLL.out.2; omega))
  clear hM0 hM1 D12 R12 HBA
  go_wp2_with fail
  obtain ⟨wB6, hw6⟩ : ∃ W, W = wA9.drew := ⟨_, rfl⟩
  have bd : Below wA9.heap.size wA9 wB6 := by rw [hw6]; exact (Below.refl _ _).drew
  have D6 := Lib.hid (Mu.LD.below DDA.out bd)
  have Y6 := Lib.hid (show Blk wB6 bR RC 34 from RRA.out.1.below bd)
  have HFD := Lib.hid (show ¬GA bR ∧ wb.heap.size ≤ bR from ⟨RRA.out.2.2, RRA.out.2.1⟩)
  have T6 := Lib.hid (show But GA wB6 wB6 from But.refl _)
  refine wp_region_held_drew (S := (fun w' => w'.cell? ⟨bR, 1, none⟩ = some (.pointer (some ⟨g1, 0, none⟩)) ∧ w'.cell? ⟨bR, 2, none⟩ = some (.pointer (some ⟨g2, 0, none⟩)) ∧ w'.cell? ⟨bR, 5, none⟩ = some (.int .i64 (a : Int)) ∧ w'.cell? ⟨bR, 6, none⟩ = some (.int .i64 (b : Int)))) (by kernel_rfl) (by rw [← hw6]; exact ⟨(Y6.out.cell 1).trans HRC.out.2.1, (Y6.out.cell 2).trans HRC.out.2.2.1, (Y6.out.cell 5).trans HRC.out.2.2.2.1, (Y6.out.cell 6).trans HRC.out.2.2.2.2⟩) (fun hh => ?_)
  rw [← hw6] at hh ⊢
  have HH := Lib.hid hh
  clear hh hw6
  try simp only [List.getElem_toArray, List.getElem_cons_succ, List.getElem_cons_zero, Act.put, List.setIfInBounds_toArray, List.set_cons_zero, List.set_cons_succ]
  refine wpAnyH_take (i := 0) (v := ?vEB0) rfl (by kernel_rfl) (by kernel_rfl) (by kernel_rfl) (fun _ _ _ h => h) (Or.inl ⟨by rfl, fun w' _ => ?yEB0⟩) HH.out ?_
  case yEB0 => (go_simp; try with_reducible rfl)
  try simp only [List.getElem_toArray, List.getElem_cons_succ, List.getElem_cons_zero, Act.put, List.setIfInBounds_toArray, List.set_cons_zero, List.set_cons_succ]
  refine wpAnyH_take (i := 2) (v := ?vEB2) rfl (by kernel_rfl) (by kernel_rfl) (by kernel_rfl) (fun _ _ _ h => h) (Or.inl ⟨by rfl, fun w' _ => ?yEB2⟩) HH.out ?_
  case yEB2 => (go_simp; try with_reducible rfl)
  try simp only [List.getElem_toArray, List.getElem_cons_succ, List.getElem_cons_zero, Act.put, List.setIfInBounds_toArray, List.set_cons_zero, List.set_cons_succ]
  refine wpAnyH_take (i := 10) (v := ?vEB10) rfl (by kernel_rfl) (by kernel_rfl) (by kernel_rfl) (fun _ _ _ h => h) (Or.inl ⟨by rfl, fun w' _ => ?yEB10⟩) HH.out ?_
  case yEB10 => (go_simp; try with_reducible rfl)
  try simp only [List.getElem_toArray, List.getElem_cons_succ, List.getElem_cons_zero, Act.put, List.setIfInBounds_toArray, List.set_cons_zero, List.set_cons_succ]
  refine wpAnyH_take (i := 1) (v := .pointer (some ⟨g1, 0, none⟩)) rfl (by kernel_rfl) (by kernel_rfl) (by kernel_rfl) (fun _ _ _ h => h) (Or.inl ⟨by rfl, fun w' hw' => ?yEB1⟩) HH.out ?_
  case yEB1 => ((have hc := hw'.1); go_simp; try with_reducible rfl)
  try simp only [List.getElem_toArray, List.getElem_cons_succ, List.getElem_cons_zero, Act.put, List.setIfInBounds_toArray, List.set_cons_zero, List.set_cons_succ]
  refine wpAnyH_take (i := 3) (v := .pointer (some ⟨g2, 0, none⟩)) rfl (by kernel_rfl) (by kernel_rfl) (by kernel_rfl) (fun _ _ _ h => h) (Or.inl ⟨by rfl, fun w' hw' => ?yEB3⟩) HH.out ?_
  case yEB3 => ((have hc := hw'.2.1); go_simp; try with_reducible rfl)
  try simp only [List.getElem_toArray, List.getElem_cons_succ, List.getElem_cons_zero, Act.put, List.setIfInBounds_toArray, List.set_cons_zero, List.set_cons_succ]
  refine wpAnyH_take (i := 11) (v := .agg #[.int .i64 (a : Int), .int .i64 (b : Int)]) rfl (by kernel_rfl) (by kernel_rfl) (by kernel_rfl) (fun _ _ _ h => h) (Or.inl ⟨by rfl, fun w' hw' => ?yEB11⟩) HH.out ?_
  case yEB11 => ((have hc := hw'.2.2.1; have hc2 := hw'.2.2.2); go_simp; try with_reducible rfl)
  try simp only [List.getElem_toArray, List.getElem_cons_succ, List.getElem_cons_zero, Act.put, List.setIfInBounds_toArray, List.set_cons_zero, List.set_cons_succ]
  refine wpAnyH_take (i := 4) (v := .agg zeroLit) rfl (by kernel_rfl) (by kernel_rfl) (by kernel_rfl) (fun _ _ _ h => h) (Or.inl ⟨by rfl, fun w' hw' => ?yEB4⟩) HH.out ?_
  case yEB4 => (go_simp; try with_reducible rfl)
  try simp only [List.getElem_toArray, List.getElem_cons_succ, List.getElem_cons_zero, Act.put, List.setIfInBounds_toArray, List.set_cons_zero, List.set_cons_succ]
  refine wpAnyH_take (i := 8) (v := .agg zeroLit) rfl (by kernel_rfl) (by kernel_rfl) (by kernel_rfl) (fun _ _ _ h => h) (Or.inl ⟨by rfl, fun w' hw' => ?yEB8⟩) HH.out ?_
  case yEB8 => (go_simp; try with_reducible rfl)
  try simp only [List.getElem_toArray, List.getElem_cons_succ, List.getElem_cons_zero, Act.put, List.setIfInBounds_toArray, List.set_cons_zero, List.set_cons_succ]
  refine wpAnyH_take (i := 5) (v := ?vEB5) rfl (by kernel_rfl) (by kernel_rfl) (by kernel_rfl) (fun _ _ _ h => h) (Or.inl ⟨by rfl, fun w' _ => ?yEB5⟩) HH.out ?_
  case yEB5 => (go_simp; try with_reducible rfl)
  try simp only [List.getElem_toArray, List.getElem_cons_succ, List.getElem_cons_zero, Act.put, List.setIfInBounds_toArray, List.set_cons_zero, List.set_cons_succ]
  refine wpAnyH_take (i := 9) (v := ?vEB9) rfl (by kernel_rfl) (by kernel_rfl) (by kernel_rfl) (fun _ _ _ h => h) (Or.inl ⟨by rfl, fun w' _ => ?yEB9⟩) HH.out ?_
  case yEB9 => (go_simp; try with_reducible rfl)
  try simp only [List.getElem_toArray, List.getElem_cons_succ, List.getElem_cons_zero, Act.put, List.setIfInBounds_toArray, List.set_cons_zero, List.set_cons_succ]
  refine wpAnyH_ready (rs := [6]) (by kernel_rfl) (by simp) (AllReadyH.cons rfl (fun K hK => ?_) AllReadyH.nil)
  go_simp
  refine (good_iface 53 (.agg zeroLit) _).mono ?_
  rintro e wB7 ⟨rfl, hw7⟩
  obtain ⟨bG, hbG⟩ : ∃ v, v = wB6.heap.size := ⟨_, rfl⟩
  rw [← hbG]
  have bw : Below wB6.heap.size wB6 wB7 := by rw [hw7]; exact (Below.refl _ _).alloc (Nat.le_refl _) _
  have HBG := Lib.hid (show Blk wB7 bG #[litS.v] 84 by rw [hw7, hbG]; exact heap_alloc_new _ _)
  have NG := Lib.hid (show ¬GA bG ∧ wb.heap.size ≤ bG ∧ wB6.heap.size ≤ bG from ⟨fun hf => by have := (Mu.one p g1 g2).L.lt D6.out.live.at_ bG hf; omega, by rw [hbG]; exact D6.out.live.bel.size, by rw [hbG]; exact Nat.le_refl _⟩)
  have D7 := Lib.hid (Mu.LD.below D6.out bw)
  have Y7 := Lib.hid (Y6.out.below bw)
  have T7 := Lib.hid (Mi.but_step T6.out (but_below (T := fun _ => False) bw) (fun _ h => h.elim))
  clear bw hw7 hbG
  go_simp
  refine hK.out _ _ ⟨(Y7.out.cell 1).trans HRC.out.2.1, (Y7.out.cell 2).trans HRC.out.2.2.1, (Y7.out.cell 5).trans HRC.out.2.2.2.1, (Y7.out.cell 6).trans HRC.out.2.2.2.2⟩ (fun hh => ?_)
  have HH' := Lib.hid hh
  clear hh hK K HH D6 Y6 T6
  have HH := Lib.hid HH'.out
  clear HH'
  try simp only [List.getElem_toArray, List.getElem_cons_succ, List.getElem_cons_zero, Act.put, List.setIfInBounds_toArray, List.set_cons_zero, List.set_cons_succ]
  refine wpAnyH_ready (rs := [7]) (by kernel_rfl) (by simp) (AllReadyH.cons rfl (fun K hK => ?_) AllReadyH.nil)
  go_simp
  refine (lm_newB (G := gdS litS bG) (fun _ _ _ _ _ _ => trivial) D7.out (fun y hy => by rw [show (gdS litS bG).l = [(bG, #[litS.v], 84)] from rfl, List.mem_singleton] at hy; subst hy; exact ⟨HBG.out, NG.out.1, NG.out.2.1⟩) (n := 2 + a * b) HMM.out.1 HMM.out.2).mono ?_
  rintro e wB8 ⟨gmB, s8, F8, rfl, h, hf, hb⟩
  have D8 := Lib.hid (show Mu.LM p g1 g2 (gdS litS bG) gmB wb wB8 s8 F8 (Sc.startM M0 M1 (2 + a * b)) 0 from h)
  have hmem : ∀ k, (∃ y ∈ (gdS litS bG).l, k = y.1) → k = bG := fun k hk => by obtain ⟨y, hy, e⟩ := hk; rw [show (gdS litS bG).l = [(bG, #[litS.v], 84)] from rfl, List.mem_singleton] at hy; rw [e, hy]
  have T8 := Lib.hid (Mi.but_step T7.out hb (fun k hk => hk.imp id (fun h => by rw [hmem k h]; exact NG.out.2.2)))
  have Y8 := Lib.hid (Y7.out.but hb (fun hx => hx.elim HFD.out.1 (fun h => by have h1 := hmem _ h; have h2 := HBG.out; rw [← h1] at h2; have h3 : wB7.heap[bR]? = some (.cells RC 34 (0, 0)) := Y7.out; have h4 : wB7.heap[bR]? = some (.cells #[litS.v] 84 (0, 0)) := h2; rw [h3] at h4; injection h4 with h4; injection h4 with _ h4; exact absurd h4 (by decide))))
  have K8 := Lib.hid (show ∀ j, j < wB6.heap.size → ¬GA j → ¬F8 j from fun j hj hn hx => (hf j hx).elim (fun hx => hx.elim hn (fun h => by have := hmem _ h; have := NG.out.2.2; omega)) (fun h => by have := T7.out.size; omega))
  clear h hf hb hmem
  go_simp
  refine hK.out _ _ ⟨(Y8.out.cell 1).trans HRC.out.2.1, (Y8.out.cell 2).trans HRC.out.2.2.1, (Y8.out.cell 5).trans HRC.out.2.2.2.1, (Y8.out.cell 6).trans HRC.out.2.2.2.2⟩ (fun hh => ?_)
  have HH' := Lib.hid hh
  clear hh hK K HH D7 Y7 T7 HBG NG
  have HH := Lib.hid HH'.out
  clear HH'
  try simp only [List.getElem_toArray, List.getElem_cons_succ, List.getElem_cons_zero, Act.put, List.setIfInBounds_toArray, List.set_cons_zero, List.set_cons_succ]
  refine wpAnyH_ready (rs := [12]) (by kernel_rfl) (by simp) (AllReadyH.cons rfl (fun K hK => ?_) AllReadyH.nil)
  go_simp
  refine (topen_any D8.out HMM.out.1 HMM.out.2 a b HOK.out (Nat.le_refl _)).mono ?_
  rintro e wB9 ⟨qB, AB, kB, cB, fB, dB, GB_, OB, XB, rfl, hld, how, hfd, hp, hs, h1, h2, h3, h4, h5⟩
  have DDB := Lib.hid hld
  have OWB := Lib.hid how
  have FDB := Lib.hid hfd
  have PSB := Lib.hid (And.intro hp hs)
  have DJB := Lib.hid (And.intro h1 h2)
  have T9 := Lib.hid (Mi.but_step T8.out h5 (fun k hk => (Classical.em (k < wB6.heap.size)).elim (fun hk6 => .inl (Classical.byContradiction fun hn => K8.out k hk6 hn hk)) (fun hk6 => .inr (by omega))))
  have K9 := Lib.hid (show ∀ j, j < wB6.heap.size → ¬GA j → ¬GB_ j from fun j hj hn hx => (h3 j (.inl hx)).elim (K8.out j hj hn) (fun h => by have := T8.out.size; omega))
  have Y9 := Lib.hid (Y8.out.but h5 (K8.out bR (by have := (show Blk wB6 bR RC 34 from RRA.out.1.below bd).lt; omega) HFD.out.1))
  clear hld how hfd hp hs h1 h2 h3 h4 h5
  go_simp
  refine hK.out _ _ ⟨(Y9.out.cell 1).trans HRC.out.2.1, (Y9.out.cell 2).trans HRC.out.2.2.1, (Y9.out.cell 5).trans HRC.out.2.2.2.1, (Y9.out.cell 6).trans HRC.out.2.2.2.2⟩ (fun hh => ?_)
  have HH' := Lib.hid hh
  clear hh hK K HH D8 Y8 T8 K8
  have HH := Lib.hid HH'.out
  clear HH'
  try simp only [List.getElem_toArray, List.getElem_cons_succ, List.getElem_cons_zero, Act.put, List.setIfInBounds_toArray, List.set_cons_zero, List.set_cons_succ]
  refine wpAnyH_take (i := 13) (v := ?vGB13) rfl (by kernel_rfl) (by kernel_rfl) (by kernel_rfl) (fun _ _ _ h => h) (Or.inl ⟨by rfl, fun w' _ => ?yGB13⟩) HH.out ?_
  case yGB13 => (go_simp; try with_reducible rfl)
  try simp only [List.getElem_toArray, List.getElem_cons_succ, List.getElem_cons_zero, Act.put, List.setIfInBounds_toArray, List.set_cons_zero, List.set_cons_succ]
  refine wpAnyH_take (i := 14) (v := ?vGB14) rfl (by kernel_rfl) (by kernel_rfl) (by kernel_rfl) (fun _ _ _ h => h) (Or.inl ⟨by rfl, fun w' _ => ?yGB14⟩) HH.out ?_
  case yGB14 => (go_simp; try with_reducible rfl)
  try simp only [List.getElem_toArray, List.getElem_cons_succ, List.getElem_cons_zero, Act.put, List.setIfInBounds_toArray, List.set_cons_zero, List.set_cons_succ]
  refine wpAnyH_take (i := 15) (v := ?vGB15) rfl (by kernel_rfl) (by kernel_rfl) (by kernel_rfl) (fun _ _ _ h => h) (Or.inl ⟨by rfl, fun w' _ => ?yGB15⟩) HH.out ?_
  case yGB15 => (go_simp; try with_reducible rfl)
  try simp only [List.getElem_toArray, List.getElem_cons_succ, List.getElem_cons_zero, Act.put, List.setIfInBounds_toArray, List.set_cons_zero, List.set_cons_succ]
  refine wpAnyH_take (i := 16) (v := ?vGB16) rfl (by kernel_rfl) (by kernel_rfl) (by kernel_rfl) (fun _ _ _ h => h) (Or.inl ⟨by rfl, fun w' _ => ?yGB16⟩) HH.out ?_
  case yGB16 => (go_simp; try with_reducible rfl)
  try simp only [List.getElem_toArray, List.getElem_cons_succ, List.getElem_cons_zero, Act.put, List.setIfInBounds_toArray, List.set_cons_zero, List.set_cons_succ]
  refine wpAnyH_take (i := 17) (v := ?vGB17) rfl (by kernel_rfl) (by kernel_rfl) (by kernel_rfl) (fun _ _ _ h => h) (Or.inl ⟨by rfl, fun w' _ => ?yGB17⟩) HH.out ?_
  case yGB17 => (go_simp; try with_reducible rfl)
  try simp only [List.getElem_toArray, List.getElem_cons_succ, List.getElem_cons_zero, Act.put, List.setIfInBounds_toArray, List.set_cons_zero, List.set_cons_succ]
  refine wpAnyH_take (i := 18) (v := ?vGB18) rfl (by kernel_rfl) (by kernel_rfl) (by kernel_rfl) (fun _ _ _ h => h) (Or.inl ⟨by rfl, fun w' _ => ?yGB18⟩) HH.out ?_
  case yGB18 => (go_simp; try with_reducible rfl)
  try simp only [List.getElem_toArray, List.getElem_cons_succ, List.getElem_cons_zero, Act.put, List.setIfInBounds_toArray, List.set_cons_zero, List.set_cons_succ]
  refine wpAnyH_take (i := 19) (v := ?vGB19) rfl (by kernel_rfl) (by kernel_rfl) (by kernel_rfl) (fun _ _ _ h => h) (Or.inl ⟨by rfl, fun w' _ => ?yGB19⟩) HH.out ?_
  case yGB19 => (go_simp; try with_reducible rfl)
  try simp only [List.getElem_toArray, List.getElem_cons_succ, List.getElem_cons_zero, Act.put, List.setIfInBounds_toArray, List.set_cons_zero, List.set_cons_succ]
  refine wpAnyH_done (by kernel_rfl) ?_ _
  clear HH
  have HBB := Lib.hid (show But GA wA9 wB9 from Mi.but_step (but_below (T := GA) bd) T9.out (fun k hk => .inl hk))
  have hsz : wA9.heap.size ≤ wB6.heap.size := bd.size
  have RRB := Lib.hid (show Bz wb wB9 GB_ bR RC 34 from ⟨Y9.out, RRA.out.2.1, K9.out bR (by have := RRA.out.1.lt; omega) HFD.out.1⟩)
  clear hsz bd T9 K9 Y9 HFD
  have OWA2 := Lib.hid ((OwnR gmA qA litS).but OWA.out HBB.out (fun j h1 h2 => DJA.out.1 j h2 h1))
  have FDA2 := Lib.hid ((FdL AA kA cA).but FDA.out HBB.out (fun j h1 h2 => DJA.out.2 j (.inl h2) h1))
  have HEQ := Lib.hid (show fA.map Fd.it = fB.map Fd.it from sorted_one (PSA.out.1.trans (by rw [← HBS.out]; exact PSB.out.1.symm)) PSA.out.2 PSB.out.2)
  obtain rfl : kA = kB := by
    have h1 := fd_len FDA2.out
    have h2 := fd_len FDB.out
    have h3 := congrArg List.length HEQ.out
    rw [List.length_map, List.length_map] at h3
    omega
  obtain ⟨RL, hRL⟩ : ∃ r, r = (fB.map Fd.it).foldl Rl.learn (Rl.new a b) := ⟨_, rfl⟩
  rw [HEQ.out] at OWA2
  have OWA3 := Lib.hid (show (OwnR gmA qA litS).At wB9 RL OA by subst hRL; exact OWA2.out)
  have OWB3 := Lib.hid (show (OwnR gmB qB litS).At wB9 RL OB by subst hRL; exact OWB.out)
  have BW9 := Lib.hid (BB.out.trans (DDB.out.live.bel.mono BB.out.size))
  have HKN := Lib.hid (show kA ≤ 9223372036854775807 by have h := Mi.own_cap FDA2.out.1.row; unfold maxLen at h; omega)
  clear hRL OWA2 OWB OWA FDA PSA DJA HBS PSB DJB HBB RRB DDB BB HLL HMM HRX C3 RRA DDA
  go_wp2_with fail
  obtain ⟨bmA, hra⟩ := own_rlo OWA3.out
  refine (room_any hra).mono ?_
  clear hra
  rintro e w20 ⟨rfl, bw⟩
  have OA20 := Lib.hid ((OwnR gmA qA litS).below OWA3.out bw)
  have OB20 := Lib.hid ((OwnR gmB qB litS).below OWB3.out bw)
  have FA20 := Lib.hid ((FdL AA kA cA).below FDA2.out bw)
  have FB20 := Lib.hid ((FdL AB kA cB).below FDB.out bw)
  have B20 := Lib.hid (BW9.out.trans (bw.mono BW9.out.size))
  clear bw OWA3 OWB3 FDA2 FDB BW9
  go_wp2_with fail
  obtain ⟨bmB, hra⟩ := own_rlo OB20.out
  refine (room_any hra).mono ?_
  clear hra
  rintro e w21 ⟨rfl, bw⟩
  have OA21 := Lib.hid ((OwnR gmA qA litS).below OA20.out bw)
  have OB21 := Lib.hid ((OwnR gmB qB litS).below OB20.out bw)
  have FA21 := Lib.hid ((FdL AA kA cA).below FA20.out bw)
  have FB21 := Lib.hid ((FdL AB kA cB).below FB20.out bw)
  have B21 := Lib.hid (B20.out.trans (bw.mono B20.out.size))
  clear bw OA20 OB20 FA20 FB20 B20
  obtain ⟨rm, hrm⟩ : ∃ v, v = RL.room := ⟨_, rfl⟩
  rw [← hrm]
  clear hrm
  go_wp2_with fail
  go_loopw [127] (fun i wr => ∃ j : Nat, j ≤ kA ∧ i = .int .i64 (j : Int) ∧ Hid (Below w21.heap.size w21 wr)) (fun i _ => kA - (intOf i).toNat)
  case atStart => exact ⟨0, Nat.zero_le _, rfl, Lib.hid (Below.refl _ _)⟩
  case round =>
    obtain ⟨j, hj, rfl, BR⟩ := hrel
    by_cases hlt : j < kA
    · have j0 : (0 : Int) ≤ (j : Int) := by omega
      have j1 : (j : Int) < (kA : Int) := by omega
      have wp1 : IntKind.i64.wrap ((j : Int) + 1) = ((j + 1 : Nat) : Int) := IntWalk.i64_in _ (by have := HKN.out; omega)
      have wp2 : wrap64 ((j : Int) + 1) = ((j + 1 : Nat) : Int) := by have := HKN.out; unfold wrap64; omega
      have HJ := Lib.hid (show j + 1 ≤ kA from hlt)
      obtain ⟨gA, x, hA, hx, hc0, hc1, hc2, hrA⟩ := fd_at ((FdL AA kA cA).below FA21.out BR.out) hlt
      obtain ⟨gB, y, hB, hy, hd0, hd1, hd2, hrB⟩ := fd_at ((FdL AB kA cB).below FB21.out BR.out) hlt
      subst hA
      subst hB
      obtain ⟨e0, e1, e2⟩ := it_eq HEQ.out hx hy
      rw [e0] at hd0
      rw [e1] at hd1
      rw [e2] at hd2 hrB
      obtain ⟨kk, hkk⟩ : ∃ v, v = x.at_ := ⟨_, rfl⟩
      obtain ⟨xg, hxg⟩ : ∃ v, v = x.gen := ⟨_, rfl⟩
      obtain ⟨tb, htb⟩ : ∃ v, v = x.b := ⟨_, rfl⟩
      obtain ⟨xA, hxA⟩ : ∃ v, v = x.A := ⟨_, rfl⟩
      obtain ⟨xc, hxc⟩ : ∃ v, v = x.c := ⟨_, rfl⟩
      obtain ⟨yA, hyA⟩ : ∃ v, v = y.A := ⟨_, rfl⟩
      obtain ⟨yc, hyc⟩ : ∃ v, v = y.c := ⟨_, rfl⟩
      rw [← hkk] at hc0 hd0
      rw [← hxg] at hc1 hd1
      rw [← htb, ← hxA, ← hxc] at hc2
      rw [← htb, ← hyA, ← hyc] at hd2
      rw [← htb, ← hxA] at hrA
      rw [← htb, ← hyA] at hrB
      have HC := Lib.hid (And.intro hc0 (And.intro hc1 (And.intro hc2 (And.intro hd0 (And.intro hd1 (And.intro hd2 (And.intro hrA hrB)))))))
      obtain ⟨Z, hZ⟩ : ∃ Z : ByteArray, Z = ⟨tb.toArray⟩ := ⟨_, rfl⟩
      have HZ9 := Lib.hid hZ
      clear hkk hxg htb hxA hxc hyA hyc hc0 hc1 hc2 hd0 hd1 hd2 hrA hrB e0 e1 e2 hx hy hlt hj hZ
      go_wp2_with fail
      refine wp_region_held_drew (S := (fun w' => w'.cell? ⟨gA, j * 3, none⟩ = some (.int .i64 (kk : Int)) ∧ w'.cell? ⟨gA, j * 3 + 1, none⟩ = some (.int .u64 (xg : Int)) ∧ w'.cell? ⟨gA, j * 3 + 2, none⟩ = some (.slice xA tb.length xc) ∧ w'.cell? ⟨gB, j * 3, none⟩ = some (.int .i64 (kk : Int)) ∧ w'.cell? ⟨gB, j * 3 + 1, none⟩ = some (.int .u64 (xg : Int)) ∧ w'.cell? ⟨gB, j * 3 + 2, none⟩ = some (.slice yA tb.length yc) ∧ Rd wr.heap.size w' xA (bv tb) ∧ Rd wr.heap.size w' yA (bv tb))) (by kernel_rfl) ⟨(show (World.drew _).cell? _ = _ from HC.out.1), (show (World.drew _).cell? _ = _ from HC.out.2.1), (show (World.drew _).cell? _ = _ from HC.out.2.2.1), (show (World.drew _).cell? _ = _ from HC.out.2.2.2.1), (show (World.drew _).cell? _ = _ from HC.out.2.2.2.2.1), (show (World.drew _).cell? _ = _ from HC.out.2.2.2.2.2.1), HC.out.2.2.2.2.2.2.1.drewN 1, HC.out.2.2.2.2.2.2.2.drewN 1⟩ (fun hh => ?_)
      have HH := Lib.hid hh
      clear hh
      try simp only [List.getElem_toArray, List.getElem_cons_succ, List.getElem_cons_zero, Act.put, List.setIfInBounds_toArray, List.set_cons_zero, List.set_cons_succ]
      refine wpAnyH_take (i := 0) (v := ?vQ0) rfl (by kernel_rfl) (by kernel_rfl) (by kernel_rfl) (fun _ _ _ h => h) (Or.inl ⟨by rfl, fun w' _ => ?yQ0⟩) HH.out ?_
      case yQ0 => (go_simp; try with_reducible rfl)
      try simp only [List.getElem_toArray, List.getElem_cons_succ, List.getElem_cons_zero, Act.put, List.setIfInBounds_toArray, List.set_cons_zero, List.set_cons_succ]
      refine wpAnyH_take (i := 1) (v := ?vQ1) rfl (by kernel_rfl) (by kernel_rfl) (by kernel_rfl) (fun _ _ _ h => h) (Or.inl ⟨by rfl, fun w' _ => ?yQ1⟩) HH.out ?_
      case yQ1 => (go_simp; try with_reducible rfl)
      try simp only [List.getElem_toArray, List.getElem_cons_succ, List.getElem_cons_zero, Act.put, List.setIfInBounds_toArray, List.set_cons_zero, List.set_cons_succ]
      refine wpAnyH_take (i := 2) (v := ?vQ2) rfl (by kernel_rfl) (by kernel_rfl) (by kernel_rfl) (fun _ _ _ h => h) (Or.inl ⟨by rfl, fun w' _ => ?yQ2⟩) HH.out ?_
      case yQ2 => (go_simp; try with_reducible rfl)
      try simp only [List.getElem_toArray, List.getElem_cons_succ, List.getElem_cons_zero, Act.put, List.setIfInBounds_toArray, List.set_cons_zero, List.set_cons_succ]
      refine wpAnyH_take (i := 3) (v := ?vQ3) rfl (by kernel_rfl) (by kernel_rfl) (by kernel_rfl) (fun _ _ _ h => h) (Or.inl ⟨by rfl, fun w' _ => ?yQ3⟩) HH.out ?_
      case yQ3 => (go_simp; try with_reducible rfl)
      try simp only [List.getElem_toArray, List.getElem_cons_succ, List.getElem_cons_zero, Act.put, List.setIfInBounds_toArray, List.set_cons_zero, List.set_cons_succ]
      refine wpAnyH_take (i := 4) (v := .int .i64 (kk : Int)) rfl (by kernel_rfl) (by kernel_rfl) (by kernel_rfl) (fun _ _ _ h => h) (Or.inl ⟨by rfl, fun w' hw' => ?yQ4⟩) HH.out ?_
      case yQ4 => ((have hc := hw'.1); go_simp; try with_reducible rfl)
      try simp only [List.getElem_toArray, List.getElem_cons_succ, List.getElem_cons_zero, Act.put, List.setIfInBounds_toArray, List.set_cons_zero, List.set_cons_succ]
      refine wpAnyH_take (i := 5) (v := ?vQ5) rfl (by kernel_rfl) (by kernel_rfl) (by kernel_rfl) (fun _ _ _ h => h) (Or.inl ⟨by rfl, fun w' _ => ?yQ5⟩) HH.out ?_
      case yQ5 => (go_simp; try with_reducible rfl)
      try simp only [List.getElem_toArray, List.getElem_cons_succ, List.getElem_cons_zero, Act.put, List.setIfInBounds_toArray, List.set_cons_zero, List.set_cons_succ]
      refine wpAnyH_take (i := 6) (v := ?vQ6) rfl (by kernel_rfl) (by kernel_rfl) (by kernel_rfl) (fun _ _ _ h => h) (Or.inl ⟨by rfl, fun w' _ => ?yQ6⟩) HH.out ?_
      case yQ6 => (go_simp; try with_reducible rfl)
      try simp only [List.getElem_toArray, List.getElem_cons_succ, List.getElem_cons_zero, Act.put, List.setIfInBounds_toArray, List.set_cons_zero, List.set_cons_succ]
      refine wpAnyH_take (i := 7) (v := ?vQ7) rfl (by kernel_rfl) (by kernel_rfl) (by kernel_rfl) (fun _ _ _ h => h) (Or.inl ⟨by rfl, fun w' _ => ?yQ7⟩) HH.out ?_
      case yQ7 => (go_simp; try with_reducible rfl)
      try simp only [List.getElem_toArray, List.getElem_cons_succ, List.getElem_cons_zero, Act.put, List.setIfInBounds_toArray, List.set_cons_zero, List.set_cons_succ]
      refine wpAnyH_take (i := 8) (v := ?vQ8) rfl (by kernel_rfl) (by kernel_rfl) (by kernel_rfl) (fun _ _ _ h => h) (Or.inl ⟨by rfl, fun w' _ => ?yQ8⟩) HH.out ?_
      case yQ8 => (go_simp; try with_reducible rfl)
      try simp only [List.getElem_toArray, List.getElem_cons_succ, List.getElem_cons_zero, Act.put, List.setIfInBounds_toArray, List.set_cons_zero, List.set_cons_succ]
      refine wpAnyH_take (i := 9) (v := .int .i64 (kk : Int)) rfl (by kernel_rfl) (by kernel_rfl) (by kernel_rfl) (fun _ _ _ h => h) (Or.inl ⟨by rfl, fun w' hw' => ?yQ9⟩) HH.out ?_
      case yQ9 => ((have hc := hw'.2.2.2.1); go_simp; try with_reducible rfl)
      try simp only [List.getElem_toArray, List.getElem_cons_succ, List.getElem_cons_zero, Act.put, List.setIfInBounds_toArray, List.set_cons_zero, List.set_cons_succ]
      refine wpAnyH_take (i := 10) (v := ?vQ10) rfl (by kernel_rfl) (by kernel_rfl) (by kernel_rfl) (fun _ _ _ h => h) (Or.inl ⟨by rfl, fun w' _ => ?yQ10⟩) HH.out ?_
      case yQ10 => (go_simp; try with_reducible rfl)
      try simp only [List.getElem_toArray, List.getElem_cons_succ, List.getElem_cons_zero, Act.put, List.setIfInBounds_toArray, List.set_cons_zero, List.set_cons_succ]
      refine wpAnyH_take (i := 11) (v := ?vQ11) rfl (by kernel_rfl) (by kernel_rfl) (by kernel_rfl) (fun _ _ _ h => h) (Or.inl ⟨by rfl, fun w' _ => ?yQ11⟩) HH.out ?_
      case yQ11 => (go_simp; try with_reducible rfl)
      try simp only [List.getElem_toArray, List.getElem_cons_succ, List.getElem_cons_zero, Act.put, List.setIfInBounds_toArray, List.set_cons_zero, List.set_cons_succ]
      refine wpAnyH_take (i := 12) (v := ?vQ12) rfl (by kernel_rfl) (by kernel_rfl) (by kernel_rfl) (fun _ _ _ h => h) (Or.inl ⟨by rfl, fun w' _ => ?yQ12⟩) HH.out ?_
      case yQ12 => (go_simp; try with_reducible rfl)
      try simp only [List.getElem_toArray, List.getElem_cons_succ, List.getElem_cons_zero, Act.put, List.setIfInBounds_toArray, List.set_cons_zero, List.set_cons_succ]
      refine wpAnyH_take (i := 13) (v := ?vQ13) rfl (by kernel_rfl) (by kernel_rfl) (by kernel_rfl) (fun _ _ _ h => h) (Or.inl ⟨by rfl, fun w' _ => ?yQ13⟩) HH.out ?_
      case yQ13 => (go_simp; try with_reducible rfl)
      try simp only [List.getElem_toArray, List.getElem_cons_succ, List.getElem_cons_zero, Act.put, List.setIfInBounds_toArray, List.set_cons_zero, List.set_cons_succ]
      refine wpAnyH_take (i := 14) (v := ?vQ14) rfl (by kernel_rfl) (by kernel_rfl) (by kernel_rfl) (fun _ _ _ h => h) (Or.inl ⟨by rfl, fun w' _ => ?yQ14⟩) HH.out ?_
      case yQ14 => (go_simp; try with_reducible rfl)
      try simp only [List.getElem_toArray, List.getElem_cons_succ, List.getElem_cons_zero, Act.put, List.setIfInBounds_toArray, List.set_cons_zero, List.set_cons_succ]
      refine wpAnyH_take (i := 15) (v := ?vQ15) rfl (by kernel_rfl) (by kernel_rfl) (by kernel_rfl) (fun _ _ _ h => h) (Or.inl ⟨by rfl, fun w' _ => ?yQ15⟩) HH.out ?_
      case yQ15 => (go_simp; try with_reducible rfl)
      try simp only [List.getElem_toArray, List.getElem_cons_succ, List.getElem_cons_zero, Act.put, List.setIfInBounds_toArray, List.set_cons_zero, List.set_cons_succ]
      refine wpAnyH_take (i := 16) (v := .int .u64 (xg : Int)) rfl (by kernel_rfl) (by kernel_rfl) (by kernel_rfl) (fun _ _ _ h => h) (Or.inl ⟨by rfl, fun w' hw' => ?yQ16⟩) HH.out ?_
      case yQ16 => ((have hc := hw'.2.1); go_simp; try with_reducible rfl)
      try simp only [List.getElem_toArray, List.getElem_cons_succ, List.getElem_cons_zero, Act.put, List.setIfInBounds_toArray, List.set_cons_zero, List.set_cons_succ]
      refine wpAnyH_take (i := 17) (v := ?vQ17) rfl (by kernel_rfl) (by kernel_rfl) (by kernel_rfl) (fun _ _ _ h => h) (Or.inl ⟨by rfl, fun w' _ => ?yQ17⟩) HH.out ?_
      case yQ17 => (go_simp; try with_reducible rfl)
      try simp only [List.getElem_toArray, List.getElem_cons_succ, List.getElem_cons_zero, Act.put, List.setIfInBounds_toArray, List.set_cons_zero, List.set_cons_succ]
      refine wpAnyH_take (i := 18) (v := ?vQ18) rfl (by kernel_rfl) (by kernel_rfl) (by kernel_rfl) (fun _ _ _ h => h) (Or.inl ⟨by rfl, fun w' _ => ?yQ18⟩) HH.out ?_
      case yQ18 => (go_simp; try with_reducible rfl)
      try simp only [List.getElem_toArray, List.getElem_cons_succ, List.getElem_cons_zero, Act.put, List.setIfInBounds_toArray, List.set_cons_zero, List.set_cons_succ]
      refine wpAnyH_take (i := 19) (v := ?vQ19) rfl (by kernel_rfl) (by kernel_rfl) (by kernel_rfl) (fun _ _ _ h => h) (Or.inl ⟨by rfl, fun w' _ => ?yQ19⟩) HH.out ?_
      case yQ19 => (go_simp; try with_reducible rfl)
      try simp only [List.getElem_toArray, List.getElem_cons_succ, List.getElem_cons_zero, Act.put, List.setIfInBounds_toArray, List.set_cons_zero, List.set_cons_succ]
      refine wpAnyH_take (i := 20) (v := ?vQ20) rfl (by kernel_rfl) (by kernel_rfl) (by kernel_rfl) (fun _ _ _ h => h) (Or.inl ⟨by rfl, fun w' _ => ?yQ20⟩) HH.out ?_
      case yQ20 => (go_simp; try with_reducible rfl)
      try simp only [List.getElem_toArray, List.getElem_cons_succ, List.getElem_cons_zero, Act.put, List.setIfInBounds_toArray, List.set_cons_zero, List.set_cons_succ]
      refine wpAnyH_take (i := 21) (v := .int .u64 (xg : Int)) rfl (by kernel_rfl) (by kernel_rfl) (by kernel_rfl) (fun _ _ _ h => h) (Or.inl ⟨by rfl, fun w' hw' => ?yQ21⟩) HH.out ?_
      case yQ21 => ((have hc := hw'.2.2.2.2.1); go_simp; try with_reducible rfl)
      try simp only [List.getElem_toArray, List.getElem_cons_succ, List.getElem_cons_zero, Act.put, List.setIfInBounds_toArray, List.set_cons_zero, List.set_cons_succ]
      refine wpAnyH_take (i := 22) (v := ?vQ22) rfl (by kernel_rfl) (by kernel_rfl) (by kernel_rfl) (fun _ _ _ h => h) (Or.inl ⟨by rfl, fun w' _ => ?yQ22⟩) HH.out ?_
      case yQ22 => (go_simp; try with_reducible rfl)
      try simp only [List.getElem_toArray, List.getElem_cons_succ, List.getElem_cons_zero, Act.put, List.setIfInBounds_toArray, List.set_cons_zero, List.set_cons_succ]
      refine wpAnyH_take (i := 23) (v := ?vQ23) rfl (by kernel_rfl) (by kernel_rfl) (by kernel_rfl) (fun _ _ _ h => h) (Or.inl ⟨by rfl, fun w' _ => ?yQ23⟩) HH.out ?_
      case yQ23 => (go_simp; try with_reducible rfl)
      try simp only [List.getElem_toArray, List.getElem_cons_succ, List.getElem_cons_zero, Act.put, List.setIfInBounds_toArray, List.set_cons_zero, List.set_cons_succ]
      refine wpAnyH_take (i := 24) (v := ?vQ24) rfl (by kernel_rfl) (by kernel_rfl) (by kernel_rfl) (fun _ _ _ h => h) (Or.inl ⟨by rfl, fun w' _ => ?yQ24⟩) HH.out ?_
      case yQ24 => (go_simp; try with_reducible rfl)
      try simp only [List.getElem_toArray, List.getElem_cons_succ, List.getElem_cons_zero, Act.put, List.setIfInBounds_toArray, List.set_cons_zero, List.set_cons_succ]
      refine wpAnyH_take (i := 25) (v := ?vQ25) rfl (by kernel_rfl) (by kernel_rfl) (by kernel_rfl) (fun _ _ _ h => h) (Or.inl ⟨by rfl, fun w' _ => ?yQ25⟩) HH.out ?_
      case yQ25 => (go_simp; try with_reducible rfl)
      try simp only [List.getElem_toArray, List.getElem_cons_succ, List.getElem_cons_zero, Act.put, List.setIfInBounds_toArray, List.set_cons_zero, List.set_cons_succ]
      refine wpAnyH_take (i := 26) (v := ?vQ26) rfl (by kernel_rfl) (by kernel_rfl) (by kernel_rfl) (fun _ _ _ h => h) (Or.inl ⟨by rfl, fun w' _ => ?yQ26⟩) HH.out ?_
      case yQ26 => (go_simp; try with_reducible rfl)
      try simp only [List.getElem_toArray, List.getElem_cons_succ, List.getElem_cons_zero, Act.put, List.setIfInBounds_toArray, List.set_cons_zero, List.set_cons_succ]
      refine wpAnyH_take (i := 27) (v := ?vQ27) rfl (by kernel_rfl) (by kernel_rfl) (by kernel_rfl) (fun _ _ _ h => h) (Or.inl ⟨by rfl, fun w' _ => ?yQ27⟩) HH.out ?_
      case yQ27 => (go_simp; try with_reducible rfl)
      try simp only [List.getElem_toArray, List.getElem_cons_succ, List.getElem_cons_zero, Act.put, List.setIfInBounds_toArray, List.set_cons_zero, List.set_cons_succ]
      refine wpAnyH_take (i := 28) (v := ?vQ28) rfl (by kernel_rfl) (by kernel_rfl) (by kernel_rfl) (fun _ _ _ h => h) (Or.inl ⟨by rfl, fun w' _ => ?yQ28⟩) HH.out ?_
      case yQ28 => (go_simp; try with_reducible rfl)
      try simp only [List.getElem_toArray, List.getElem_cons_succ, List.getElem_cons_zero, Act.put, List.setIfInBounds_toArray, List.set_cons_zero, List.set_cons_succ]
      refine wpAnyH_take (i := 29) (v := .slice xA tb.length xc) rfl (by kernel_rfl) (by kernel_rfl) (by kernel_rfl) (fun _ _ _ h => h) (Or.inl ⟨by rfl, fun w' hw' => ?yQ29⟩) HH.out ?_
      case yQ29 => ((have hc := hw'.2.2.1); go_simp; try with_reducible rfl)
      try simp only [List.getElem_toArray, List.getElem_cons_succ, List.getElem_cons_zero, Act.put, List.setIfInBounds_toArray, List.set_cons_zero, List.set_cons_succ]
      refine wpAnyH_take (i := 30) (v := .string Z) rfl (by kernel_rfl) (by kernel_rfl) (by kernel_rfl) (fun _ _ _ h => h) (Or.inl ⟨by rfl, fun w' hw' => ?yQ30⟩) HH.out ?_
      case yQ30 => (have kc := conv_rd (c := xc) Tryz.underlying55 Tryz.underlying5 Tryz.underlying9 (hw'.2.2.2.2.2.2.1) (rfl); rw [← HZ9.out] at kc; go_simp; try with_reducible rfl)
      try simp only [List.getElem_toArray, List.getElem_cons_succ, List.getElem_cons_zero, Act.put, List.setIfInBounds_toArray, List.set_cons_zero, List.set_cons_succ]
      refine wpAnyH_take (i := 31) (v := ?vQ31) rfl (by kernel_rfl) (by kernel_rfl) (by kernel_rfl) (fun _ _ _ h => h) (Or.inl ⟨by rfl, fun w' _ => ?yQ31⟩) HH.out ?_
      case yQ31 => (go_simp; try with_reducible rfl)
      try simp only [List.getElem_toArray, List.getElem_cons_succ, List.getElem_cons_zero, Act.put, List.setIfInBounds_toArray, List.set_cons_zero, List.set_cons_succ]
      refine wpAnyH_take (i := 32) (v := ?vQ32) rfl (by kernel_rfl) (by kernel_rfl) (by kernel_rfl) (fun _ _ _ h => h) (Or.inl ⟨by rfl, fun w' _ => ?yQ32⟩) HH.out ?_
      case yQ32 => (go_simp; try with_reducible rfl)
      try simp only [List.getElem_toArray, List.getElem_cons_succ, List.getElem_cons_zero, Act.put, List.setIfInBounds_toArray, List.set_cons_zero, List.set_cons_succ]
      refine wpAnyH_take (i := 33) (v := ?vQ33) rfl (by kernel_rfl) (by kernel_rfl) (by kernel_rfl) (fun _ _ _ h => h) (Or.inl ⟨by rfl, fun w' _ => ?yQ33⟩) HH.out ?_
      case yQ33 => (go_simp; try with_reducible rfl)
      try simp only [List.getElem_toArray, List.getElem_cons_succ, List.getElem_cons_zero, Act.put, List.setIfInBounds_toArray, List.set_cons_zero, List.set_cons_succ]
      refine wpAnyH_take (i := 34) (v := ?vQ34) rfl (by kernel_rfl) (by kernel_rfl) (by kernel_rfl) (fun _ _ _ h => h) (Or.inl ⟨by rfl, fun w' _ => ?yQ34⟩) HH.out ?_
      case yQ34 => (go_simp; try with_reducible rfl)
      try simp only [List.getElem_toArray, List.getElem_cons_succ, List.getElem_cons_zero, Act.put, List.setIfInBounds_toArray, List.set_cons_zero, List.set_cons_succ]
      refine wpAnyH_take (i := 35) (v := .slice yA tb.length yc) rfl (by kernel_rfl) (by kernel_rfl) (by kernel_rfl) (fun _ _ _ h => h) (Or.inl ⟨by rfl, fun w' hw' => ?yQ35⟩) HH.out ?_
      case yQ35 => ((have hc := hw'.2.2.2.2.2.1); go_simp; try with_reducible rfl)
      try simp only [List.getElem_toArray, List.getElem_cons_succ, List.getElem_cons_zero, Act.put, List.setIfInBounds_toArray, List.set_cons_zero, List.set_cons_succ]
      refine wpAnyH_take (i := 36) (v := .string Z) rfl (by kernel_rfl) (by kernel_rfl) (by kernel_rfl) (fun _ _ _ h => h) (Or.inl ⟨by rfl, fun w' hw' => ?yQ36⟩) HH.out ?_
      case yQ36 => (have kc := conv_rd (c := yc) Tryz.underlying55 Tryz.underlying5 Tryz.underlying9 (hw'.2.2.2.2.2.2.2) (rfl); rw [← HZ9.out] at kc; go_simp; try with_reducible rfl)
      try simp only [List.getElem_toArray, List.getElem_cons_succ, List.getElem_cons_zero, Act.put, List.setIfInBounds_toArray, List.set_cons_zero, List.set_cons_succ]
      refine wpAnyH_take (i := 37) (v := ?vQ37) rfl (by kernel_rfl) (by kernel_rfl) (by kernel_rfl) (fun _ _ _ h => h) (Or.inl ⟨by rfl, fun w' _ => ?yQ37⟩) HH.out ?_
      case yQ37 => (go_simp; try with_reducible rfl)
      try simp only [List.getElem_toArray, List.getElem_cons_succ, List.getElem_cons_zero, Act.put, List.setIfInBounds_toArray, List.set_cons_zero, List.set_cons_succ]
      refine wpAnyH_take (i := 38) (v := ?vQ38) rfl (by kernel_rfl) (by kernel_rfl) (by kernel_rfl) (fun _ _ _ h => h) (Or.inl ⟨by rfl, fun w' _ => ?yQ38⟩) HH.out ?_
      case yQ38 => (go_simp; try with_reducible rfl)
      try simp only [List.getElem_toArray, List.getElem_cons_succ, List.getElem_cons_zero, Act.put, List.setIfInBounds_toArray, List.set_cons_zero, List.set_cons_succ]
      refine wpAnyH_done (by kernel_rfl) ?_ _
      have BD := Lib.hid (show Below w21.heap.size w21 wr.drew from BR.out.trans ((Below.refl _ _).drew.mono BR.out.size))
      obtain ⟨w22, hw22⟩ : ∃ v, v = wr.drew := ⟨_, rfl⟩
      rw [← hw22] at BD ⊢
      clear HH hw22 HC
      go_wp2_with fail
      go_roundw
      case rel => exact ⟨j + 1, HJ.out, rfl, BD⟩
      case measure => (simp only [intOf, Int.toNat_natCast]; exact Nat.sub_lt_sub_left HJ.out (Nat.lt_succ_self j))
    · have hd : ¬ (j : Int) < (kA : Int) := by omega
      have OA22 := Lib.hid ((OwnR gmA qA litS).below OA21.out BR.out)
      have OB22 := Lib.hid ((OwnR gmB qB litS).below OB21.out BR.out)
      have B22 := Lib.hid (B21.out.trans (BR.out.mono B21.out.size))
      clear hlt hj FA21 FB21 OA21 OB21 B21 BR
      obtain ⟨sg, hsg⟩ : ∃ v, v = RL.seg := ⟨_, rfl⟩
      obtain ⟨sl, hsl⟩ : ∃ v, v = RL.slot := ⟨_, rfl⟩
      have HA9 := Lib.hid (show ∀ W, (OwnR gmA qA litS).At W RL OA → Calls Tryz.prog 16 #[.pointer (some ⟨qA, 0, none⟩)] W (RetB (.tuple #[.int .i64 sg, .int .i64 sl]) W) from fun W h => by obtain ⟨bm, hra⟩ := own_rlo h; rw [hsg, hsl]; exact head_any hra)
      have HB9 := Lib.hid (show ∀ W, (OwnR gmB qB litS).At W RL OB → Calls Tryz.prog 16 #[.pointer (some ⟨qB, 0, none⟩)] W (RetB (.tuple #[.int .i64 sg, .int .i64 sl]) W) from fun W h => by obtain ⟨bm, hra⟩ := own_rlo h; rw [hsg, hsl]; exact head_any hra)
      clear hsg hsl
      go_wp2_with fail
      refine (HA9.out _ OA22.out).mono ?_
      rintro e w23 ⟨rfl, bw⟩
      have OB23 := Lib.hid ((OwnR gmB qB litS).below OB22.out bw)
      have B23 := Lib.hid (B22.out.trans (bw.mono B22.out.size))
      clear bw OA22 OB22 B22
      go_wp2_with fail
      refine (HB9.out _ OB23.out).mono ?_
      rintro e w24 ⟨rfl, bw⟩
      have B24 := Lib.hid (B23.out.trans (bw.mono B23.out.size))
      clear bw OB23 B23
      go_wp2_with fail
      go_ret
      exact ⟨rfl, B24.out⟩
theorem logTwice_own : ownKnob Tryz.prog.godebug = none := by kernel_rfl
theorem logTwice_laid : laidOutB Tryz.prog = true := by kernel_rfl

set_option maxRecDepth 100000 in
theorem logTwice_lifted (os : Os) (started : os.Started) (H : Type) (enc : TypeId × Value → H) :
    ReturnsInHanded {} Tryz.checked os 3 .any (Rows.logTwiceSpec.pre6 enc Tryz.prog Tryz.f3 Rows.logTwiceRow.domain false) (Rows.logTwiceSpec.post enc Tryz.prog Tryz.f3 false true false false) := by
  refine returnsInHanded_of_change (C := Tryz.checked) logTwice_own started (by kernel_rfl) Tryz.func3
    (ChangeSpec.witness6 (enc := enc) (C := Tryz.checked) false ⟨#[], #[.int .u8 0, .int .u8 0, .slice none 0 0, .agg #[.int .u8 0, .int .u8 0, .int .u8 0, .int .u8 0, .int .u8 0]], []⟩ 8 (by kernel_rfl) (by kernel_rfl) (by kernel_rfl) (by kernel_rfl)) ?_
  intro W base args ds gs before hval0 hW _ _
  have hval : ∀ (j : Nat) t v, Tryz.f3.params[j]? = some t → args[j]? = some v → Value.okWide Tryz.prog W .any base t v := hval0
  have hW' := hW
  obtain ⟨p, q, hA0, hV, rfl, hfz, hnd⟩ := hW
  have hA : DataW.TrodAll enc Tryz.prog W 0 (fun _ => true) true Tryz.f3.params.toList args.toList ds p := hA0
  rw [Tryz.params3] at hA hval
  obtain ⟨v0, vs0, d0, ds0, p0, q0, hargs, rfl, rfl, h0, r0⟩ := trodAll_cons hA
  obtain ⟨v1, vs1, d1, ds1, p1, q1, rfl, rfl, rfl, h1, r1⟩ := trodAll_cons r0
  obtain ⟨v2, vs2, d2, ds2, p2, q2, rfl, rfl, rfl, h2, r2⟩ := trodAll_cons r1
  obtain ⟨v3, vs3, d3, ds3, p3, q3, rfl, rfl, rfl, h3, r3⟩ := trodAll_cons r2
  obtain ⟨rfl, rfl, rfl⟩ := trodAll_nil r3
  obtain rfl : args = #[v0, v1, v2, v3] := by cases args; simp_all
  obtain ⟨rfl, rfl⟩ := trodVars_none hV
  obtain ⟨a0, rfl, rfl, rfl, w0⟩ := open_int Tryz.underlying5 (hval 0 5 v0 rfl rfl) h0
  have b0 := bounds_u8 w0
  obtain ⟨a1, rfl, rfl, rfl, w1⟩ := open_int Tryz.underlying5 (hval 1 5 v1 rfl rfl) h1
  have b1 := bounds_u8 w1
  obtain ⟨a2, n2, c2, rfl⟩ := okWide_slice Tryz.underlying22 (hval 2 22 v2 rfl rfl)
  have lt2 : ∀ x ∈ p2, x.block < W.heap.size := by obtain ⟨m, hm⟩ := h2; exact DataW.trod_lt m _ _ _ hm
  obtain ⟨l2, hl2, hc2, hm2, hr2, hz2⟩ := Lo.open_lacts h2
  have lt3 : ∀ x ∈ p3, x.block < W.heap.size := by obtain ⟨m, hm⟩ := h3; exact DataW.trod_lt m _ _ _ hm
  obtain ⟨ca3, cb3, cc3, cd3, ce3, rfl, hcr3⟩ := Lo.open_crash (hval 3 24 v3 rfl rfl) h3
  clear hA0 hval0
  refine (logTwice_any W a0 b0 a1 b1 a2 n2 c2 l2 hl2 hc2 hm2 hr2 hz2 ca3 cb3 cc3 cd3 ce3 hcr3).mono fun e W' ⟨he, bel⟩ => ?_
  subst he
  exact ⟨_, rfl, _, _, _, [], _, [], hW', trodAll_mk1 (shut_bool Tryz.underlying4 _), (trodAll_cons_mk (shut_int Tryz.underlying5 w0) (trodAll_cons_mk (shut_int Tryz.underlying5 w1) (trodAll_cons_mk (Below.trod logTwice_laid (by kernel_rfl) (of_decide_eq_true (by kernel_rfl)) h2 bel lt2) (trodAll_cons_mk (Below.trod logTwice_laid (by kernel_rfl) (of_decide_eq_true (by kernel_rfl)) h3 bel lt3) trodAll_mk0)))), rfl, bel.frame _, fun h => by cases h⟩

theorem logTwice_holds : Rows.LogTwiceSaid :=
  OpenClaim.holds_of_wide 3 Tryz.f3 rfl rfl rfl rfl rfl rfl rfl ⟨rfl, rfl, rfl, rfl, rfl⟩ rfl rfl rfl rfl rfl (by kernel_rfl) Tryz.func3 (by kernel_rfl)
    (of_decide_eq_true (by kernel_rfl)) (by unfold Func.isWrapper; rw [if_neg (of_decide_eq_false (by kernel_rfl))]; exact ⟨rfl, rfl⟩)
    (fun os started H enc _ => logTwice_lifted os started H enc)

#print axioms logTwice_holds

end Go.Proofs.YtnplhagfmfggcaaGreat
