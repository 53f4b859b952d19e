/-
  The law DeviceFlushes holds: behind a flush of a device that doesn't lie nothing waits, and all that is read is stable, whatever power does then. For any deeds and numbers.
-/
import Derived.Test.YtolbffcbamfbeaaKdFluP
import Derived.OrdersHeld
import Derived.Deep.RegionHeld
import Derived.Test.YtolbffcbamfbeaaRows
import Derived.Test.YtolbffcbamfbeaaOpen
import Derived.Test.YtolbffcbamfbeaaOpenA
import Derived.ProofKit
import Derived.OpenShut
import Derived.ShutString
import Derived.ChangeOld
namespace Go.Proofs.Ytolbffcbamfbeaa
open Go.RowKit Go.Maps Kd Go.ChangeShapes Go.WideShapes Go.ChangeAt
attribute [local go_sem ↓] Go.wp_at_zero Go.wp_at_succ
set_option maxRecDepth 100000 in
set_option maxHeartbeats 12800000 in
theorem deviceFlushes_any (w : World) (s0 : Int) (_ : -9223372036854775808 ≤ s0 ∧ s0 ≤ 9223372036854775807) (A : Option Addr) (n c : Nat) (l : List Dd) (hl : l.length = n) (hc : n ≤ c) (hm : c ≤ maxLen) (hr : Rd w.heap.size w A (dds l)) (hz : ∀ y ∈ l, y.ok) (kp : Int) (_ : -9223372036854775808 ≤ kp ∧ kp ≤ 9223372036854775807) (by_ : Int) (_ : -9223372036854775808 ≤ by_ ∧ by_ ≤ 9223372036854775807) : Calls Try.prog 5 #[.int .i64 s0, .slice A n c, .int .i64 kp, .int .i64 by_] w (RetB (.bool true) w) := by
  obtain ⟨z, hz0⟩ : ∃ z : List UInt8, z = zeroS := ⟨_, rfl⟩
  have hz' : ∀ W, (zeroValue 38).run Try.prog W = .ok (.agg (bva z)) W := fun _ => by rw [hz0]; kernel_rfl
  have HZ := Lib.hid hz0
  have HZ3 := Lib.hid (show z.length = 128 by rw [hz0]; exact zeroS_length)
  have HLL := Lib.hid hl
  have HRD := Lib.hid hr
  have HZZ := Lib.hid hz
  have HCC := Lib.hid (show n ≤ c ∧ c ≤ maxLen from ⟨hc, hm⟩)
  clear hz0 hl hr hz hc hm
  go_enter Try.func5, Try.ntmps5
  go_wp2_with fail
  refine (kdAwake_any _).mono ?_
  rintro e w1 ⟨rfl, bw1⟩
  have B1 := Lib.hid bw1
  clear bw1
  by_cases hbig : 30 < n
  · have n1 : (30 : Int) < (n : Int) := by omega
    go_wp2_with fail
    go_ret
    exact ⟨rfl, B1.out⟩
  · have n1 : ¬ (30 : Int) < (n : Int) := by omega
    have HNB := Lib.hid (show n ≤ 30 by omega)
    clear hbig
    by_cases hs : 20 < s0
    · go_wp2_with fail
      go_ret
      exact ⟨rfl, B1.out⟩
    · obtain ⟨M, hM⟩ : ∃ M, M = clampN s0 := ⟨_, rfl⟩
      have HM := Lib.hid (show M ≤ 20 by rw [hM]; unfold clampN; omega)
      have HMC := Lib.hid hM
      clear hM
      go_wp2_with fail
      refine live_power.mono ?_
      rintro e w2 ⟨p, rfl, F2, h⟩
      have H2 := Lib.hid h
      clear h
      clear hs n1
      go_wp2_with fail
      refine (live_new H2.out (by decide) s0).mono ?_
      rintro e w3 ⟨g1, rfl, F3, h, hf3, hb3⟩
      have H3 := Lib.hid (show Live w1 w3 p [g1] (S0.new s0) F3 from h)
      clear h hf3 hb3 H2 
      have HA := Lib.hid (show Live w1 w3 p [g1] (lieS M false []) F3 from by rw [HMC.out]; exact H3.out)
      clear H3
      go_wp2_with fail
      go_loopw [11] (fun i wr => ∃ (k : Nat) (F : Nat → Prop) (wt : List (Nat × List UInt8)), k ≤ n ∧ i = .int .i64 k ∧ wt.length ≤ k ∧ Live w1 wr p [g1] (lieS M false wt) F) (fun i _ => n - (intOf i).toNat)
      case atStart => exact ⟨0, F3, [], Nat.zero_le _, rfl, Nat.le_refl _, HA.out⟩
      case round =>
        clear HA
        obtain ⟨k, FF, wt, hk, rfl, hwt, hlive⟩ := hrel
        have H := Lib.hid hlive
        have HK := Lib.hid hk
        have HW := Lib.hid hwt
        clear hlive hk hwt
        by_cases hlt : k < n
        ·
          have hkl : k < l.length := by rw [HLL.out]; exact hlt
          obtain ⟨x, hxe⟩ : ∃ x, x = l[k] := ⟨_, rfl⟩
          obtain ⟨ad, hA, hq1, hq2⟩ := rd_deed HRD.out hkl
          subst hA
          have hcells : ∀ w', Below w.heap.size w w' → ∀ j v, (ddV x)[j]? = some v → w'.cell? ((ad.add (k * 5)).add j) = some v := fun w' hb' j v hv => by
            obtain ⟨ad', hA', _, hc'⟩ := rd_deed (HRD.out.below hb') hkl
            injection hA' with hA'; subst hA'
            exact hc' j v (by rw [← hxe]; exact hv)
          have HN2 := Lib.hid (show ∀ w', Below w.heap.size w w' → w'.cell? ⟨(ad.add (k * 5)).block, (ad.add (k * 5)).off + 2, none⟩ = some (.int .i64 x.n) from fun w' hb' => hcells w' hb' 2 _ rfl)
          have HN4 := Lib.hid (show ∀ w', Below w.heap.size w w' → w'.cell? ⟨(ad.add (k * 5)).block, (ad.add (k * 5)).off + 4, none⟩ = some (.int .u8 (x.c.toNat : Int)) from fun w' hb' => hcells w' hb' 4 _ rfl)
          have HXO := Lib.hid (HZZ.out x (by rw [hxe]; exact List.getElem_mem hkl))
          have HXG := Lib.hid (show l[k]? = some x from by rw [hxe]; exact List.getElem?_eq_getElem hkl)
          have HLT := Lib.hid hlt
          have k0 : (0 : Int) ≤ (k : Int) := by omega
          have k1 : (k : Int) < (n : Int) := by omega
          have k2 : (k : Int) < 30 := by have := HNB.out; omega
          clear hq1 hq2 hxe hkl hcells hlt
          obtain ⟨r, wt2, hrw, hr2⟩ : ∃ (r : Int) (wt2 : List (Nat × List UInt8)), (lieS M false wt).write 0 x.n (secC x.c) = (r, lieS M false wt2) ∧ wt2.length ≤ wt.length + 1 := by
            by_cases hin : 0 ≤ x.n ∧ x.n < (M : Int)
            · exact ⟨_, _, lie_wy hin, by simp⟩
            · exact ⟨_, _, lie_wn hin, by omega⟩
          have HRW := Lib.hid hrw
          have HWL := Lib.hid (show wt2.length ≤ k + 1 by have := HW.out; omega)
          clear hrw hr2
          go_wp2_with fail
          refine wp_region_held_drew (S := fun w' => Below w.heap.size w w') (by kernel_rfl) (B1.out.trans (H.out.bel.mono B1.out.size)).drew (fun hh => ?_)
          have HH := Lib.hid hh
          clear hh
          refine wpAnyH_take (i := 0) (v := ?va0) rfl (by kernel_rfl) (by kernel_rfl) (by kernel_rfl) (fun _ _ _ h => h) (Or.inl ⟨by rfl, fun w' _ => ?ya0⟩) HH.out ?_
          case ya0 => (go_simp; try with_reducible rfl)
          refine wpAnyH_take (i := 1) (v := ?va1) rfl (by kernel_rfl) (by kernel_rfl) (by kernel_rfl) (fun _ _ _ h => h) (Or.inl ⟨by rfl, fun w' _ => ?ya1⟩) HH.out ?_
          case ya1 => (go_simp; try with_reducible rfl)
          try simp only [List.getElem_toArray, List.getElem_cons_succ, List.getElem_cons_zero, Act.put, List.setIfInBounds_toArray, List.set_cons_zero, List.set_cons_succ]
          refine wpAnyH_take (i := 2) (v := ?va2) rfl (by kernel_rfl) (by kernel_rfl) (by kernel_rfl) (fun _ _ _ h => h) (Or.inl ⟨by rfl, fun w' _ => ?ya2⟩) HH.out ?_
          case ya2 => (go_simp; try with_reducible rfl)
          refine wpAnyH_take (i := 3) (v := ?va3) rfl (by kernel_rfl) (by kernel_rfl) (by kernel_rfl) (fun _ _ _ h => h) (Or.inl ⟨by rfl, fun w' _ => ?ya3⟩) HH.out ?_
          case ya3 => (go_simp; try with_reducible rfl)
          refine wpAnyH_take (i := 4) (v := ?va4) rfl (by kernel_rfl) (by kernel_rfl) (by kernel_rfl) (fun _ _ _ h => h) (Or.inl ⟨by rfl, fun w' _ => ?ya4⟩) HH.out ?_
          case ya4 => (go_simp; try with_reducible rfl)
          try simp only [List.getElem_toArray, List.getElem_cons_succ, List.getElem_cons_zero, Act.put, List.setIfInBounds_toArray, List.set_cons_zero, List.set_cons_succ]
          refine wpAnyH_take (i := 5) (v := .int .i64 x.n) rfl (by kernel_rfl) (by kernel_rfl) (by kernel_rfl) (fun _ _ _ h => h) (Or.inl ⟨by rfl, fun w' hw' => ?ya5⟩) HH.out ?_
          case ya5 => (have hc := HN2.out w' hw'; go_simp; try with_reducible rfl)
          refine wpAnyH_take (i := 6) (v := ?va6) rfl (by kernel_rfl) (by kernel_rfl) (by kernel_rfl) (fun _ _ _ h => h) (Or.inl ⟨by rfl, fun w' _ => ?ya6⟩) HH.out ?_
          case ya6 => (go_simp; try with_reducible rfl)
          refine wpAnyH_take (i := 7) (v := ?va7) rfl (by kernel_rfl) (by kernel_rfl) (by kernel_rfl) (fun _ _ _ h => h) (Or.inl ⟨by rfl, fun w' _ => ?ya7⟩) HH.out ?_
          case ya7 => (go_simp; try with_reducible rfl)
          try simp only [List.getElem_toArray, List.getElem_cons_succ, List.getElem_cons_zero, Act.put, List.setIfInBounds_toArray, List.set_cons_zero, List.set_cons_succ]
          refine wpAnyH_take (i := 8) (v := ?va8) rfl (by kernel_rfl) (by kernel_rfl) (by kernel_rfl) (fun _ _ _ h => h) (Or.inl ⟨by rfl, fun w' _ => ?ya8⟩) HH.out ?_
          case ya8 => (go_simp; try with_reducible rfl)
          refine wpAnyH_take (i := 9) (v := ?va9) rfl (by kernel_rfl) (by kernel_rfl) (by kernel_rfl) (fun _ _ _ h => h) (Or.inl ⟨by rfl, fun w' _ => ?ya9⟩) HH.out ?_
          case ya9 => (go_simp; try with_reducible rfl)
          refine wpAnyH_take (i := 10) (v := .int .u8 (x.c.toNat : Int)) rfl (by kernel_rfl) (by kernel_rfl) (by kernel_rfl) (fun _ _ _ h => h) (Or.inl ⟨by rfl, fun w' hw' => ?ya10⟩) HH.out ?_
          case ya10 => (have hc := HN4.out w' hw'; go_simp; try with_reducible rfl)
          try simp only [List.getElem_toArray, List.getElem_cons_succ, List.getElem_cons_zero, Act.put, List.setIfInBounds_toArray, List.set_cons_zero, List.set_cons_succ]
          refine wpAnyH_ready (rs := [11]) (by kernel_rfl) (by simp) (AllReadyH.cons rfl (fun K hK => ?_) AllReadyH.nil)
          go_simp
          refine (sector_any x.c _).mono ?_
          rintro e w21 ⟨rfl, bw⟩
          have H21 := Lib.hid (H.out.drew.below bw)
          go_simp
          refine hK.out _ _ (HH.out.trans (bw.mono HH.out.size)) (fun hh => ?_)
          have HH' := Lib.hid hh
          clear hh hK K HH bw H
          have HH := Lib.hid HH'.out
          clear HH'
          try simp only [List.getElem_toArray, List.getElem_cons_succ, List.getElem_cons_zero, Act.put, List.setIfInBounds_toArray, List.set_cons_zero, List.set_cons_succ]
          refine wpAnyH_ready (rs := [12]) (by kernel_rfl) (by simp) (AllReadyH.cons rfl (fun K hK => ?_) AllReadyH.nil)
          go_simp
          have hc := (by have h := live_write H21.out 0 (by show 0 < 1; omega) x.n (secC x.c) (secC_length _) (by show wt.length < _; have := HW.out; have := HK.out; have := HNB.out; omega); rw [HRW.out] at h; exact h : Calls Try.prog 23 _ _ (RetL (.int .i64 r) w1 p [g1] (lieS M false wt2) FF _))
          refine hc.mono ?_
          clear hc
          rintro e w22 ⟨rfl, F22, h, hf22, hb22⟩
          have H22 := Lib.hid (show Live w1 w22 p [g1] (lieS M false wt2) F22 from h)
          go_simp
          refine hK.out _ _ (B1.out.trans (H22.out.bel.mono B1.out.size)) (fun hh => ?_)
          have HH' := Lib.hid hh
          clear hh hK K HH h hf22 hb22 H21
          have HH := Lib.hid HH'.out
          clear HH'
          try simp only [List.getElem_toArray, List.getElem_cons_succ, List.getElem_cons_zero, Act.put, List.setIfInBounds_toArray, List.set_cons_zero, List.set_cons_succ]
          refine wpAnyH_done (by kernel_rfl) ?_ _
          clear HH
          go_wp2_with fail
          go_roundw
          case rel => exact ⟨k + 1, F22, wt2, by have := HLT.out; omega, by go_num, HWL.out, H22.out⟩
          case measure => (have := HLT.out; simp [intOf]; omega)
        ·
          obtain rfl : k = n := by have := HK.out; omega
          clear hlt
          obtain ⟨st, hst⟩ : ∃ st, st = flushL (List.replicate M zeroS) wt := ⟨_, rfl⟩
          have HSL := Lib.hid (show st.length = M by rw [hst]; exact flu_len)
          have HS3 := Lib.hid (show ∀ s ∈ st, s.length = 128 by rw [hst]; exact flush_ok _ _ lie_secs (fun v hv => ((H.out.sys.ok (k := 0) (by show 0 < 1; omega)).wt v hv).2))
          have HFL := Lib.hid (show (lieS M false wt).flush 0 = (0, fluS false (-1) st 0 0) by rw [hst, ← flu_e]; exact lie_e)
          clear hst
          go_wp2_with fail
          have hc := live_flush H.out 0 (by show 0 < 1; omega)
          rw [HFL.out] at hc
          refine hc.mono ?_
          clear hc
          rintro e w41 ⟨rfl, F41, h, hf41, hb41⟩
          have H41 := Lib.hid (show Live w1 w41 p [g1] (fluS false (-1) st 0 0) F41 from h)
          clear h hf41 hb41 H 
          go_wp2_with fail
          refine (waiting_sys H41.out.sys 0 (by show 0 < 1; omega)).mono ?_
          rintro e _ ⟨rfl, rfl⟩
          rw [flu_wait]
          go_wp2_with fail
          go_loopw [12, 13] (fun v i wr => ∃ (j : Nat) (A' : Option Addr) (c' : Nat), j ≤ M ∧ i = .int .i64 j ∧ v = .slice A' j c' ∧ Live w1 wr p [g1] (fluS false (-1) st 0 0) F41 ∧ RowN w1 wr F41 (.slice A' j c') j (st.take j)) (fun _ i _ => M - (intOf i).toNat)
          case atStart => exact ⟨0, none, 0, by omega, rfl, rfl, H41.out, rowN_nil⟩
          case round =>
            clear H41
            obtain ⟨j, A7, c7, hj, rfl, rfl, hlive, hrow⟩ := hrel
            have H := Lib.hid hlive
            have RN := Lib.hid hrow
            have HJ := Lib.hid hj
            clear hlive hrow hj
            by_cases hj : j < M
            ·
              have HJT := Lib.hid hj
              have j0 : (0 : Int) ≤ (j : Int) := by omega
              have j1 : (j : Int) < 20 := by have := HM.out; omega
              have j2 : (j : Int) < (M : Int) := by omega
              obtain ⟨y, hy⟩ : ∃ y, y = st.getD j zeroS := ⟨_, rfl⟩
              have HY := Lib.hid hy
              have HRY := Lib.hid (show readV (fluS false (-1) st 0 0).p ((fluS false (-1) st 0 0).at 0) (j : Int) = .tuple #[.agg (bva y), .int .i64 0] by rw [hy]; exact flu_read (by rw [HSL.out]; exact hj))
              have HY3 := Lib.hid (show y.length = 128 by rw [hy]; exact getD_ok HS3.out j)
              have HIY : Hid ((Try.prog.info? 38).map (·.size) = some (bva y).size) := by show _ = _; rw [bva_size, HY3.out]; exact info_sec
              clear hy hj
              go_wp2_with fail
              refine (len_sys H.out.sys 0 (by show 0 < 1; omega)).mono ?_
              rintro e _ ⟨rfl, rfl⟩
              rw [flu_st, HSL.out]
              go_wp2_with fail
              refine (dread_any H.out.sys 0 (by show 0 < 1; omega) (j : Int)).mono ?_
              rintro e w71 ⟨rfl, bw⟩
              rw [HRY.out]
              have H71 := Lib.hid (H.out.below bw)
              have W71 := Lib.hid (RN.out.below bw)
              clear bw H RN
              have HB71 := Lib.hid (show Blk (w71.alloc (.cells (bva z) 38)) w71.heap.size (bva z) 38 from heap_alloc_new _ _)
              go_wp2_with (show wpList _ _ _ ({ dst := none, op := .store 38 (.tmp 14) (.tmp 73), type := _, pos := _, after := _, guard := _ } :: _) _ _; apply Classical.byContradiction; intro hneg)
              refine hneg ?_
              clear hneg
              refine wpList_store_row rfl 38 (.tmp 14) (.tmp 73) rfl w71.heap.size (bva y) rfl rfl 38 (bva z) HB71.out HIY.out (by rw [bva_size, bva_size, HY3.out, HZ3.out]) (bva_one _) ?_
              obtain ⟨wb71, hwb71⟩ : ∃ wb, wb = ((w71.alloc (.cells (bva z) 38)).setRow w71.heap.size (bva y)) := ⟨_, rfl⟩
              have HV71 := Lib.hid (show Blk wb71 w71.heap.size (bva y) 38 from by rw [hwb71]; exact setRow_heap _ _ _ _ _ _ HB71.out)
              have BB71 := Lib.hid (show Below w71.heap.size w71 wb71 from by rw [hwb71]; exact below_setRow ((Below.refl _ _).alloc (Nat.le_refl _) _) (Nat.le_refl _) _)
              rw [← hwb71]
              clear hwb71
              have HX71 := Lib.hid (H71.out.below BB71.out)
              have Wx71 := Lib.hid (W71.out.below BB71.out)
              clear HB71 BB71 H71 W71
              have BA := Lib.hid (show Below wb71.heap.size wb71 (wb71.alloc (.cells (bva y) 38)) from (Below.refl _ _).alloc (Nat.le_refl _) _)
              have RA := Lib.hid (show Rd (wb71.alloc (.cells (bva y) 38)).heap.size (wb71.alloc (.cells (bva y) 38)) (some ⟨wb71.heap.size, 0, none⟩) (bv y) from by
                have hb5 : Blk (wb71.alloc (.cells (bva y) 38)) wb71.heap.size (bva y) 38 := heap_alloc_new _ _
                intro j v hv
                exact ⟨_, rfl, hb5.lt, by rw [Addr.add_mid, hb5.cell, Nat.zero_add]; simpa [bva] using hv⟩)
              go_wp2_with (show wpList _ _ _ ({ dst := some 76, op := .load 38 (.tmp 14), type := _, pos := _, after := _, guard := _ } :: _) _ _; apply Classical.byContradiction; intro hneg)
              refine hneg ?_
              clear hneg
              refine wpList_load_row rfl 38 (.tmp 14) rfl (w71.heap.size) rfl 38 (bva y) (0, 0) _ HV71.out Try.underlying38 rfl HIY.out ?_
              go_wp2_with (show wpList _ _ _ ({ dst := some 77, op := .buildSlice 43 1 #[(0, .tmp 76)], type := _, pos := _, after := _, guard := _ } :: _) _ _; apply Classical.byContradiction; intro hneg)
              refine hneg ?_
              clear hneg
              refine wpList_execg8 (v := .slice (some ⟨wb71.heap.size, 0, none⟩) 1 1) (w' := wb71.alloc (.cells (bva y) 38)) rfl (exec_buildSlice 43 1 #[(0, .tmp 76)] rfl ?hbld) ?_
              case hbld =>
                simp only [List.map_toArray, List.map_cons, List.map_nil]
                exact run_oneN secsElt _ (.agg (bva y)) (by show (bva y).size = 128; rw [bva_size, HY3.out]) (by omega)
              go_wp2_with (at_builtin; apply Classical.byContradiction; intro hneg)
              refine hneg ?_
              clear hneg
              refine wpList_appN _ rfl (.tmp 75) (.tmp 77) 43 rfl secsElt (base := w1.heap.size) (v := .slice A7 j c7) (n := j) (xs := svs (st.take j)) rfl (Wx71.out.below BA.out).1 (m := 1) rfl RA.out (by rw [bv_length, HY3.out]) (bv_one _) (by have := HJ.out; have := HM.out; omega) (Nat.le_trans HX71.out.bel.size BA.out.size) ?_
              intro A6 c6 w6 ho6 hg6 hl6
              have HL6 := Lib.hid ((HX71.out.below BA.out).app8 (Wx71.out.below BA.out) hg6)
              have HR6 := Lib.hid (RowN.app (Wx71.out.below BA.out) (fun j hj => (HX71.out.below BA.out).lt j hj) ho6 hl6)
              clear ho6 hg6 hl6 RA BA HV71 Wx71 HX71
              go_wp2_with fail
              go_roundw
              case rel => exact ⟨j + 1, A6, c6, by have := HJT.out; omega, by go_num, rfl, HL6.out, by rw [take_snoc8 (by rw [HSL.out]; exact HJT.out), ← HY.out]; exact HR6.out⟩
              case measure => (have := HJT.out; simp [intOf]; omega)
            ·
              obtain rfl : j = M := by have := HJ.out; omega
              clear hj
              have RNF := Lib.hid (show RowN w1 wr F41 (.slice A7 j c7) j st from by have h := RN.out; rwa [List.take_of_length_le (by rw [HSL.out]; exact Nat.le_refl _)] at h)
              clear RN
              go_wp2_with fail
              refine (len_sys H.out.sys 0 (by show 0 < 1; omega)).mono ?_
              rintro e _ ⟨rfl, rfl⟩
              rw [flu_st, HSL.out]
              go_wp2_with fail
              have hc := live_tear H.out 0 (by show 0 < 1; omega) kp by_
              rw [flu_t] at hc
              refine hc.mono ?_
              clear hc
              rintro e w81 ⟨rfl, F81, h, hf81, hb81⟩
              have H81 := Lib.hid (show Live w1 w81 p [g1] (fluS false (-1) st kp by_) F81 from h)
              have W81 := Lib.hid (RNF.out.step hf81 hb81)
              clear h hf81 hb81 H RNF
              go_wp2_with fail
              have hc := live_fail H81.out 0 (by omega)
              rw [flu_f] at hc
              refine hc.mono ?_
              clear hc
              rintro e w82 ⟨rfl, F82, h, hf82, hb82⟩
              have H82 := Lib.hid (show Live w1 w82 p [g1] (fluS false 0 st kp by_) F82 from h)
              have W82 := Lib.hid (W81.out.step hf82 hb82)
              clear h hf82 hb82 H81 W81
              go_wp2_with fail
              have hc := live_flush H82.out 0 (by show 0 < 1; omega)
              rw [flu_fl] at hc
              refine hc.mono ?_
              clear hc
              rintro e w83 ⟨rfl, F83, h, hf83, hb83⟩
              have H83 := Lib.hid (show Live w1 w83 p [g1] (fluS true (-1) st kp by_) F83 from h)
              have W83 := Lib.hid (W82.out.step hf83 hb83)
              clear h hf83 hb83 H82 W82
              go_wp2_with fail
              refine (on_sys H83.out.sys).mono ?_
              rintro e _ ⟨rfl, rfl⟩
              rw [show (fluS true (-1) st kp by_).p.off = true from rfl]
              go_wp2_with fail
              refine (live_dump H83.out 0 (by show 0 < 1; omega)).mono ?_
              rintro e w84 ⟨A84, n84, c84, rfl, hn84, hr84, bw⟩
              have H84 := Lib.hid (H83.out.below bw)
              have Q84 := Lib.hid hr84
              have N84 := Lib.hid hn84
              have W84 := Lib.hid (W83.out.below bw)
              clear bw hr84 hn84 H83 W83
              obtain rfl : j = n84 := HSL.out.symm.trans N84.out
              have RA := Lib.hid (show Rd _ w84 A7 (svs st) from Rd.ownN W84.out.1)
              have RB := Lib.hid (show Rd _ w84 A84 (svs st) from Q84.out.rd)
              clear N84 Q84
              go_wp2_with fail
              refine (rsame_b A84 A7 j j c84 c7 _ _ _ HSL.out HSL.out HS3.out HS3.out RB.out RA.out (by unfold maxLen; have := HM.out; omega) (by unfold maxLen; have := HM.out; omega)).mono ?_
              rintro e w85 ⟨rfl, bw⟩
              rw [same_refl]
              clear RA RB
              have H85 := Lib.hid (H84.out.below bw)
              have W85 := Lib.hid (W84.out.below bw)
              clear bw H84 W84
              go_wp2_with fail
              have hc := live_restart H85.out
              rw [flu_re] at hc
              refine hc.mono ?_
              clear hc
              rintro e w86 ⟨rfl, F86, h, hf86, hb86⟩
              have H86 := Lib.hid (show Live w1 w86 p [g1] (fluS false (-1) st kp by_) F86 from h)
              have W86 := Lib.hid (W85.out.step hf86 hb86)
              clear h hf86 hb86 H85 W85
              go_wp2_with fail
              go_loopw [16] (fun i wr => ∃ (u : Nat), u ≤ j ∧ i = .int .i64 u ∧ Live w1 wr p [g1] (fluS false (-1) st kp by_) F86 ∧ RowN w1 wr F86 (.slice A7 j c7) j st) (fun i _ => j - (intOf i).toNat)
              case atStart => exact ⟨0, by omega, rfl, H86.out, W86.out⟩
              case round =>
                clear H86 W86
                obtain ⟨u, hu, rfl, hlive, hrow⟩ := hrel
                have H := Lib.hid hlive
                have RN := Lib.hid hrow
                have HU := Lib.hid hu
                clear hlive hrow hu
                by_cases hu : u < j
                ·
                  have HUT := Lib.hid hu
                  have u0 : (0 : Int) ≤ (u : Int) := by omega
                  have u1 : (u : Int) < 20 := by have := HM.out; omega
                  have u2 : (u : Int) < (j : Int) := by omega
                  obtain ⟨y, hy⟩ : ∃ y, y = st.getD u zeroS := ⟨_, rfl⟩
                  have HRY := Lib.hid (show readV (fluS false (-1) st kp by_).p ((fluS false (-1) st kp by_).at 0) (u : Int) = .tuple #[.agg (bva y), .int .i64 0] by rw [hy]; exact flu_read (by rw [HSL.out]; exact hu))
                  have HY3 := Lib.hid (show y.length = 128 by rw [hy]; exact getD_ok HS3.out u)
                  have HYE := Lib.hid (show st[u]'(by rw [HSL.out]; exact HUT.out) = y by rw [hy, List.getD_eq_getElem?_getD, List.getElem?_eq_getElem (by rw [HSL.out]; exact hu)]; rfl)
                  have HIY : Hid ((Try.prog.info? 38).map (·.size) = some (bva y).size) := by show _ = _; rw [bva_size, HY3.out]; exact info_sec
                  have HIYL : Hid ((Try.prog.info? 38).map (·.size) = some (bv y).length) := by show _ = _; rw [bv_length, HY3.out]; exact info_sec
                  have heq := eq_sec y y HY3.out HY3.out
                  simp only [decide_true] at heq
                  clear hy hu
                  go_wp2_with fail
                  refine (dread_any H.out.sys 0 (by show 0 < 1; omega) (u : Int)).mono ?_
                  rintro e w101 ⟨rfl, bw⟩
                  rw [HRY.out]
                  have H101 := Lib.hid (H.out.below bw)
                  have W101 := Lib.hid (RN.out.below bw)
                  clear bw H RN
                  have HB101 := Lib.hid (show Blk (w101.alloc (.cells (bva z) 38)) w101.heap.size (bva z) 38 from heap_alloc_new _ _)
                  go_wp2_with (show wpList _ _ _ ({ dst := none, op := .store 38 (.tmp 17) (.tmp 111), type := _, pos := _, after := _, guard := _ } :: _) _ _; apply Classical.byContradiction; intro hneg)
                  refine hneg ?_
                  clear hneg
                  refine wpList_store_row rfl 38 (.tmp 17) (.tmp 111) rfl w101.heap.size (bva y) rfl rfl 38 (bva z) HB101.out HIY.out (by rw [bva_size, bva_size, HY3.out, HZ3.out]) (bva_one _) ?_
                  obtain ⟨wb101, hwb101⟩ : ∃ wb, wb = ((w101.alloc (.cells (bva z) 38)).setRow w101.heap.size (bva y)) := ⟨_, rfl⟩
                  have HV101 := Lib.hid (show Blk wb101 w101.heap.size (bva y) 38 from by rw [hwb101]; exact setRow_heap _ _ _ _ _ _ HB101.out)
                  have BB101 := Lib.hid (show Below w101.heap.size w101 wb101 from by rw [hwb101]; exact below_setRow ((Below.refl _ _).alloc (Nat.le_refl _) _) (Nat.le_refl _) _)
                  rw [← hwb101]
                  clear hwb101
                  have HX101 := Lib.hid (H101.out.below BB101.out)
                  have Wx101 := Lib.hid (W101.out.below BB101.out)
                  clear HB101 BB101 H101 W101
                  obtain ⟨ad, hA, _, hce⟩ := rd_sec (Rd.ownN Wx101.out.1) HS3.out (k := u) ((by rw [HSL.out]; exact HUT.out))
                  rw [HYE.out] at hce
                  subst hA
                  have HCE := Lib.hid (show ∀ w', Below wb101.heap.size wb101 w' → ∀ jj v, (bv y)[jj]? = some v → w'.cell? ((ad.add (u * 128)).add jj) = some v from fun w' hb jj v hv => by
                    obtain ⟨ad', hA', _, hc'⟩ := rd_sec ((Rd.ownN Wx101.out.1).below hb) HS3.out (k := u) ((by rw [HSL.out]; exact HUT.out))
                    injection hA' with hA'; subst hA'
                    exact hc' jj v (by rw [HYE.out]; exact hv))
                  clear hce
                  go_wp2_with fail
                  refine wp_region_held_drew (S := fun w' => Below wb101.heap.size wb101 w') (by kernel_rfl) (Below.refl _ _).drew (fun hh => ?_)
                  have HH := Lib.hid hh
                  clear hh
                  refine wpAnyH_take (i := 0) (v := ?vc0) rfl (by kernel_rfl) (by kernel_rfl) (by kernel_rfl) (fun _ _ _ h => h) (Or.inl ⟨by rfl, fun w' _ => ?yc0⟩) HH.out ?_
                  case yc0 => (go_simp; try with_reducible rfl)
                  refine wpAnyH_take (i := 1) (v := ?vc1) rfl (by kernel_rfl) (by kernel_rfl) (by kernel_rfl) (fun _ _ _ h => h) (Or.inl ⟨by rfl, fun w' _ => ?yc1⟩) HH.out ?_
                  case yc1 => (go_simp; try with_reducible rfl)
                  try simp only [List.getElem_toArray, List.getElem_cons_succ, List.getElem_cons_zero, Act.put, List.setIfInBounds_toArray, List.set_cons_zero, List.set_cons_succ]
                  refine wpAnyH_take (i := 2) (v := ?vc2) rfl (by kernel_rfl) (by kernel_rfl) (by kernel_rfl) (fun _ _ _ h => h) (Or.inl ⟨by rfl, fun w' _ => ?yc2⟩) HH.out ?_
                  case yc2 => (go_simp; try with_reducible rfl)
                  refine wpAnyH_take (i := 3) (v := .agg (bva y)) rfl (by kernel_rfl) (by kernel_rfl) (by kernel_rfl) (fun _ _ _ h => h) (Or.inl ⟨by rfl, fun w' hw' => ?yc3⟩) HH.out ?_
                  case yc3 => exact exec_load 38 (.tmp 17) rfl rfl (HV101.out.below hw') Try.underlying38 rfl HIY.out
                  try simp only [List.getElem_toArray, List.getElem_cons_succ, List.getElem_cons_zero, Act.put, List.setIfInBounds_toArray, List.set_cons_zero, List.set_cons_succ]
                  refine wpAnyH_take (i := 4) (v := ?vc4) rfl (by kernel_rfl) (by kernel_rfl) (by kernel_rfl) (fun _ _ _ h => h) (Or.inl ⟨by rfl, fun w' _ => ?yc4⟩) HH.out ?_
                  case yc4 => (go_simp; try with_reducible rfl)
                  try simp only [List.getElem_toArray, List.getElem_cons_succ, List.getElem_cons_zero, Act.put, List.setIfInBounds_toArray, List.set_cons_zero, List.set_cons_succ]
                  refine wpAnyH_take (i := 5) (v := ?vc5) rfl (by kernel_rfl) (by kernel_rfl) (by kernel_rfl) (fun _ _ _ h => h) (Or.inl ⟨by rfl, fun w' _ => ?yc5⟩) HH.out ?_
                  case yc5 => (go_simp; try with_reducible rfl)
                  try simp only [List.getElem_toArray, List.getElem_cons_succ, List.getElem_cons_zero, Act.put, List.setIfInBounds_toArray, List.set_cons_zero, List.set_cons_succ]
                  refine wpAnyH_take (i := 6) (v := ?vc6) rfl (by kernel_rfl) (by kernel_rfl) (by kernel_rfl) (fun _ _ _ h => h) (Or.inl ⟨by rfl, fun w' _ => ?yc6⟩) HH.out ?_
                  case yc6 => (go_simp; try with_reducible rfl)
                  refine wpAnyH_take (i := 7) (v := .agg (bva y)) rfl (by kernel_rfl) (by kernel_rfl) (by kernel_rfl) (fun _ _ _ h => h) (Or.inl ⟨by rfl, fun w' hw' => ?yc7⟩) HH.out ?_
                  case yc7 => exact exec_load_at 38 (.tmp 119) rfl (ad.add (u * 128)) rfl (HCE.out w' hw') Try.underlying38 rfl HIYL.out
                  try simp only [List.getElem_toArray, List.getElem_cons_succ, List.getElem_cons_zero, Act.put, List.setIfInBounds_toArray, List.set_cons_zero, List.set_cons_succ]
                  refine wpAnyH_take (i := 8) (v := ?vc8) rfl (by kernel_rfl) (by kernel_rfl) (by kernel_rfl) (fun _ _ _ h => h) (Or.inl ⟨by rfl, fun w' _ => ?yc8⟩) HH.out ?_
                  case yc8 => (go_simp; try with_reducible rfl)
                  refine wpAnyH_take (i := 9) (v := ?vc9) rfl (by kernel_rfl) (by kernel_rfl) (by kernel_rfl) (fun _ _ _ h => h) (Or.inl ⟨by rfl, fun w' _ => ?yc9⟩) HH.out ?_
                  case yc9 => (go_simp; try with_reducible rfl)
                  try simp only [List.getElem_toArray, List.getElem_cons_succ, List.getElem_cons_zero, Act.put, List.setIfInBounds_toArray, List.set_cons_zero, List.set_cons_succ]
                  refine wpAnyH_done (by kernel_rfl) ?_ _
                  have HLX := Lib.hid (HX101.out.below HH.out)
                  have RWX := Lib.hid (Wx101.out.below HH.out)
                  clear heq HCE HH HX101 Wx101 HV101
                  go_wp2_with fail
                  go_roundw
                  case rel => exact ⟨u + 1, by have := HUT.out; omega, by go_num, HLX.out, RWX.out⟩
                  case measure => (have := HUT.out; simp [intOf]; omega)
                ·
                  obtain rfl : u = j := by have := HU.out; omega
                  clear hu
                  go_wp2_with fail
                  refine (on_sys H.out.sys).mono ?_
                  rintro e _ ⟨rfl, rfl⟩
                  rw [show (fluS false (-1) st kp by_).p.off = false from rfl]
                  go_wp2_with fail
                  go_ret
                  exact ⟨rfl, B1.out.trans (H.out.bel.mono B1.out.size)⟩
theorem deviceFlushes_own : ownKnob Try.prog.godebug = none := by kernel_rfl
theorem deviceFlushes_laid : laidOutB Try.prog = true := by kernel_rfl

set_option maxRecDepth 100000 in
theorem deviceFlushes_lifted (os : Os) (started : os.Started) (H : Type) (enc : TypeId × Value → H) :
    ReturnsInHanded {} Try.checked os 5 .any (Rows.deviceFlushesSpec.pre6 enc Try.prog Try.f5 Rows.deviceFlushesRow.domain false) (Rows.deviceFlushesSpec.post enc Try.prog Try.f5 false true false false) := by
  refine returnsInHanded_of_change (C := Try.checked) deviceFlushes_own started (by kernel_rfl) Try.func5
    (ChangeSpec.witness6 (enc := enc) (C := Try.checked) false ⟨#[], #[.int .i64 0, .slice none 0 0, .int .i64 0, .int .i64 0], []⟩ 8 (by kernel_rfl) (by kernel_rfl) (by kernel_rfl) (by kernel_rfl)) ?_
  intro W base args ds gs before hval0 hW _ _
  have hval : ∀ (j : Nat) t v, Try.f5.params[j]? = some t → args[j]? = some v → Value.okWide Try.prog W .any base t v := hval0
  have hW' := hW
  obtain ⟨p, q, hA0, hV, rfl, hfz, hnd⟩ := hW
  have hA : DataW.TrodAll enc Try.prog W 0 (fun _ => true) true Try.f5.params.toList args.toList ds p := hA0
  rw [Try.params5] at hA hval
  obtain ⟨v0, vs0, d0, ds0, p0, q0, hargs, rfl, rfl, h0, r0⟩ := trodAll_cons hA
  obtain ⟨v1, vs1, d1, ds1, p1, q1, rfl, rfl, rfl, h1, r1⟩ := trodAll_cons r0
  obtain ⟨v2, vs2, d2, ds2, p2, q2, rfl, rfl, rfl, h2, r2⟩ := trodAll_cons r1
  obtain ⟨v3, vs3, d3, ds3, p3, q3, rfl, rfl, rfl, h3, r3⟩ := trodAll_cons r2
  obtain ⟨rfl, rfl, rfl⟩ := trodAll_nil r3
  obtain rfl : args = #[v0, v1, v2, v3] := by cases args; simp_all
  obtain ⟨rfl, rfl⟩ := trodVars_none hV
  obtain ⟨a0, rfl, rfl, rfl, w0⟩ := open_int Try.underlying3 (hval 0 3 v0 rfl rfl) h0
  have b0 := bounds_i64 w0
  obtain ⟨a1, n1, c1, rfl⟩ := okWide_slice Try.underlying22 (hval 1 22 v1 rfl rfl)
  have lt1 : ∀ x ∈ p1, x.block < W.heap.size := by obtain ⟨m, hm⟩ := h1; exact DataW.trod_lt m _ _ _ hm
  obtain ⟨l1, hl1, hc1, hm1, hr1, hz1⟩ := open_deeds h1
  obtain ⟨a2, rfl, rfl, rfl, w2⟩ := open_int Try.underlying3 (hval 2 3 v2 rfl rfl) h2
  have b2 := bounds_i64 w2
  obtain ⟨a3, rfl, rfl, rfl, w3⟩ := open_int Try.underlying3 (hval 3 3 v3 rfl rfl) h3
  have b3 := bounds_i64 w3
  clear hA0 hval0
  refine (deviceFlushes_any W a0 b0 a1 n1 c1 l1 hl1 hc1 hm1 hr1 hz1 a2 b2 a3 b3).mono fun e W' ⟨he, bel⟩ => ?_
  subst he
  exact ⟨_, rfl, _, _, _, [], _, [], hW', trodAll_mk1 (shut_bool Try.underlying4 _), (trodAll_cons_mk (shut_int Try.underlying3 w0) (trodAll_cons_mk (Below.trod deviceFlushes_laid (by kernel_rfl) (of_decide_eq_true (by kernel_rfl)) h1 bel lt1) (trodAll_cons_mk (shut_int Try.underlying3 w2) (trodAll_cons_mk (shut_int Try.underlying3 w3) trodAll_mk0)))), rfl, bel.frame _, fun h => by cases h⟩

theorem deviceFlushes_holds : Rows.DeviceFlushesSaid :=
  OpenClaim.holds_of_wide 5 Try.f5 rfl rfl rfl rfl rfl rfl rfl ⟨rfl, rfl, rfl, rfl, rfl⟩ rfl rfl rfl rfl rfl (by kernel_rfl) Try.func5 (by kernel_rfl)
    (of_decide_eq_true (by kernel_rfl)) (by unfold Func.isWrapper; rw [if_neg (of_decide_eq_false (by kernel_rfl))]; exact ⟨rfl, rfl⟩)
    (fun os started H enc _ => deviceFlushes_lifted os started H enc)

#print axioms deviceFlushes_holds

end Go.Proofs.Ytolbffcbamfbeaa
