/-
  The law DeviceApart holds: what is dumped may be written over; what is written may be, too; a nil device, and a nil power, have nothing; a size that isn't there is cut. For every number and byte.
-/
import Derived.Test.YtolbffcbamfbeaaKdGuard
import Derived.Test.YtolbffcbamfbeaaKdTorn
import Derived.OrdersHeld
import Derived.Deep.RegionHeld
import Derived.Test.YtolbffcbamfbeaaRows
import Derived.Test.YtolbffcbamfbeaaOpen
import Derived.Test.YtolbffcbamfbeaaOpenA
import Derived.ProofKit
import Derived.OpenShut
import Derived.ShutString
import Derived.ChangeOld
namespace Go.Proofs.Ytolbffcbamfbeaa
open Go.RowKit Go.Maps Kd Go.ChangeShapes Go.WideShapes Go.ChangeAt
attribute [local go_sem ↓] Go.wp_at_zero Go.wp_at_succ
theorem u8_of {c0 : Int} (h : 0 ≤ c0 ∧ c0 ≤ 255) : ∃ c : UInt8, c0 = (c.toNat : Int) := ⟨UInt8.ofNat c0.toNat, by rw [UInt8.toNat_ofNat_of_lt' (by show c0.toNat < 256; omega)]; omega⟩
set_option maxRecDepth 100000 in
set_option maxHeartbeats 12800000 in
theorem deviceApart_any (w : World) (x0 : Int) (hx0 : -9223372036854775808 ≤ x0 ∧ x0 ≤ 9223372036854775807) (c0 : Int) (hc0 : 0 ≤ c0 ∧ c0 ≤ 255) : Calls Try.prog 11 #[.int .i64 x0, .int .u8 c0] w (RetB (.bool true) w) := by
  obtain ⟨c, rfl⟩ : ∃ c : UInt8, c0 = (c.toNat : Int) := ⟨UInt8.ofNat c0.toNat, by rw [UInt8.toNat_ofNat_of_lt' (by show c0.toNat < 256; omega)]; omega⟩
  obtain ⟨s, hs⟩ : ∃ s, s = secC c := ⟨_, rfl⟩
  have HS := Lib.hid hs
  have HS3 := Lib.hid (show s.length = 128 by rw [hs]; exact secC_length c)
  have HSEC := Lib.hid (show ∀ W, Calls Try.prog 24 #[.int .u8 (c.toNat : Int)] W (RetB (.agg (bva s)) W) from fun W => by rw [hs]; exact sector_any c W)
  obtain ⟨z, hz0⟩ : ∃ z : List UInt8, z = zeroS := ⟨_, rfl⟩
  have hz : ∀ W, (zeroValue 38).run Try.prog W = .ok (.agg (bva z)) W := fun _ => by rw [hz0]; kernel_rfl
  have HBZ := Lib.hid (show ∀ W, (Instr.build 38 #[]).run Try.prog W = .ok (.agg (bva z)) W from fun _ => by rw [hz0]; kernel_rfl)
  have HI : Hid ((Try.prog.info? 38).map (·.size) = some (bva z).size) := by rw [bva_size, hz0, zeroS_length]; exact info_sec
  have HIS : Hid ((Try.prog.info? 38).map (·.size) = some (bva s).size) := by rw [bva_size, HS3.out]; exact info_sec
  have HZ := Lib.hid hz0
  have HZ3 := Lib.hid (show z.length = 128 by rw [hz0]; exact zeroS_length)
  have HX0 := Lib.hid hx0
  clear hz0 hs hx0 hc0
  go_enter Try.func11, Try.ntmps11
  go_upto_region 3 with (refine (kdAwake_any _).mono ?_; rintro e w1 ⟨rfl, bw1⟩; have B1 := Lib.hid bw1; clear bw1)
  by_cases hbig : x0 > 5000
  · go_upto_region 5 with fail
    obtain ⟨x, hx⟩ : ∃ x, x = 5000 + x0 % 7 := ⟨_, rfl⟩
    have HX := Lib.hid (show 5000 ≤ x ∧ x ≤ 5006 by omega)
    rw [← hx]
    clear hx hbig
    obtain ⟨n, hn⟩ : ∃ n, n = clampN x := ⟨_, rfl⟩
    have hnb : n ≤ 4096 := by rw [hn]; unfold clampN; omega
    have HNB := Lib.hid hnb
    have HMM := Lib.hid (show (n : Int) = max 0 (min x 4096) by rw [hn]; unfold clampN; omega)
    go_wp2_with fail
    refine (live_new0 x).mono ?_
    rintro e w2 ⟨p, g1, rfl, F2, h⟩
    have H2 := Lib.hid (show Live w1 w2 p [g1] (ap0 n) F2 from by rw [hn]; exact h)
    clear h hn hnb
    go_upto_region 6 with fail
    go_cut [27] (fun s wx => s = .bool false ∧ wx = w2)
    case first =>
      go_wp2_with (refine (len_sys H2.out.sys 0 (by show 0 < 1; omega)).mono ?_; rintro e w' ⟨rfl, rfl⟩; rw [ap_len0])
      all_goals (go_meet; exact ⟨by first | rfl | exact congrArg Value.bool (by have := HMM.out; first | exact decide_eq_false (by omega) | (simp; omega)), rfl⟩)
    case rest =>
      obtain ⟨rfl, rfl⟩ := hcut
      have n0 : (0 : Int) ≤ (n : Int) := by omega
      by_cases hp : 0 < n
      ·
        have n1 : (0 : Int) < (n : Int) := by omega
        have HP := Lib.hid hp
        clear hp
        go_wp2_with (refine (len_sys H2.out.sys 0 (by show 0 < 1; omega)).mono ?_; rintro e w' ⟨rfl, rfl⟩; rw [ap_len0])
        refine (HSEC.out _).mono ?_
        rintro e w3 ⟨rfl, bw⟩
        have H3 := Lib.hid (H2.out.below bw)
        clear bw H2 
        go_wp2_with fail
        have hc := live_write H3.out 0 (by show 0 < 1; omega) 0 s HS3.out (by show 0 < _; omega)
        rw [ap_w HP.out] at hc
        refine hc.mono ?_
        clear hc
        rintro e w4 ⟨rfl, F4, h, hf4, hb4⟩
        have H4 := Lib.hid (show Live w1 w4 p [g1] (ap1 n s) F4 from h)
        clear h hf4 hb4 H3 
        go_wp2_with fail
        have hc := live_flush H4.out 0 (by show 0 < 1; omega)
        rw [ap_f] at hc
        refine hc.mono ?_
        clear hc
        rintro e w5 ⟨rfl, F5, h, hf5, hb5⟩
        have H5 := Lib.hid (show Live w1 w5 p [g1] (ap2 n s) F5 from h)
        clear h hf5 hb5 H4 
        go_wp2_with fail
        refine (live_dump8 H5.out 0 (by show 0 < 1; omega)).mono ?_
        rintro e w6 ⟨A6, n6, c6, rfl, hn6, hr6, hq6, bw⟩
        have H6 := Lib.hid (H5.out.below bw)
        have R6 := Lib.hid hr6
        have N6 := Lib.hid hn6
        have Q6 := Lib.hid hq6
        clear bw hr6 hn6 hq6 H5
        obtain rfl : n = n6 := (ap_len2 n s).symm.trans N6.out
        clear N6
        go_wp2_with (refine (len_sys H6.out.sys 0 (by show 0 < 1; omega)).mono ?_; rintro e w' ⟨rfl, rfl⟩; rw [ap_len2])
        obtain ⟨c2, hc2⟩ : ∃ c2 : UInt8, ((c.toNat : Int) + 1) % 256 = (c2.toNat : Int) := u8_of (by omega)
        rw [hc2]
        clear hc2
        refine (sector_any c2 _).mono ?_
        rintro e w7 ⟨rfl, bw⟩
        have H7 := Lib.hid (H6.out.below bw)
        have R7 := Lib.hid (R6.out.below bw)
        clear bw H6 R6
        obtain ⟨q, rfl⟩ : ∃ q, A6 = some ⟨q, 0, none⟩ := by
          rcases own_addr8 R7.out.1 with ⟨_, h0, _⟩ | h0
          · have := HP.out; omega
          · exact h0
        have HOM := Lib.hid (own_setMid (o := 0) (vs := bv (secC c2)) R7.out.1 (by rw [bv_length, secC_length]; have := HP.out; omega))
        have HIC : Hid ((Try.prog.info? 38).map (·.size) = some (bva (secC c2)).size) := by show _ = _; rw [bva_size, secC_length]; exact info_sec
        go_wp2_with (show wpList _ _ _ ({ dst := none, op := .store 38 (.tmp 48) (.tmp 47), type := _, pos := _, after := _, guard := _ } :: _) _ _; apply Classical.byContradiction; intro hneg)
        refine hneg ?_
        clear hneg
        refine wpList_store_mid rfl 38 (.tmp 48) (.tmp 47) rfl q 0 (bva (secC c2)) rfl rfl (by have h := HOM.out.2; rwa [show (bv (secC c2)).length = (bva (secC c2)).size by rw [bv_length, bva_size]] at h) HIC.out (bva_one _) ?_
        generalize hwv : World.setCells _ _ _ _ = wv
        have HBV := Lib.hid (show But (fun j => j = q) w7 wv by rw [← hwv]; exact (But.refl _).grown (grown_setCells _ _ _ _) (fun j hj => .inl (Option.some.inj hj).symm))
        clear hwv
        have HL := Lib.hid (H7.out.but8 HBV.out (fun j hf e => R7.out.2 q rfl (e ▸ hf)) (fun j e => by rw [e]; exact Q6.out q rfl))
        clear H7 R7 HOM HIC HBV Q6
        go_wp2_with fail
        refine (dread_any HL.out.sys 0 (by show 0 < 1; omega) 0).mono ?_
        rintro e w8 ⟨rfl, bw⟩
        rw [ap_r HP.out]
        have H8 := Lib.hid (HL.out.below bw)
        clear bw HL 
        have HB := Lib.hid (show Blk (w8.alloc (.cells (bva z) 38)) w8.heap.size (bva z) 38 from heap_alloc_new _ _)
        go_wp2_with (refine wpList_store_row rfl 38 (.tmp 7) (.tmp 52) rfl w8.heap.size (bva s) rfl rfl 38 (bva z) HB.out HIS.out (by rw [bva_size, bva_size, HS3.out, HZ3.out]) (bva_one _) ?_)
        obtain ⟨wb, hwb⟩ : ∃ wb, wb = ((w8.alloc (.cells (bva z) 38)).setRow w8.heap.size (bva s)) := ⟨_, rfl⟩
        have HV := Lib.hid (show Blk wb w8.heap.size (bva s) 38 from by rw [hwb]; exact setRow_heap _ _ _ _ _ _ HB.out)
        have BB := Lib.hid (show Below w8.heap.size w8 wb from by rw [hwb]; exact below_setRow ((Below.refl _ _).alloc (Nat.le_refl _) _) (Nat.le_refl _) _)
        rw [← hwb]
        clear hwb
        have BW := Lib.hid (B1.out.trans ((H8.out.bel.trans (BB.out.mono H8.out.bel.size)).mono B1.out.size))
        clear H8 BB HB
        have heq := eq_sec s s HS3.out HS3.out
        simp only [decide_true] at heq
        go_wp2_with fail
        refine wp_region_held_drew (S := fun w' => Below wb.heap.size wb w') (by kernel_rfl) (Below.refl _ _).drew (fun hh => ?_)
        have HH := Lib.hid hh
        clear hh
        refine wpAnyH_take (i := 0) (v := .agg (bva s)) rfl (by kernel_rfl) (by kernel_rfl) (by kernel_rfl) (fun _ _ _ h => h) (Or.inl ⟨by rfl, fun w' hw' => ?yl0⟩) HH.out ?_
        case yl0 => exact exec_load 38 (.tmp 7) rfl rfl (HV.out.below hw') Try.underlying38 rfl HIS.out
        refine wpAnyH_take (i := 1) (v := ?va1) rfl (by kernel_rfl) (by kernel_rfl) (by kernel_rfl) (fun _ _ _ h => h) (Or.inl ⟨by rfl, fun w' _ => ?ya1⟩) HH.out ?_
        case ya1 => (go_simp; try with_reducible rfl)
        try simp only [List.getElem_toArray, List.getElem_cons_succ, List.getElem_cons_zero, Act.put, List.setIfInBounds_toArray, List.set_cons_zero, List.set_cons_succ]
        refine wpAnyH_ready (rs := [2]) (by kernel_rfl) (by simp) (AllReadyH.cons rfl (fun K hK => ?_) AllReadyH.nil)
        go_simp
        refine (HSEC.out _).mono ?_
        rintro e wc2 ⟨rfl, bw⟩
        go_simp
        refine hK.out _ _ (HH.out.trans (bw.mono HH.out.size)) (fun hh => ?_)
        have HH' := Lib.hid hh
        clear hh hK K HH bw
        have HH := Lib.hid HH'.out
        clear HH'
        refine wpAnyH_take (i := 3) (v := ?va3) rfl (by kernel_rfl) (by kernel_rfl) (by kernel_rfl) (fun _ _ _ h => h) (Or.inl ⟨by rfl, fun w' _ => ?ya3⟩) HH.out ?_
        case ya3 => (go_simp; try with_reducible rfl)
        try simp only [List.getElem_toArray, List.getElem_cons_succ, List.getElem_cons_zero, Act.put, List.setIfInBounds_toArray, List.set_cons_zero, List.set_cons_succ]
        refine wpAnyH_done (by kernel_rfl) ?_ _
        have BX := Lib.hid (BW.out.trans (HH.out.mono BW.out.size))
        clear heq HV BW HH
        go_wp2_with fail
        refine (tear_nil 1 1).mono ?_
        rintro e _ ⟨rfl, rfl⟩
        go_wp2_with fail
        refine (lie_nil true).mono ?_
        rintro e _ ⟨rfl, rfl⟩
        go_wp2_with fail
        refine (out_nil true).mono ?_
        rintro e _ ⟨rfl, rfl⟩
        go_wp2_with fail
        refine (fail_nil 1).mono ?_
        rintro e _ ⟨rfl, rfl⟩
        go_wp2_with fail
        refine (restart_nil).mono ?_
        rintro e _ ⟨rfl, rfl⟩
        go_wp2_with fail
        refine (dread_nil _ 0).mono ?_
        rintro e wt ⟨rfl, bw⟩
        rw [← HZ.out]
        have BT := Lib.hid (BX.out.trans (bw.mono BX.out.size))
        have HB := Lib.hid (show Blk (wt.alloc (.cells (bva z) 38)) wt.heap.size (bva z) 38 from heap_alloc_new _ _)
        clear bw BX
        go_wp2_with (refine wpList_store_row rfl 38 (.tmp 11) (.tmp 71) rfl wt.heap.size (bva z) rfl rfl 38 (bva z) HB.out HI.out (by rfl) (bva_one _) ?_)
        obtain ⟨wu, hwu⟩ : ∃ wu, wu = ((wt.alloc (.cells (bva z) 38)).setRow wt.heap.size (bva z)) := ⟨_, rfl⟩
        have HV := Lib.hid (show Blk wu wt.heap.size (bva z) 38 from by rw [hwu]; exact setRow_heap _ _ _ _ _ _ HB.out)
        have BU := Lib.hid (show Below wt.heap.size wt wu from by rw [hwu]; exact below_setRow ((Below.refl _ _).alloc (Nat.le_refl _) _) (Nat.le_refl _) _)
        rw [← hwu]
        clear hwu HB
        have BV := Lib.hid (BT.out.trans (BU.out.mono BT.out.size))
        have heqz := eq_sec z z HZ3.out HZ3.out
        simp only [decide_true] at heqz
        clear BT BU
        refine (on_nil).mono ?_
        rintro e _ ⟨rfl, rfl⟩
        go_wp2_with fail
        refine (Kd.len_nil).mono ?_
        rintro e _ ⟨rfl, rfl⟩
        go_wp2_with (first
              | (refine wpList_execg8 rfl (exec_load 38 (.tmp 11) rfl rfl HV.out Try.underlying38 rfl HI.out) ?_
                 change wpList _ _ _ _ (Act.put _ _ (.agg (bva z))) _)
              | (refine wpList_execg8 (v := .agg (bva z)) rfl (exec_build8 38 #[] rfl ?hbld) ?_; case hbld => exact HBZ.out _))
        refine (dwrite_nil _ 0 z).mono ?_
        rintro e wy ⟨rfl, bw⟩
        have BY := Lib.hid (BV.out.trans (bw.mono BV.out.size))
        clear bw BV HV heqz
        go_wp2_with fail
        refine (dflush_nil _).mono ?_
        rintro e _ ⟨rfl, rfl⟩
        go_wp2_with fail
        refine (rot_nil 0 0 1).mono ?_
        rintro e _ ⟨rfl, rfl⟩
        go_wp2_with fail
        refine (dump_nil).mono ?_
        rintro e _ ⟨rfl, rfl⟩
        go_wp2_with fail
        refine (waiting_nil).mono ?_
        rintro e _ ⟨rfl, rfl⟩
        go_wp2_with fail
        go_ret
        exact ⟨rfl, BY.out⟩
      ·
        obtain rfl : n = 0 := by omega
        have BX := Lib.hid (B1.out.trans (H2.out.bel.mono B1.out.size))
        clear hp
        go_wp2_with (refine (len_sys H2.out.sys 0 (by show 0 < 1; omega)).mono ?_; rintro e w' ⟨rfl, rfl⟩; rw [ap_len0])
        refine (tear_nil 1 1).mono ?_
        rintro e _ ⟨rfl, rfl⟩
        go_wp2_with fail
        refine (lie_nil true).mono ?_
        rintro e _ ⟨rfl, rfl⟩
        go_wp2_with fail
        refine (out_nil true).mono ?_
        rintro e _ ⟨rfl, rfl⟩
        go_wp2_with fail
        refine (fail_nil 1).mono ?_
        rintro e _ ⟨rfl, rfl⟩
        go_wp2_with fail
        refine (restart_nil).mono ?_
        rintro e _ ⟨rfl, rfl⟩
        go_wp2_with fail
        refine (dread_nil _ 0).mono ?_
        rintro e wt ⟨rfl, bw⟩
        rw [← HZ.out]
        have BT := Lib.hid (BX.out.trans (bw.mono BX.out.size))
        have HB := Lib.hid (show Blk (wt.alloc (.cells (bva z) 38)) wt.heap.size (bva z) 38 from heap_alloc_new _ _)
        clear bw BX
        go_wp2_with (refine wpList_store_row rfl 38 (.tmp 11) (.tmp 71) rfl wt.heap.size (bva z) rfl rfl 38 (bva z) HB.out HI.out (by rfl) (bva_one _) ?_)
        obtain ⟨wu, hwu⟩ : ∃ wu, wu = ((wt.alloc (.cells (bva z) 38)).setRow wt.heap.size (bva z)) := ⟨_, rfl⟩
        have HV := Lib.hid (show Blk wu wt.heap.size (bva z) 38 from by rw [hwu]; exact setRow_heap _ _ _ _ _ _ HB.out)
        have BU := Lib.hid (show Below wt.heap.size wt wu from by rw [hwu]; exact below_setRow ((Below.refl _ _).alloc (Nat.le_refl _) _) (Nat.le_refl _) _)
        rw [← hwu]
        clear hwu HB
        have BV := Lib.hid (BT.out.trans (BU.out.mono BT.out.size))
        have heqz := eq_sec z z HZ3.out HZ3.out
        simp only [decide_true] at heqz
        clear BT BU
        refine (on_nil).mono ?_
        rintro e _ ⟨rfl, rfl⟩
        go_wp2_with fail
        refine (Kd.len_nil).mono ?_
        rintro e _ ⟨rfl, rfl⟩
        go_wp2_with (first
              | (refine wpList_execg8 rfl (exec_load 38 (.tmp 11) rfl rfl HV.out Try.underlying38 rfl HI.out) ?_
                 change wpList _ _ _ _ (Act.put _ _ (.agg (bva z))) _)
              | (refine wpList_execg8 (v := .agg (bva z)) rfl (exec_build8 38 #[] rfl ?hbld) ?_; case hbld => exact HBZ.out _))
        refine (dwrite_nil _ 0 z).mono ?_
        rintro e wy ⟨rfl, bw⟩
        have BY := Lib.hid (BV.out.trans (bw.mono BV.out.size))
        clear bw BV HV heqz
        go_wp2_with fail
        refine (dflush_nil _).mono ?_
        rintro e _ ⟨rfl, rfl⟩
        go_wp2_with fail
        refine (rot_nil 0 0 1).mono ?_
        rintro e _ ⟨rfl, rfl⟩
        go_wp2_with fail
        refine (dump_nil).mono ?_
        rintro e _ ⟨rfl, rfl⟩
        go_wp2_with fail
        refine (waiting_nil).mono ?_
        rintro e _ ⟨rfl, rfl⟩
        go_wp2_with fail
        go_ret
        exact ⟨rfl, BY.out⟩
  · go_upto_region 5 with fail
    clear hbig
    obtain ⟨n, hn⟩ : ∃ n, n = clampN x0 := ⟨_, rfl⟩
    have hnb : n ≤ 4096 := by rw [hn]; unfold clampN; omega
    have HNB := Lib.hid hnb
    have HMM := Lib.hid (show (n : Int) = max 0 (min x0 4096) by rw [hn]; unfold clampN; omega)
    go_wp2_with fail
    refine (live_new0 x0).mono ?_
    rintro e w2 ⟨p, g1, rfl, F2, h⟩
    have H2 := Lib.hid (show Live w1 w2 p [g1] (ap0 n) F2 from by rw [hn]; exact h)
    clear h hn hnb
    go_upto_region 6 with fail
    go_cut [27] (fun s wx => s = .bool false ∧ wx = w2)
    case first =>
      go_wp2_with (refine (len_sys H2.out.sys 0 (by show 0 < 1; omega)).mono ?_; rintro e w' ⟨rfl, rfl⟩; rw [ap_len0])
      all_goals (go_meet; exact ⟨by first | rfl | exact congrArg Value.bool (by have := HMM.out; first | exact decide_eq_false (by omega) | (simp; omega)), rfl⟩)
    case rest =>
      obtain ⟨rfl, rfl⟩ := hcut
      have n0 : (0 : Int) ≤ (n : Int) := by omega
      by_cases hp : 0 < n
      ·
        have n1 : (0 : Int) < (n : Int) := by omega
        have HP := Lib.hid hp
        clear hp
        go_wp2_with (refine (len_sys H2.out.sys 0 (by show 0 < 1; omega)).mono ?_; rintro e w' ⟨rfl, rfl⟩; rw [ap_len0])
        refine (HSEC.out _).mono ?_
        rintro e w3 ⟨rfl, bw⟩
        have H3 := Lib.hid (H2.out.below bw)
        clear bw H2 
        go_wp2_with fail
        have hc := live_write H3.out 0 (by show 0 < 1; omega) 0 s HS3.out (by show 0 < _; omega)
        rw [ap_w HP.out] at hc
        refine hc.mono ?_
        clear hc
        rintro e w4 ⟨rfl, F4, h, hf4, hb4⟩
        have H4 := Lib.hid (show Live w1 w4 p [g1] (ap1 n s) F4 from h)
        clear h hf4 hb4 H3 
        go_wp2_with fail
        have hc := live_flush H4.out 0 (by show 0 < 1; omega)
        rw [ap_f] at hc
        refine hc.mono ?_
        clear hc
        rintro e w5 ⟨rfl, F5, h, hf5, hb5⟩
        have H5 := Lib.hid (show Live w1 w5 p [g1] (ap2 n s) F5 from h)
        clear h hf5 hb5 H4 
        go_wp2_with fail
        refine (live_dump8 H5.out 0 (by show 0 < 1; omega)).mono ?_
        rintro e w6 ⟨A6, n6, c6, rfl, hn6, hr6, hq6, bw⟩
        have H6 := Lib.hid (H5.out.below bw)
        have R6 := Lib.hid hr6
        have N6 := Lib.hid hn6
        have Q6 := Lib.hid hq6
        clear bw hr6 hn6 hq6 H5
        obtain rfl : n = n6 := (ap_len2 n s).symm.trans N6.out
        clear N6
        go_wp2_with (refine (len_sys H6.out.sys 0 (by show 0 < 1; omega)).mono ?_; rintro e w' ⟨rfl, rfl⟩; rw [ap_len2])
        obtain ⟨c2, hc2⟩ : ∃ c2 : UInt8, ((c.toNat : Int) + 1) % 256 = (c2.toNat : Int) := u8_of (by omega)
        rw [hc2]
        clear hc2
        refine (sector_any c2 _).mono ?_
        rintro e w7 ⟨rfl, bw⟩
        have H7 := Lib.hid (H6.out.below bw)
        have R7 := Lib.hid (R6.out.below bw)
        clear bw H6 R6
        obtain ⟨q, rfl⟩ : ∃ q, A6 = some ⟨q, 0, none⟩ := by
          rcases own_addr8 R7.out.1 with ⟨_, h0, _⟩ | h0
          · have := HP.out; omega
          · exact h0
        have HOM := Lib.hid (own_setMid (o := 0) (vs := bv (secC c2)) R7.out.1 (by rw [bv_length, secC_length]; have := HP.out; omega))
        have HIC : Hid ((Try.prog.info? 38).map (·.size) = some (bva (secC c2)).size) := by show _ = _; rw [bva_size, secC_length]; exact info_sec
        go_wp2_with (show wpList _ _ _ ({ dst := none, op := .store 38 (.tmp 48) (.tmp 47), type := _, pos := _, after := _, guard := _ } :: _) _ _; apply Classical.byContradiction; intro hneg)
        refine hneg ?_
        clear hneg
        refine wpList_store_mid rfl 38 (.tmp 48) (.tmp 47) rfl q 0 (bva (secC c2)) rfl rfl (by have h := HOM.out.2; rwa [show (bv (secC c2)).length = (bva (secC c2)).size by rw [bv_length, bva_size]] at h) HIC.out (bva_one _) ?_
        generalize hwv : World.setCells _ _ _ _ = wv
        have HBV := Lib.hid (show But (fun j => j = q) w7 wv by rw [← hwv]; exact (But.refl _).grown (grown_setCells _ _ _ _) (fun j hj => .inl (Option.some.inj hj).symm))
        clear hwv
        have HL := Lib.hid (H7.out.but8 HBV.out (fun j hf e => R7.out.2 q rfl (e ▸ hf)) (fun j e => by rw [e]; exact Q6.out q rfl))
        clear H7 R7 HOM HIC HBV Q6
        go_wp2_with fail
        refine (dread_any HL.out.sys 0 (by show 0 < 1; omega) 0).mono ?_
        rintro e w8 ⟨rfl, bw⟩
        rw [ap_r HP.out]
        have H8 := Lib.hid (HL.out.below bw)
        clear bw HL 
        have HB := Lib.hid (show Blk (w8.alloc (.cells (bva z) 38)) w8.heap.size (bva z) 38 from heap_alloc_new _ _)
        go_wp2_with (refine wpList_store_row rfl 38 (.tmp 7) (.tmp 52) rfl w8.heap.size (bva s) rfl rfl 38 (bva z) HB.out HIS.out (by rw [bva_size, bva_size, HS3.out, HZ3.out]) (bva_one _) ?_)
        obtain ⟨wb, hwb⟩ : ∃ wb, wb = ((w8.alloc (.cells (bva z) 38)).setRow w8.heap.size (bva s)) := ⟨_, rfl⟩
        have HV := Lib.hid (show Blk wb w8.heap.size (bva s) 38 from by rw [hwb]; exact setRow_heap _ _ _ _ _ _ HB.out)
        have BB := Lib.hid (show Below w8.heap.size w8 wb from by rw [hwb]; exact below_setRow ((Below.refl _ _).alloc (Nat.le_refl _) _) (Nat.le_refl _) _)
        rw [← hwb]
        clear hwb
        have BW := Lib.hid (B1.out.trans ((H8.out.bel.trans (BB.out.mono H8.out.bel.size)).mono B1.out.size))
        clear H8 BB HB
        have heq := eq_sec s s HS3.out HS3.out
        simp only [decide_true] at heq
        go_wp2_with fail
        refine wp_region_held_drew (S := fun w' => Below wb.heap.size wb w') (by kernel_rfl) (Below.refl _ _).drew (fun hh => ?_)
        have HH := Lib.hid hh
        clear hh
        refine wpAnyH_take (i := 0) (v := .agg (bva s)) rfl (by kernel_rfl) (by kernel_rfl) (by kernel_rfl) (fun _ _ _ h => h) (Or.inl ⟨by rfl, fun w' hw' => ?yl0⟩) HH.out ?_
        case yl0 => exact exec_load 38 (.tmp 7) rfl rfl (HV.out.below hw') Try.underlying38 rfl HIS.out
        refine wpAnyH_take (i := 1) (v := ?va1) rfl (by kernel_rfl) (by kernel_rfl) (by kernel_rfl) (fun _ _ _ h => h) (Or.inl ⟨by rfl, fun w' _ => ?ya1⟩) HH.out ?_
        case ya1 => (go_simp; try with_reducible rfl)
        try simp only [List.getElem_toArray, List.getElem_cons_succ, List.getElem_cons_zero, Act.put, List.setIfInBounds_toArray, List.set_cons_zero, List.set_cons_succ]
        refine wpAnyH_ready (rs := [2]) (by kernel_rfl) (by simp) (AllReadyH.cons rfl (fun K hK => ?_) AllReadyH.nil)
        go_simp
        refine (HSEC.out _).mono ?_
        rintro e wc2 ⟨rfl, bw⟩
        go_simp
        refine hK.out _ _ (HH.out.trans (bw.mono HH.out.size)) (fun hh => ?_)
        have HH' := Lib.hid hh
        clear hh hK K HH bw
        have HH := Lib.hid HH'.out
        clear HH'
        refine wpAnyH_take (i := 3) (v := ?va3) rfl (by kernel_rfl) (by kernel_rfl) (by kernel_rfl) (fun _ _ _ h => h) (Or.inl ⟨by rfl, fun w' _ => ?ya3⟩) HH.out ?_
        case ya3 => (go_simp; try with_reducible rfl)
        try simp only [List.getElem_toArray, List.getElem_cons_succ, List.getElem_cons_zero, Act.put, List.setIfInBounds_toArray, List.set_cons_zero, List.set_cons_succ]
        refine wpAnyH_done (by kernel_rfl) ?_ _
        have BX := Lib.hid (BW.out.trans (HH.out.mono BW.out.size))
        clear heq HV BW HH
        go_wp2_with fail
        refine (tear_nil 1 1).mono ?_
        rintro e _ ⟨rfl, rfl⟩
        go_wp2_with fail
        refine (lie_nil true).mono ?_
        rintro e _ ⟨rfl, rfl⟩
        go_wp2_with fail
        refine (out_nil true).mono ?_
        rintro e _ ⟨rfl, rfl⟩
        go_wp2_with fail
        refine (fail_nil 1).mono ?_
        rintro e _ ⟨rfl, rfl⟩
        go_wp2_with fail
        refine (restart_nil).mono ?_
        rintro e _ ⟨rfl, rfl⟩
        go_wp2_with fail
        refine (dread_nil _ 0).mono ?_
        rintro e wt ⟨rfl, bw⟩
        rw [← HZ.out]
        have BT := Lib.hid (BX.out.trans (bw.mono BX.out.size))
        have HB := Lib.hid (show Blk (wt.alloc (.cells (bva z) 38)) wt.heap.size (bva z) 38 from heap_alloc_new _ _)
        clear bw BX
        go_wp2_with (refine wpList_store_row rfl 38 (.tmp 11) (.tmp 71) rfl wt.heap.size (bva z) rfl rfl 38 (bva z) HB.out HI.out (by rfl) (bva_one _) ?_)
        obtain ⟨wu, hwu⟩ : ∃ wu, wu = ((wt.alloc (.cells (bva z) 38)).setRow wt.heap.size (bva z)) := ⟨_, rfl⟩
        have HV := Lib.hid (show Blk wu wt.heap.size (bva z) 38 from by rw [hwu]; exact setRow_heap _ _ _ _ _ _ HB.out)
        have BU := Lib.hid (show Below wt.heap.size wt wu from by rw [hwu]; exact below_setRow ((Below.refl _ _).alloc (Nat.le_refl _) _) (Nat.le_refl _) _)
        rw [← hwu]
        clear hwu HB
        have BV := Lib.hid (BT.out.trans (BU.out.mono BT.out.size))
        have heqz := eq_sec z z HZ3.out HZ3.out
        simp only [decide_true] at heqz
        clear BT BU
        refine (on_nil).mono ?_
        rintro e _ ⟨rfl, rfl⟩
        go_wp2_with fail
        refine (Kd.len_nil).mono ?_
        rintro e _ ⟨rfl, rfl⟩
        go_wp2_with (first
              | (refine wpList_execg8 rfl (exec_load 38 (.tmp 11) rfl rfl HV.out Try.underlying38 rfl HI.out) ?_
                 change wpList _ _ _ _ (Act.put _ _ (.agg (bva z))) _)
              | (refine wpList_execg8 (v := .agg (bva z)) rfl (exec_build8 38 #[] rfl ?hbld) ?_; case hbld => exact HBZ.out _))
        refine (dwrite_nil _ 0 z).mono ?_
        rintro e wy ⟨rfl, bw⟩
        have BY := Lib.hid (BV.out.trans (bw.mono BV.out.size))
        clear bw BV HV heqz
        go_wp2_with fail
        refine (dflush_nil _).mono ?_
        rintro e _ ⟨rfl, rfl⟩
        go_wp2_with fail
        refine (rot_nil 0 0 1).mono ?_
        rintro e _ ⟨rfl, rfl⟩
        go_wp2_with fail
        refine (dump_nil).mono ?_
        rintro e _ ⟨rfl, rfl⟩
        go_wp2_with fail
        refine (waiting_nil).mono ?_
        rintro e _ ⟨rfl, rfl⟩
        go_wp2_with fail
        go_ret
        exact ⟨rfl, BY.out⟩
      ·
        obtain rfl : n = 0 := by omega
        have BX := Lib.hid (B1.out.trans (H2.out.bel.mono B1.out.size))
        clear hp
        go_wp2_with (refine (len_sys H2.out.sys 0 (by show 0 < 1; omega)).mono ?_; rintro e w' ⟨rfl, rfl⟩; rw [ap_len0])
        refine (tear_nil 1 1).mono ?_
        rintro e _ ⟨rfl, rfl⟩
        go_wp2_with fail
        refine (lie_nil true).mono ?_
        rintro e _ ⟨rfl, rfl⟩
        go_wp2_with fail
        refine (out_nil true).mono ?_
        rintro e _ ⟨rfl, rfl⟩
        go_wp2_with fail
        refine (fail_nil 1).mono ?_
        rintro e _ ⟨rfl, rfl⟩
        go_wp2_with fail
        refine (restart_nil).mono ?_
        rintro e _ ⟨rfl, rfl⟩
        go_wp2_with fail
        refine (dread_nil _ 0).mono ?_
        rintro e wt ⟨rfl, bw⟩
        rw [← HZ.out]
        have BT := Lib.hid (BX.out.trans (bw.mono BX.out.size))
        have HB := Lib.hid (show Blk (wt.alloc (.cells (bva z) 38)) wt.heap.size (bva z) 38 from heap_alloc_new _ _)
        clear bw BX
        go_wp2_with (refine wpList_store_row rfl 38 (.tmp 11) (.tmp 71) rfl wt.heap.size (bva z) rfl rfl 38 (bva z) HB.out HI.out (by rfl) (bva_one _) ?_)
        obtain ⟨wu, hwu⟩ : ∃ wu, wu = ((wt.alloc (.cells (bva z) 38)).setRow wt.heap.size (bva z)) := ⟨_, rfl⟩
        have HV := Lib.hid (show Blk wu wt.heap.size (bva z) 38 from by rw [hwu]; exact setRow_heap _ _ _ _ _ _ HB.out)
        have BU := Lib.hid (show Below wt.heap.size wt wu from by rw [hwu]; exact below_setRow ((Below.refl _ _).alloc (Nat.le_refl _) _) (Nat.le_refl _) _)
        rw [← hwu]
        clear hwu HB
        have BV := Lib.hid (BT.out.trans (BU.out.mono BT.out.size))
        have heqz := eq_sec z z HZ3.out HZ3.out
        simp only [decide_true] at heqz
        clear BT BU
        refine (on_nil).mono ?_
        rintro e _ ⟨rfl, rfl⟩
        go_wp2_with fail
        refine (Kd.len_nil).mono ?_
        rintro e _ ⟨rfl, rfl⟩
        go_wp2_with (first
              | (refine wpList_execg8 rfl (exec_load 38 (.tmp 11) rfl rfl HV.out Try.underlying38 rfl HI.out) ?_
                 change wpList _ _ _ _ (Act.put _ _ (.agg (bva z))) _)
              | (refine wpList_execg8 (v := .agg (bva z)) rfl (exec_build8 38 #[] rfl ?hbld) ?_; case hbld => exact HBZ.out _))
        refine (dwrite_nil _ 0 z).mono ?_
        rintro e wy ⟨rfl, bw⟩
        have BY := Lib.hid (BV.out.trans (bw.mono BV.out.size))
        clear bw BV HV heqz
        go_wp2_with fail
        refine (dflush_nil _).mono ?_
        rintro e _ ⟨rfl, rfl⟩
        go_wp2_with fail
        refine (rot_nil 0 0 1).mono ?_
        rintro e _ ⟨rfl, rfl⟩
        go_wp2_with fail
        refine (dump_nil).mono ?_
        rintro e _ ⟨rfl, rfl⟩
        go_wp2_with fail
        refine (waiting_nil).mono ?_
        rintro e _ ⟨rfl, rfl⟩
        go_wp2_with fail
        go_ret
        exact ⟨rfl, BY.out⟩
theorem deviceApart_own : ownKnob Try.prog.godebug = none := by kernel_rfl
theorem deviceApart_laid : laidOutB Try.prog = true := by kernel_rfl

set_option maxRecDepth 100000 in
theorem deviceApart_lifted (os : Os) (started : os.Started) (H : Type) (enc : TypeId × Value → H) :
    ReturnsInHanded {} Try.checked os 11 .any (Rows.deviceApartSpec.pre6 enc Try.prog Try.f11 Rows.deviceApartRow.domain false) (Rows.deviceApartSpec.post enc Try.prog Try.f11 false true false false) := by
  refine returnsInHanded_of_change (C := Try.checked) deviceApart_own started (by kernel_rfl) Try.func11
    (ChangeSpec.witness6 (enc := enc) (C := Try.checked) false ⟨#[], #[.int .i64 0, .int .u8 0], []⟩ 8 (by kernel_rfl) (by kernel_rfl) (by kernel_rfl) (by kernel_rfl)) ?_
  intro W base args ds gs before hval0 hW _ _
  have hval : ∀ (j : Nat) t v, Try.f11.params[j]? = some t → args[j]? = some v → Value.okWide Try.prog W .any base t v := hval0
  have hW' := hW
  obtain ⟨p, q, hA0, hV, rfl, hfz, hnd⟩ := hW
  have hA : DataW.TrodAll enc Try.prog W 0 (fun _ => true) true Try.f11.params.toList args.toList ds p := hA0
  rw [Try.params11] at hA hval
  obtain ⟨v0, vs0, d0, ds0, p0, q0, hargs, rfl, rfl, h0, r0⟩ := trodAll_cons hA
  obtain ⟨v1, vs1, d1, ds1, p1, q1, rfl, rfl, rfl, h1, r1⟩ := trodAll_cons r0
  obtain ⟨rfl, rfl, rfl⟩ := trodAll_nil r1
  obtain rfl : args = #[v0, v1] := by cases args; simp_all
  obtain ⟨rfl, rfl⟩ := trodVars_none hV
  obtain ⟨a0, rfl, rfl, rfl, w0⟩ := open_int Try.underlying3 (hval 0 3 v0 rfl rfl) h0
  have b0 := bounds_i64 w0
  obtain ⟨a1, rfl, rfl, rfl, w1⟩ := open_int Try.underlying5 (hval 1 5 v1 rfl rfl) h1
  have b1 := bounds_u8 w1
  clear hA0 hval0
  refine (deviceApart_any W a0 b0 a1 b1).mono fun e W' ⟨he, bel⟩ => ?_
  subst he
  exact ⟨_, rfl, _, _, _, [], _, [], hW', trodAll_mk1 (shut_bool Try.underlying4 _), (trodAll_cons_mk (shut_int Try.underlying3 w0) (trodAll_cons_mk (shut_int Try.underlying5 w1) trodAll_mk0)), rfl, bel.frame _, fun h => by cases h⟩

theorem deviceApart_holds : Rows.DeviceApartSaid :=
  OpenClaim.holds_of_wide 11 Try.f11 rfl rfl rfl rfl rfl rfl rfl ⟨rfl, rfl, rfl, rfl, rfl⟩ rfl rfl rfl rfl rfl (by kernel_rfl) Try.func11 (by kernel_rfl)
    (of_decide_eq_true (by kernel_rfl)) (by unfold Func.isWrapper; rw [if_neg (of_decide_eq_false (by kernel_rfl))]; exact ⟨rfl, rfl⟩)
    (fun os started H enc _ => deviceApart_lifted os started H enc)

#print axioms deviceApart_holds

end Go.Proofs.Ytolbffcbamfbeaa
