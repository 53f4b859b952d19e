/-
  The law ScrubSteps holds: a walk scrubs each place, from 0 on, and counts as it goes; behind the last one nothing. For any rows of pairs, and any byte.
-/
import Derived.Test.YtniamllcoemikaaMt1
import Derived.OrdersHeld
import Derived.Deep.RegionHeld
import Derived.Test.YtniamllcoemikaaRows
import Derived.ProofKit
import Derived.OpenShut
import Derived.ShutString
import Derived.ChangeOld
namespace Go.Proofs.Ytniamllcoemikaa
open Go.RowKit Kd Mi Sc Go.ChangeShapes Go.WideShapes Go.ChangeAt
attribute [local go_sem ↓] Go.wp_at_zero Go.wp_at_succ
theorem byte_ofT {a : Int} (h : 0 ≤ a ∧ a ≤ 255) : ∃ x : UInt8, a = (x.toNat : Int) := ⟨UInt8.ofNat a.toNat, by rw [UInt8.toNat_ofNat']; omega⟩
set_option maxRecDepth 100000 in
set_option maxHeartbeats 25600000 in
theorem scrubSteps_any (w : World) (A : Option Addr) (N c : Nat) (l : List (UInt8 × UInt8)) (hl : l.length = N) (_ : N ≤ c) (_ : c ≤ maxLen) (hr : Rd w.heap.size w A (prs l)) (D : Option Addr) (M d : Nat) (r : List (UInt8 × UInt8)) (hl' : r.length = M) (_ : M ≤ d) (_ : d ≤ maxLen) (hr' : Rd w.heap.size w D (prs r)) (a0 : Int) (c0 : 0 ≤ a0 ∧ a0 ≤ 255) : Calls Try.prog 4 #[.slice A N c, .slice D M d, .int .u8 a0] w (RetB (.bool true) w) := by
  obtain ⟨u0, rfl⟩ := byte_ofT c0
  clear c0
  obtain ⟨kt, hk0⟩ : ∃ kt, kt = u0.toNat % 4 := ⟨_, rfl⟩
  have HKT := Lib.hid (show kt < 4 by rw [hk0]; exact Nat.mod_lt _ (by omega))
  have wu : IntKind.i64.wrap (u0.toNat : Int) = (u0.toNat : Int) := IntWalk.i64_in _ (by have := UInt8.toNat_lt u0; omega)
  have hm6 : ((u0.toNat : Int)).tmod 4 = (kt : Int) := by rw [hk0, Int.tmod_eq_emod_of_nonneg (by omega)]; omega
  clear hk0
  obtain ⟨z, hz0⟩ : ∃ z : List UInt8, z = zeroS := ⟨_, rfl⟩
  have hz : ∀ W, (zeroValue 37).run Try.prog W = .ok (.agg (bva z)) W := fun _ => by rw [hz0]; kernel_rfl
  have HZ3 := Lib.hid (show z.length = 128 by rw [hz0]; exact zeroS_length)
  clear hz0
  have HL := Lib.hid hl
  have HR := Lib.hid hr
  have HL' := Lib.hid hl'
  have HR' := Lib.hid hr'
  have B0 := Lib.hid (Below.refl w.heap.size w)
  clear hl hr hl' hr'
  go_enter Try.func4, Try.ntmps4
  go_wp2_with fail
  have hc := Sc.awake_any w
  refine hc.mono ?_
  clear hc
  rintro e w1 ⟨rfl, bw⟩
  have B1 := Lib.hid (B0.out.trans (bw.mono B0.out.size))
  clear bw B0
  by_cases hbig : 12 < N
  · have n1 : (12 : Int) < (N : Int) := by omega
    go_wp2_with fail
    refine (Sc.awake_any w1).mono ?_
    rintro e wz ⟨rfl, bz⟩
    go_wp2_with fail
    go_ret
    exact ⟨rfl, B1.out.trans (bz.mono B1.out.size)⟩
  by_cases hbig' : 12 < M
  · have n0 : ¬ (12 : Int) < (N : Int) := by omega
    have n1 : (12 : Int) < (M : Int) := by omega
    go_wp2_with fail
    refine (Sc.awake_any w1).mono ?_
    rintro e wz ⟨rfl, bz⟩
    go_wp2_with fail
    go_ret
    exact ⟨rfl, B1.out.trans (bz.mono B1.out.size)⟩
  have n0 : ¬ (12 : Int) < (N : Int) := by omega
  have n1 : ¬ (12 : Int) < (M : Int) := by omega
  have HNB := Lib.hid (show N ≤ 12 ∧ M ≤ 12 by omega)
  clear hbig hbig'
  obtain ⟨k, hk⟩ : ∃ k, k = min N M := ⟨_, rfl⟩
  obtain ⟨L0, hL0⟩ : ∃ L0, L0 = (l.take k).map sec2 := ⟨_, rfl⟩
  obtain ⟨L1, hL1⟩ : ∃ L1, L1 = (r.take k).map sec2 := ⟨_, rfl⟩
  have HP := Lib.hid (pair_any w1 B1.out.size (c := c) (d := d) HL.out HL'.out (HR.out.below B1.out) (HR'.out.below B1.out) HNB.out.1 HNB.out.2)
  rw [← hk, ← hL0, ← hL1] at HP
  have HKB := Lib.hid (show k ≤ 12 by have := HNB.out; omega)
  have HL0 := Lib.hid (show L0.length = k by rw [hL0, List.length_map, List.length_take, HL.out]; omega)
  have HL1 := Lib.hid (show L1.length = k by rw [hL1, List.length_map, List.length_take, HL'.out]; omega)
  have H03 := Lib.hid (show ∀ x ∈ L0, x.length = 128 by rw [hL0]; intro x hx; obtain ⟨y, _, rfl⟩ := List.mem_map.1 hx; exact sec2_length y)
  have H13 := Lib.hid (show ∀ x ∈ L1, x.length = 128 by rw [hL1]; intro x hx; obtain ⟨y, _, rfl⟩ := List.mem_map.1 hx; exact sec2_length y)
  have HFR := Lib.hid (start_fresh HL0.out HL1.out)
  clear hk hL0 hL1
  go_wp2_with fail
  have hc := HP.out
  refine hc.mono ?_
  clear hc
  rintro e w2 ⟨pw, g1, g2, g, s2, F2, U, V, cu, cv, rfl, h, hu, hv⟩
  have H2 := Lib.hid (show Mu.LM pw g1 g2 gG g w1 w2 s2 F2 (startM L0 L1 k) 0 from h)
  have RU2 := Lib.hid hu
  have RV2 := Lib.hid hv
  clear h hu hv
  clear HP
  go_wp2_with (show wpList _ _ _ ({ dst := none, op := .store 27 (.tmp 10) (.tmp 37), type := _, pos := _, after := _, guard := _ } :: _) _ _; apply Classical.byContradiction; intro hneg)
  refine hneg ?_
  clear hneg
  refine wpList_store_row rfl 27 (.tmp 10) (.tmp 37) rfl w2.heap.size #[.slice U k cu, .slice V k cv] rfl rfl 27 #[.slice none 0 0, .slice none 0 0] (heap_alloc_new _ _) secsAV_info rfl (by simp [Value.oneCell']) ?_
  obtain ⟨w3, hw3⟩ : ∃ w3, w3 = (w2.alloc (.cells #[.slice none 0 0, .slice none 0 0] 27)).setRow w2.heap.size #[.slice U k cu, .slice V k cv] := ⟨_, rfl⟩
  have bw : Below w2.heap.size w2 w3 := by rw [hw3]; exact below_setRow ((Below.refl _ _).alloc (Nat.le_refl _) _) (Nat.le_refl _) _
  have hbx : Blk w3 w2.heap.size #[.slice U k cu, .slice V k cv] 27 := by rw [hw3]; exact setRow_heap _ _ _ _ _ _ (heap_alloc_new _ _)
  rw [← hw3]
  clear hw3
  obtain ⟨b3, hb3⟩ : ∃ b3, b3 = w2.heap.size := ⟨_, rfl⟩
  rw [← hb3] at hbx
  rw [← hb3]
  have BS3 := Lib.hid (show Bx w1 w3 F2 b3 #[.slice U k cu, .slice V k cv] 27 from ⟨hbx, by rw [hb3]; exact H2.out.live.bel.size, fun hf => by have := (ML (Mu.one pw g1 g2) gG g).lt H2.out.live.at_ _ hf; omega⟩)
  clear hb3 hbx
  have RU3 := Lib.hid (RU2.out.below bw)
  have RV3 := Lib.hid (RV2.out.below bw)
  clear RU2 RV2
  have H3 := Lib.hid (H2.out.below bw)
  clear bw H2
  obtain ⟨xs, hx0, hxs, hxe, hxf⟩ := run_steps (f := goodN) HFR.out
  obtain ⟨cf, hcf⟩ : ∃ cf, cf = cntK goodN L0 L1 := ⟨_, rfl⟩
  rw [show cntK goodN (startM L0 L1 k).l0 (startM L0 L1 k).l1 = cf from hcf.symm] at hxs hxe
  have HX0 := Lib.hid hx0
  have HXS := Lib.hid hxs
  have HXE := Lib.hid hxe
  have HC0 := Lib.hid (show cf 0 = Wk.zero by rw [hcf]; rfl)
  have HSM := Lib.hid (show ∀ j, j ≤ 12 → (cf j).small from fun j hj => small_few (j := j) (by rw [hcf]; exact cntK_n goodN L0 L1 j) (by rw [hcf]; exact cnt_sum L0 L1 j) hj)
  have HCF := Lib.hid hcf
  clear hx0 hxs hxe hxf hcf
  go_wp2_with fail
  refine (lw_new H3.out).mono ?_
  rintro e w4 ⟨q, F4, rfl, h, hn, hbw⟩
  have hb := but_below (T := F2) hbw
  have H4 := Lib.hid (show LW pw g1 g2 gG g q w1 w4 s2 (cf 0) F4 (xs 0) (0 + 0) by rw [HC0.out, HX0.out]; exact h)
  have RU4 := Lib.hid (RU3.out.step hn hb)
  clear RU3
  have RV4 := Lib.hid (RV3.out.step hn hb)
  clear RV3
  have BS4 := Lib.hid (bx_dev BS3.out hn hb)
  clear h hn hb hbw H3 BS3
  have hbc : w4.cell? ⟨b3, 0, none⟩ = some (.slice U k cu) := BS4.out.1.cell 0
  go_wp2_with fail
  clear hbc
  go_loopw [43] (fun i wr => ∃ (j : Nat) (s : Mr (Mu.one pw g1 g2)) (F : Nat → Prop), j ≤ k ∧ i = .int .i64 j ∧ LW pw g1 g2 gG g q w1 wr s (cf j) F (xs j) (0 + j) ∧ Bx w1 wr F b3 #[.slice U k cu, .slice V k cv] 27 ∧ RowN w1 wr F (.slice U k cu) k L0 ∧ RowN w1 wr F (.slice V k cv) k L1) (fun i _ => k - (intOf i).toNat)
  case atStart => exact ⟨0, _, _, Nat.zero_le _, rfl, H4.out, BS4.out, RU4.out, RV4.out⟩
  case round =>
    clear H4 BS4 RU4 RV4
    obtain ⟨j, sj, Fj, hj, rfl, hlw, hbs, hru, hrv⟩ := hrel
    have H := Lib.hid hlw
    have BS := Lib.hid hbs
    have RU := Lib.hid hru
    have RV := Lib.hid hrv
    have HJ := Lib.hid hj
    clear hlw hbs hru hrv hj
    by_cases hlt : j < k
    · have HLT := Lib.hid hlt
      have j0 : (0 : Int) ≤ (j : Int) := by omega
      have j1 : (j : Int) < (k : Int) := by omega
      have wj : IntKind.i64.wrap ((j : Int) + 1) = ((j + 1 : Nat) : Int) := IntWalk.i64_in _ (by have := HKB.out; omega)
      obtain ⟨cu1, cu2⟩ := own_cap RU.out.1
      obtain ⟨cv1, cv2⟩ := own_cap RV.out.1
      have ju : (j : Int) ≤ (cu : Int) := by omega
      have jv : (j : Int) ≤ (cv : Int) := by omega
      have ju' : j ≤ cu := by omega
      have jv' : j ≤ cv := by omega
      have HRA := Lib.hid (show ∀ w', Below wr.heap.size wr w' → Calls Try.prog 21 #[.slice U j cu, .slice V j cv] w' (RetB (.agg (cf j).rep) w') from fun w' hb => by
        rw [HCF.out]
        exact rall_take hb.size HL0.out HL1.out H03.out H13.out ((Rd.ownN RU.out.1).below hb) ((Rd.ownN RV.out.1).below hb) HKB.out j (by have := HLT.out; omega))
      obtain ⟨cr, hcr⟩ : ∃ cr, cr = (cf j).r := ⟨_, rfl⟩
      obtain ⟨ch, hch⟩ : ∃ ch, ch = (cf j).h := ⟨_, rfl⟩
      obtain ⟨cl, hcl⟩ : ∃ cl, cl = (cf j).l := ⟨_, rfl⟩
      have HREP := Lib.hid (show (cf j).rep = #[.int .i64 cr, .int .i64 ch, .int .i64 cl] by rw [rep_form, hcr, hch, hcl])
      have HIS := Lib.hid (show ∀ w, Calls Try.prog 19 #[.agg #[.int .i64 cr, .int .i64 ch, .int .i64 cl], .agg #[.int .i64 cr, .int .i64 ch, .int .i64 cl]] w (RetB (.int .i64 1) w) from fun w => by have hc := is_any w cr ch cl cr ch cl; rwa [if_pos ⟨rfl, rfl, rfl⟩] at hc)
      clear hlt cu1 cu2 cv1 cv2 hcr hch hcl
      go_upto_region 8 with fail

      refine wp_region_held_drew (S := fun w' => Below wr.heap.size wr w') (by kernel_rfl) (Below.refl _ _).drew (fun hh => ?_)
      have HH := Lib.hid hh
      clear hh
      refine wpAnyH_take (i := 0) (v := ?vA0) rfl (by kernel_rfl) (by kernel_rfl) (by kernel_rfl) (fun _ _ _ h => h) (Or.inl ⟨by rfl, fun w' _ => ?yA0⟩) HH.out ?_
      case yA0 => (go_simp; try with_reducible rfl)
      refine wpAnyH_take (i := 2) (v := ?vA2) rfl (by kernel_rfl) (by kernel_rfl) (by kernel_rfl) (fun _ _ _ h => h) (Or.inl ⟨by rfl, fun w' _ => ?yA2⟩) HH.out ?_
      case yA2 => (go_simp; try with_reducible rfl)
      try simp only [List.getElem_toArray, List.getElem_cons_succ, List.getElem_cons_zero, Act.put, List.setIfInBounds_toArray, List.set_cons_zero, List.set_cons_succ]
      refine wpAnyH_take (i := 3) (v := .slice U k cu) rfl (by kernel_rfl) (by kernel_rfl) (by kernel_rfl) (fun _ _ _ h => h) (Or.inl ⟨by rfl, fun w' hw' => ?yA3⟩) HH.out ?_
      case yA3 => (have hc : w'.cell? ⟨b3, 0, none⟩ = some (.slice U k cu) := (BS.out.1.below hw').cell 0; go_simp; try with_reducible rfl)
      refine wpAnyH_take (i := 4) (v := ?vA4) rfl (by kernel_rfl) (by kernel_rfl) (by kernel_rfl) (fun _ _ _ h => h) (Or.inl ⟨by rfl, fun w' _ => ?yA4⟩) HH.out ?_
      case yA4 => (go_simp; try with_reducible rfl)
      refine wpAnyH_take (i := 5) (v := .slice U j cu) rfl (by kernel_rfl) (by kernel_rfl) (by kernel_rfl) (fun _ _ _ h => h) (Or.inl ⟨by rfl, fun w' hw' => ?yA5⟩) HH.out ?_
      case yA5 => (go_simp; try with_reducible rfl)
      try simp only [List.getElem_toArray, List.getElem_cons_succ, List.getElem_cons_zero, Act.put, List.setIfInBounds_toArray, List.set_cons_zero, List.set_cons_succ]
      refine wpAnyH_take (i := 6) (v := ?vA6) rfl (by kernel_rfl) (by kernel_rfl) (by kernel_rfl) (fun _ _ _ h => h) (Or.inl ⟨by rfl, fun w' _ => ?yA6⟩) HH.out ?_
      case yA6 => (go_simp; try with_reducible rfl)
      refine wpAnyH_take (i := 7) (v := .slice V k cv) rfl (by kernel_rfl) (by kernel_rfl) (by kernel_rfl) (fun _ _ _ h => h) (Or.inl ⟨by rfl, fun w' hw' => ?yA7⟩) HH.out ?_
      case yA7 => (have hc : w'.cell? ⟨b3, 1, none⟩ = some (.slice V k cv) := (BS.out.1.below hw').cell 1; go_simp; try with_reducible rfl)
      refine wpAnyH_take (i := 8) (v := ?vA8) rfl (by kernel_rfl) (by kernel_rfl) (by kernel_rfl) (fun _ _ _ h => h) (Or.inl ⟨by rfl, fun w' _ => ?yA8⟩) HH.out ?_
      case yA8 => (go_simp; try with_reducible rfl)
      try simp only [List.getElem_toArray, List.getElem_cons_succ, List.getElem_cons_zero, Act.put, List.setIfInBounds_toArray, List.set_cons_zero, List.set_cons_succ]
      refine wpAnyH_take (i := 9) (v := .slice V j cv) rfl (by kernel_rfl) (by kernel_rfl) (by kernel_rfl) (fun _ _ _ h => h) (Or.inl ⟨by rfl, fun w' hw' => ?yA9⟩) HH.out ?_
      case yA9 => (go_simp; try with_reducible rfl)
      try simp only [List.getElem_toArray, List.getElem_cons_succ, List.getElem_cons_zero, Act.put, List.setIfInBounds_toArray, List.set_cons_zero, List.set_cons_succ]
      refine wpAnyH_ready (rs := [1]) (by kernel_rfl) (by simp) (AllReadyH.cons rfl (fun K hK => ?_) AllReadyH.nil)
      go_simp
      have hc := lw_report (H.out.below HH.out)
      rw [HREP.out] at hc
      refine hc.mono ?_
      clear hc
      rintro e v1 ⟨rfl, bw1⟩
      go_simp
      refine hK.out _ _ (HH.out.trans (bw1.mono HH.out.size)) (fun hh => ?_)
      have HH' := Lib.hid hh
      clear hh hK K HH bw1
      have HH := Lib.hid HH'.out
      clear HH'
      try simp only [List.getElem_toArray, List.getElem_cons_succ, List.getElem_cons_zero, Act.put, List.setIfInBounds_toArray, List.set_cons_zero, List.set_cons_succ]
      refine wpAnyH_ready (rs := [10]) (by kernel_rfl) (by simp) (AllReadyH.cons rfl (fun K hK => ?_) AllReadyH.nil)
      go_simp
      have hc := HRA.out _ HH.out
      rw [HREP.out] at hc
      refine hc.mono ?_
      clear hc
      rintro e v2 ⟨rfl, bw2⟩
      go_simp
      refine hK.out _ _ (HH.out.trans (bw2.mono HH.out.size)) (fun hh => ?_)
      have HH' := Lib.hid hh
      clear hh hK K HH bw2
      have HH := Lib.hid HH'.out
      clear HH'
      try simp only [List.getElem_toArray, List.getElem_cons_succ, List.getElem_cons_zero, Act.put, List.setIfInBounds_toArray, List.set_cons_zero, List.set_cons_succ]
      refine wpAnyH_ready (rs := [11]) (by kernel_rfl) (by simp) (AllReadyH.cons rfl (fun K hK => ?_) AllReadyH.nil)
      go_simp
      refine (HIS.out _).mono ?_
      rintro e v3 ⟨rfl, bw3⟩
      go_simp
      refine hK.out _ _ (HH.out.trans (bw3.mono HH.out.size)) (fun hh => ?_)
      have HH' := Lib.hid hh
      clear hh hK K HH bw3
      have HH := Lib.hid HH'.out
      clear HH'
      refine wpAnyH_take (i := 12) (v := ?vA12) rfl (by kernel_rfl) (by kernel_rfl) (by kernel_rfl) (fun _ _ _ h => h) (Or.inl ⟨by rfl, fun w' _ => ?yA12⟩) HH.out ?_
      case yA12 => (go_simp; try with_reducible rfl)
      try simp only [List.getElem_toArray, List.getElem_cons_succ, List.getElem_cons_zero, Act.put, List.setIfInBounds_toArray, List.set_cons_zero, List.set_cons_succ]
      refine wpAnyH_done (by kernel_rfl) ?_ _
      have H2 := Lib.hid (H.out.below HH.out)
      have BS2 := Lib.hid (BS.out.below HH.out)
      have RU2 := Lib.hid (RU.out.below HH.out)
      have RV2 := Lib.hid (RV.out.below HH.out)
      clear HRA HIS HH H BS RU RV
      go_wp2_with fail
      have hc := lw_step H2.out (HSM.out j (by have := HLT.out; have := HKB.out; omega)) (by have := HKB.out; have := HLT.out; omega)
      rw [show mdStep gG.f (xs j, cf j) = (((j : Int), true), (xs (j + 1), cf (j + 1))) from HXS.out j HLT.out] at hc
      refine hc.mono ?_
      clear hc
      rintro e wn ⟨rfl, sn, Fn, h, hn, hb⟩
      have HN := Lib.hid (show LW pw g1 g2 gG g q w1 wn sn (cf (j + 1)) Fn (xs (j + 1)) (0 + (j + 1)) from h)
      have BSN := Lib.hid (bx_dev BS2.out hn hb)
      have RUN := Lib.hid (RU2.out.step hn hb)
      have RVN := Lib.hid (RV2.out.step hn hb)
      clear h hn hb H2 BS2 RU2 RV2
      rw [show tupS ((j : Int), true) = .tuple #[.int .i64 j, .bool true] from rfl]
      go_wp2_with fail
      go_roundw
      case rel => exact ⟨j + 1, sn, Fn, HLT.out, by go_num, HN.out, BSN.out, RUN.out, RVN.out⟩
      case measure => (have := HLT.out; simp [intOf]; omega)
    · obtain rfl : j = k := by have := HJ.out; omega
      have j1 : ¬ (j : Int) < (j : Int) := by omega
      clear hlt
      go_wp2_with fail
      go_loopw [75] (fun i wr => ∃ (t : Nat) (s : Mr (Mu.one pw g1 g2)) (F : Nat → Prop), t ≤ kt ∧ i = .int .i64 t ∧ LW pw g1 g2 gG g q w1 wr s (cf j) F (xs j) (0 + j + t) ∧ Bx w1 wr F b3 #[.slice U j cu, .slice V j cv] 27 ∧ RowN w1 wr F (.slice U j cu) j L0 ∧ RowN w1 wr F (.slice V j cv) j L1) (fun i _ => kt - (intOf i).toNat)
      case atStart => exact ⟨0, _, _, Nat.zero_le _, rfl, H.out, BS.out, RU.out, RV.out⟩
      case round =>
        clear H BS RU RV
        obtain ⟨t, st, Ft, ht, rfl, hlw, hbs, hru, hrv⟩ := hrel
        have H := Lib.hid hlw
        have BS := Lib.hid hbs
        have RU := Lib.hid hru
        have RV := Lib.hid hrv
        have HT := Lib.hid ht
        clear hlw hbs hru hrv ht
        by_cases hlt : t < kt
        · have HLT := Lib.hid hlt
          have t1 : (t : Int) < (kt : Int) := by omega
          have wt : IntKind.i64.wrap ((t : Int) + 1) = ((t + 1 : Nat) : Int) := IntWalk.i64_in _ (by have := HKT.out; omega)
          clear hlt
          go_wp2_with fail
          have hc := lw_step H.out (HSM.out j HKB.out) (by have := HKB.out; have := HLT.out; have := HKT.out; omega)
          rw [show mdStep gG.f (xs j, cf j) = ((0, false), (xs j, cf j)) from HXE.out] at hc
          refine hc.mono ?_
          clear hc
          rintro e wn ⟨rfl, sn, Fn, h, hn, hb⟩
          have HN := Lib.hid (show LW pw g1 g2 gG g q w1 wn sn (cf j) Fn (xs j) (0 + j + (t + 1)) from h)
          have BSN := Lib.hid (bx_dev BS.out hn hb)
          have RUN := Lib.hid (RU.out.step hn hb)
          have RVN := Lib.hid (RV.out.step hn hb)
          clear h hn hb H BS RU RV
          rw [show tupS (0, false) = .tuple #[.int .i64 0, .bool false] from rfl]
          go_wp2_with fail
          go_roundw
          case rel => exact ⟨t + 1, sn, Fn, HLT.out, by go_num, HN.out, BSN.out, RUN.out, RVN.out⟩
          case measure => (have := HLT.out; simp [intOf]; omega)
        · obtain rfl : t = kt := by have := HT.out; omega
          have t1 : ¬ (t : Int) < (t : Int) := by omega
          clear hlt
          have HRA := Lib.hid (show ∀ w', Below wr.heap.size wr w' → Calls Try.prog 21 #[.slice U j cu, .slice V j cv] w' (RetB (.agg (cf j).rep) w') from fun w' hb => by
            rw [HCF.out]
            exact rall_any hb.size HL0.out HL1.out H03.out H13.out ((Rd.ownN RU.out.1).below hb) ((Rd.ownN RV.out.1).below hb) (by have := HKB.out; omega))
          obtain ⟨cr, hcr⟩ : ∃ cr, cr = (cf j).r := ⟨_, rfl⟩
          obtain ⟨ch, hch⟩ : ∃ ch, ch = (cf j).h := ⟨_, rfl⟩
          obtain ⟨cl, hcl⟩ : ∃ cl, cl = (cf j).l := ⟨_, rfl⟩
          have HREP := Lib.hid (show (cf j).rep = #[.int .i64 cr, .int .i64 ch, .int .i64 cl] by rw [rep_form, hcr, hch, hcl])
          have HIS := Lib.hid (show ∀ w, Calls Try.prog 19 #[.agg #[.int .i64 cr, .int .i64 ch, .int .i64 cl], .agg #[.int .i64 cr, .int .i64 ch, .int .i64 cl]] w (RetB (.int .i64 1) w) from fun w => by have hc := is_any w cr ch cl cr ch cl; rwa [if_pos ⟨rfl, rfl, rfl⟩] at hc)
          clear hcr hch hcl
          go_upto_region 20 with fail

          refine wp_region_held_drew (S := fun w' => Below wr.heap.size wr w') (by kernel_rfl) (Below.refl _ _).drew (fun hh => ?_)
          have HH := Lib.hid hh
          clear hh
          refine wpAnyH_take (i := 0) (v := ?vC0) rfl (by kernel_rfl) (by kernel_rfl) (by kernel_rfl) (fun _ _ _ h => h) (Or.inl ⟨by rfl, fun w' _ => ?yC0⟩) HH.out ?_
          case yC0 => (go_simp; try with_reducible rfl)
          refine wpAnyH_take (i := 2) (v := ?vC2) rfl (by kernel_rfl) (by kernel_rfl) (by kernel_rfl) (fun _ _ _ h => h) (Or.inl ⟨by rfl, fun w' _ => ?yC2⟩) HH.out ?_
          case yC2 => (go_simp; try with_reducible rfl)
          try simp only [List.getElem_toArray, List.getElem_cons_succ, List.getElem_cons_zero, Act.put, List.setIfInBounds_toArray, List.set_cons_zero, List.set_cons_succ]
          refine wpAnyH_take (i := 3) (v := .slice U j cu) rfl (by kernel_rfl) (by kernel_rfl) (by kernel_rfl) (fun _ _ _ h => h) (Or.inl ⟨by rfl, fun w' hw' => ?yC3⟩) HH.out ?_
          case yC3 => (have hc : w'.cell? ⟨b3, 0, none⟩ = some (.slice U j cu) := (BS.out.1.below hw').cell 0; go_simp; try with_reducible rfl)
          refine wpAnyH_take (i := 4) (v := ?vC4) rfl (by kernel_rfl) (by kernel_rfl) (by kernel_rfl) (fun _ _ _ h => h) (Or.inl ⟨by rfl, fun w' _ => ?yC4⟩) HH.out ?_
          case yC4 => (go_simp; try with_reducible rfl)
          refine wpAnyH_take (i := 5) (v := .slice V j cv) rfl (by kernel_rfl) (by kernel_rfl) (by kernel_rfl) (fun _ _ _ h => h) (Or.inl ⟨by rfl, fun w' hw' => ?yC5⟩) HH.out ?_
          case yC5 => (have hc : w'.cell? ⟨b3, 1, none⟩ = some (.slice V j cv) := (BS.out.1.below hw').cell 1; go_simp; try with_reducible rfl)
          try simp only [List.getElem_toArray, List.getElem_cons_succ, List.getElem_cons_zero, Act.put, List.setIfInBounds_toArray, List.set_cons_zero, List.set_cons_succ]
          refine wpAnyH_ready (rs := [1]) (by kernel_rfl) (by simp) (AllReadyH.cons rfl (fun K hK => ?_) AllReadyH.nil)
          go_simp
          have hc := lw_report (H.out.below HH.out)
          rw [HREP.out] at hc
          refine hc.mono ?_
          clear hc
          rintro e v1 ⟨rfl, bw1⟩
          go_simp
          refine hK.out _ _ (HH.out.trans (bw1.mono HH.out.size)) (fun hh => ?_)
          have HH' := Lib.hid hh
          clear hh hK K HH bw1
          have HH := Lib.hid HH'.out
          clear HH'
          try simp only [List.getElem_toArray, List.getElem_cons_succ, List.getElem_cons_zero, Act.put, List.setIfInBounds_toArray, List.set_cons_zero, List.set_cons_succ]
          refine wpAnyH_ready (rs := [6]) (by kernel_rfl) (by simp) (AllReadyH.cons rfl (fun K hK => ?_) AllReadyH.nil)
          go_simp
          have hc := HRA.out _ HH.out
          rw [HREP.out] at hc
          refine hc.mono ?_
          clear hc
          rintro e v2 ⟨rfl, bw2⟩
          go_simp
          refine hK.out _ _ (HH.out.trans (bw2.mono HH.out.size)) (fun hh => ?_)
          have HH' := Lib.hid hh
          clear hh hK K HH bw2
          have HH := Lib.hid HH'.out
          clear HH'
          try simp only [List.getElem_toArray, List.getElem_cons_succ, List.getElem_cons_zero, Act.put, List.setIfInBounds_toArray, List.set_cons_zero, List.set_cons_succ]
          refine wpAnyH_ready (rs := [7]) (by kernel_rfl) (by simp) (AllReadyH.cons rfl (fun K hK => ?_) AllReadyH.nil)
          go_simp
          refine (HIS.out _).mono ?_
          rintro e v3 ⟨rfl, bw3⟩
          go_simp
          refine hK.out _ _ (HH.out.trans (bw3.mono HH.out.size)) (fun hh => ?_)
          have HH' := Lib.hid hh
          clear hh hK K HH bw3
          have HH := Lib.hid HH'.out
          clear HH'
          try simp only [List.getElem_toArray, List.getElem_cons_succ, List.getElem_cons_zero, Act.put, List.setIfInBounds_toArray, List.set_cons_zero, List.set_cons_succ]
          refine wpAnyH_take (i := 8) (v := ?vC8) rfl (by kernel_rfl) (by kernel_rfl) (by kernel_rfl) (fun _ _ _ h => h) (Or.inl ⟨by rfl, fun w' _ => ?yC8⟩) HH.out ?_
          case yC8 => (go_simp; try with_reducible rfl)
          refine wpAnyH_take (i := 9) (v := ?vC9) rfl (by kernel_rfl) (by kernel_rfl) (by kernel_rfl) (fun _ _ _ h => h) (Or.inl ⟨by rfl, fun w' _ => ?yC9⟩) HH.out ?_
          case yC9 => (go_simp; try with_reducible rfl)
          try simp only [List.getElem_toArray, List.getElem_cons_succ, List.getElem_cons_zero, Act.put, List.setIfInBounds_toArray, List.set_cons_zero, List.set_cons_succ]
          refine wpAnyH_done (by kernel_rfl) ?_ _
          go_wp2_with fail
          go_ret
          exact ⟨rfl, B1.out.trans ((H.out.below HH.out).live.bel.mono B1.out.size)⟩
theorem scrubSteps_own : ownKnob Try.prog.godebug = none := by kernel_rfl
theorem scrubSteps_laid : laidOutB Try.prog = true := by kernel_rfl

set_option maxRecDepth 100000 in
theorem scrubSteps_lifted (os : Os) (started : os.Started) (H : Type) (enc : TypeId × Value → H) :
    ReturnsInHanded {} Try.checked os 4 .any (Rows.scrubStepsSpec.pre6 enc Try.prog Try.f4 Rows.scrubStepsRow.domain false) (Rows.scrubStepsSpec.post enc Try.prog Try.f4 false true false false) := by
  refine returnsInHanded_of_change (C := Try.checked) scrubSteps_own started (by kernel_rfl) Try.func4
    (ChangeSpec.witness6 (enc := enc) (C := Try.checked) false ⟨#[], #[.slice none 0 0, .slice none 0 0, .int .u8 0], []⟩ 8 (by kernel_rfl) (by kernel_rfl) (by kernel_rfl) (by kernel_rfl)) ?_
  intro W base args ds gs before hval0 hW _ _
  have hval : ∀ (j : Nat) t v, Try.f4.params[j]? = some t → args[j]? = some v → Value.okWide Try.prog W .any base t v := hval0
  have hW' := hW
  obtain ⟨p, q, hA0, hV, rfl, hfz, hnd⟩ := hW
  have hA : DataW.TrodAll enc Try.prog W 0 (fun _ => true) true Try.f4.params.toList args.toList ds p := hA0
  rw [Try.params4] at hA hval
  obtain ⟨v0, vs0, d0, ds0, p0, q0, hargs, rfl, rfl, h0, r0⟩ := trodAll_cons hA
  obtain ⟨v1, vs1, d1, ds1, p1, q1, rfl, rfl, rfl, h1, r1⟩ := trodAll_cons r0
  obtain ⟨v2, vs2, d2, ds2, p2, q2, rfl, rfl, rfl, h2, r2⟩ := trodAll_cons r1
  obtain ⟨rfl, rfl, rfl⟩ := trodAll_nil r2
  obtain rfl : args = #[v0, v1, v2] := by cases args; simp_all
  obtain ⟨rfl, rfl⟩ := trodVars_none hV
  obtain ⟨a0, n0, c0, rfl⟩ := okWide_slice Try.underlying22 (hval 0 22 v0 rfl rfl)
  have lt0 : ∀ x ∈ p0, x.block < W.heap.size := by obtain ⟨m, hm⟩ := h0; exact DataW.trod_lt m _ _ _ hm
  obtain ⟨l0, hl0, hc0, hm0, hr0⟩ := Sc.open_pairs h0
  obtain ⟨a1, n1, c1, rfl⟩ := okWide_slice Try.underlying22 (hval 1 22 v1 rfl rfl)
  have lt1 : ∀ x ∈ p1, x.block < W.heap.size := by obtain ⟨m, hm⟩ := h1; exact DataW.trod_lt m _ _ _ hm
  obtain ⟨l1, hl1, hc1, hm1, hr1⟩ := Sc.open_pairs h1
  obtain ⟨a2, rfl, rfl, rfl, w2⟩ := open_int Try.underlying5 (hval 2 5 v2 rfl rfl) h2
  have b2 := bounds_u8 w2
  clear hA0 hval0
  refine (scrubSteps_any W a0 n0 c0 l0 hl0 hc0 hm0 hr0 a1 n1 c1 l1 hl1 hc1 hm1 hr1 a2 b2).mono fun e W' ⟨he, bel⟩ => ?_
  subst he
  exact ⟨_, rfl, _, _, _, [], _, [], hW', trodAll_mk1 (shut_bool Try.underlying4 _), (trodAll_cons_mk (Below.trod scrubSteps_laid (by kernel_rfl) (of_decide_eq_true (by kernel_rfl)) h0 bel lt0) (trodAll_cons_mk (Below.trod scrubSteps_laid (by kernel_rfl) (of_decide_eq_true (by kernel_rfl)) h1 bel lt1) (trodAll_cons_mk (shut_int Try.underlying5 w2) trodAll_mk0))), rfl, bel.frame _, fun h => by cases h⟩

theorem scrubSteps_holds : Rows.ScrubStepsSaid :=
  OpenClaim.holds_of_wide 4 Try.f4 rfl rfl rfl rfl rfl rfl rfl ⟨rfl, rfl, rfl, rfl, rfl⟩ rfl rfl rfl rfl rfl (by kernel_rfl) Try.func4 (by kernel_rfl)
    (of_decide_eq_true (by kernel_rfl)) (by unfold Func.isWrapper; rw [if_neg (of_decide_eq_false (by kernel_rfl))]; exact ⟨rfl, rfl⟩)
    (fun os started H enc _ => scrubSteps_lifted os started H enc)

#print axioms scrubSteps_holds

end Go.Proofs.Ytniamllcoemikaa
