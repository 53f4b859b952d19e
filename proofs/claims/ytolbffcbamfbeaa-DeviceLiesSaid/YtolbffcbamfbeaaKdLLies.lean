/-
  The law DeviceLies holds: a flush of a device that lies tells OK, and nothing is stable by it; as soon as it doesn't lie any more the next one makes all stable. For any deeds.
-/
import Derived.Test.YtolbffcbamfbeaaKdLieP
import Derived.OrdersHeld
import Derived.Deep.RegionHeld
import Derived.Test.YtolbffcbamfbeaaRows
import Derived.Test.YtolbffcbamfbeaaOpen
import Derived.Test.YtolbffcbamfbeaaOpenA
import Derived.ProofKit
import Derived.OpenShut
import Derived.ShutString
import Derived.ChangeOld
namespace Go.Proofs.Ytolbffcbamfbeaa
open Go.RowKit Go.Maps Kd Go.ChangeShapes Go.WideShapes Go.ChangeAt
attribute [local go_sem ↓] Go.wp_at_zero Go.wp_at_succ
set_option maxRecDepth 100000 in
set_option maxHeartbeats 12800000 in
theorem deviceLies_any (w : World) (A : Option Addr) (n c : Nat) (l : List Dd) (hl : l.length = n) (hc : n ≤ c) (hm : c ≤ maxLen) (hr : Rd w.heap.size w A (dds l)) (hz : ∀ y ∈ l, y.ok) : Calls Try.prog 7 #[.slice A n c] w (RetB (.bool true) w) := by
  obtain ⟨z, hz0⟩ : ∃ z : List UInt8, z = zeroS := ⟨_, rfl⟩
  have hz' : ∀ W, (zeroValue 38).run Try.prog W = .ok (.agg (bva z)) W := fun _ => by rw [hz0]; kernel_rfl
  have HI : Hid ((Try.prog.info? 38).map (·.size) = some (bva z).size) := by rw [bva_size, hz0, zeroS_length]; exact info_sec
  have HZ := Lib.hid hz0
  have HZ3 := Lib.hid (show z.length = 128 by rw [hz0]; exact zeroS_length)
  have HLL := Lib.hid hl
  have HRD := Lib.hid hr
  have HZZ := Lib.hid hz
  have HCC := Lib.hid (show n ≤ c ∧ c ≤ maxLen from ⟨hc, hm⟩)
  clear hz0 hl hr hz hc hm
  go_enter Try.func7, Try.ntmps7
  go_wp2_with fail
  refine (kdAwake_any _).mono ?_
  rintro e w1 ⟨rfl, bw1⟩
  have B1 := Lib.hid bw1
  clear bw1
  by_cases hbig : 20 < n
  · have n1 : (20 : Int) < (n : Int) := by omega
    go_wp2_with fail
    go_ret
    exact ⟨rfl, B1.out⟩
  · have n1 : ¬ (20 : Int) < (n : Int) := by omega
    have HNB := Lib.hid (show n ≤ 20 by omega)
    clear hbig
    go_wp2_with fail
    refine (live_new0 20).mono ?_
    rintro e w2 ⟨p, g1, rfl, F2, h⟩
    have H2 := Lib.hid h
    clear h n1
    go_wp2_with fail
    refine (live_dump H2.out 0 (by decide)).mono ?_
    rintro e w3 ⟨A3, n3, c3, rfl, hn3, hr3, bw⟩
    have H3 := Lib.hid (H2.out.below bw)
    have R3 := Lib.hid hr3
    have N3 := Lib.hid hn3
    clear bw hr3 hn3 H2 
    obtain rfl : 20 = n3 := (show ((S0.new 20).at 0).st.length = 20 by kernel_rfl).symm.trans N3.out
    have RR := Lib.hid (show RowS w3 F2 (.slice A3 20 c3) 20 (List.replicate 20 zeroS) from R3.out)
    clear N3 R3
    go_wp2_with fail
    have hc := live_lie H3.out 0 (by decide) true
    rw [lie_on] at hc
    refine hc.mono ?_
    clear hc
    rintro e w4 ⟨rfl, F4, h, hf4, hb4⟩
    have H4 := Lib.hid (show Live w1 w4 p [g1] (lieS 20 true []) F4 from h)
    have R4 := Lib.hid (RR.out.step hf4 hb4)
    clear h hf4 hb4 H3 RR
    go_wp2_with fail
    go_loopw [5, 6] (fun nn i wr => ∃ (k : Nat) (F : Nat → Prop) (wt : List (Nat × List UInt8)), k ≤ n ∧ i = .int .i64 k ∧ nn = .int .i64 (wt.length : Int) ∧ wt.length ≤ k ∧ Live w1 wr p [g1] (lieS 20 true wt) F ∧ RowS wr F (.slice A3 20 c3) 20 (List.replicate 20 zeroS)) (fun _ i _ => n - (intOf i).toNat)
    case atStart => exact ⟨0, F4, [], Nat.zero_le _, rfl, rfl, Nat.le_refl _, H4.out, R4.out⟩
    case round =>
      clear H4 R4
      obtain ⟨k, FF, wt, hk, rfl, rfl, hwt, hlive, hrow⟩ := hrel
      have H := Lib.hid hlive
      have RW := Lib.hid hrow
      have HK := Lib.hid hk
      have HW := Lib.hid hwt
      clear hlive hrow hk hwt
      by_cases hlt : k < n
      ·
        have hkl : k < l.length := by rw [HLL.out]; exact hlt
        obtain ⟨x, hxe⟩ : ∃ x, x = l[k] := ⟨_, rfl⟩
        obtain ⟨ad, hA, hq1, hq2⟩ := rd_deed HRD.out hkl
        subst hA
        have hcells : ∀ w', Below w.heap.size w w' → ∀ j v, (ddV x)[j]? = some v → w'.cell? ((ad.add (k * 5)).add j) = some v := fun w' hb' j v hv => by
          obtain ⟨ad', hA', _, hc'⟩ := rd_deed (HRD.out.below hb') hkl
          injection hA' with hA'; subst hA'
          exact hc' j v (by rw [← hxe]; exact hv)
        have HN2 := Lib.hid (show ∀ w', Below w.heap.size w w' → w'.cell? ⟨(ad.add (k * 5)).block, (ad.add (k * 5)).off + 2, none⟩ = some (.int .i64 x.n) from fun w' hb' => hcells w' hb' 2 _ rfl)
        have HN4 := Lib.hid (show ∀ w', Below w.heap.size w w' → w'.cell? ⟨(ad.add (k * 5)).block, (ad.add (k * 5)).off + 4, none⟩ = some (.int .u8 (x.c.toNat : Int)) from fun w' hb' => hcells w' hb' 4 _ rfl)
        have HXO := Lib.hid (HZZ.out x (by rw [hxe]; exact List.getElem_mem hkl))
        have HXG := Lib.hid (show l[k]? = some x from by rw [hxe]; exact List.getElem?_eq_getElem hkl)
        have HLT := Lib.hid hlt
        have k0 : (0 : Int) ≤ (k : Int) := by omega
        have k1 : (k : Int) < (n : Int) := by omega
        have k2 : (k : Int) < 20 := by have := HNB.out; omega
        clear hq1 hq2 hxe hkl hcells hlt
        obtain ⟨r, wt2, hrw, hr2⟩ : ∃ (r : Int) (wt2 : List (Nat × List UInt8)), (lieS 20 true wt).write 0 x.n (secC x.c) = (r, lieS 20 true wt2) ∧ ((r = 0 ∧ wt2.length = wt.length + 1) ∨ (r = 2 ∧ wt2.length = wt.length)) := by
          by_cases hin : 0 ≤ x.n ∧ x.n < ((20 : Nat) : Int)
          · exact ⟨_, _, lie_wy hin, .inl ⟨rfl, by simp⟩⟩
          · exact ⟨_, _, lie_wn hin, .inr ⟨rfl, rfl⟩⟩
        have HRW := Lib.hid hrw
        have HR2 := Lib.hid hr2
        have HWL := Lib.hid (show wt2.length ≤ k + 1 by have := HW.out; omega)
        clear hrw hr2
        go_wp2_with fail
        refine wp_region_held_drew (S := fun w' => Below w.heap.size w w') (by kernel_rfl) (B1.out.trans (H.out.bel.mono B1.out.size)).drew (fun hh => ?_)
        have HH := Lib.hid hh
        clear hh
        refine wpAnyH_take (i := 0) (v := ?va0) rfl (by kernel_rfl) (by kernel_rfl) (by kernel_rfl) (fun _ _ _ h => h) (Or.inl ⟨by rfl, fun w' _ => ?ya0⟩) HH.out ?_
        case ya0 => (go_simp; try with_reducible rfl)
        refine wpAnyH_take (i := 1) (v := ?va1) rfl (by kernel_rfl) (by kernel_rfl) (by kernel_rfl) (fun _ _ _ h => h) (Or.inl ⟨by rfl, fun w' _ => ?ya1⟩) HH.out ?_
        case ya1 => (go_simp; try with_reducible rfl)
        try simp only [List.getElem_toArray, List.getElem_cons_succ, List.getElem_cons_zero, Act.put, List.setIfInBounds_toArray, List.set_cons_zero, List.set_cons_succ]
        refine wpAnyH_take (i := 2) (v := ?va2) rfl (by kernel_rfl) (by kernel_rfl) (by kernel_rfl) (fun _ _ _ h => h) (Or.inl ⟨by rfl, fun w' _ => ?ya2⟩) HH.out ?_
        case ya2 => (go_simp; try with_reducible rfl)
        refine wpAnyH_take (i := 3) (v := ?va3) rfl (by kernel_rfl) (by kernel_rfl) (by kernel_rfl) (fun _ _ _ h => h) (Or.inl ⟨by rfl, fun w' _ => ?ya3⟩) HH.out ?_
        case ya3 => (go_simp; try with_reducible rfl)
        refine wpAnyH_take (i := 4) (v := ?va4) rfl (by kernel_rfl) (by kernel_rfl) (by kernel_rfl) (fun _ _ _ h => h) (Or.inl ⟨by rfl, fun w' _ => ?ya4⟩) HH.out ?_
        case ya4 => (go_simp; try with_reducible rfl)
        try simp only [List.getElem_toArray, List.getElem_cons_succ, List.getElem_cons_zero, Act.put, List.setIfInBounds_toArray, List.set_cons_zero, List.set_cons_succ]
        refine wpAnyH_take (i := 5) (v := .int .i64 x.n) rfl (by kernel_rfl) (by kernel_rfl) (by kernel_rfl) (fun _ _ _ h => h) (Or.inl ⟨by rfl, fun w' hw' => ?ya5⟩) HH.out ?_
        case ya5 => (have hc := HN2.out w' hw'; go_simp; try with_reducible rfl)
        refine wpAnyH_take (i := 6) (v := ?va6) rfl (by kernel_rfl) (by kernel_rfl) (by kernel_rfl) (fun _ _ _ h => h) (Or.inl ⟨by rfl, fun w' _ => ?ya6⟩) HH.out ?_
        case ya6 => (go_simp; try with_reducible rfl)
        refine wpAnyH_take (i := 7) (v := ?va7) rfl (by kernel_rfl) (by kernel_rfl) (by kernel_rfl) (fun _ _ _ h => h) (Or.inl ⟨by rfl, fun w' _ => ?ya7⟩) HH.out ?_
        case ya7 => (go_simp; try with_reducible rfl)
        try simp only [List.getElem_toArray, List.getElem_cons_succ, List.getElem_cons_zero, Act.put, List.setIfInBounds_toArray, List.set_cons_zero, List.set_cons_succ]
        refine wpAnyH_take (i := 8) (v := ?va8) rfl (by kernel_rfl) (by kernel_rfl) (by kernel_rfl) (fun _ _ _ h => h) (Or.inl ⟨by rfl, fun w' _ => ?ya8⟩) HH.out ?_
        case ya8 => (go_simp; try with_reducible rfl)
        refine wpAnyH_take (i := 9) (v := ?va9) rfl (by kernel_rfl) (by kernel_rfl) (by kernel_rfl) (fun _ _ _ h => h) (Or.inl ⟨by rfl, fun w' _ => ?ya9⟩) HH.out ?_
        case ya9 => (go_simp; try with_reducible rfl)
        refine wpAnyH_take (i := 10) (v := .int .u8 (x.c.toNat : Int)) rfl (by kernel_rfl) (by kernel_rfl) (by kernel_rfl) (fun _ _ _ h => h) (Or.inl ⟨by rfl, fun w' hw' => ?ya10⟩) HH.out ?_
        case ya10 => (have hc := HN4.out w' hw'; go_simp; try with_reducible rfl)
        try simp only [List.getElem_toArray, List.getElem_cons_succ, List.getElem_cons_zero, Act.put, List.setIfInBounds_toArray, List.set_cons_zero, List.set_cons_succ]
        refine wpAnyH_ready (rs := [11]) (by kernel_rfl) (by simp) (AllReadyH.cons rfl (fun K hK => ?_) AllReadyH.nil)
        go_simp
        refine (sector_any x.c _).mono ?_
        rintro e w21 ⟨rfl, bw⟩
        have H21 := Lib.hid (H.out.drew.below bw)
        have R21 := Lib.hid ((RW.out.below (Below.refl _ _).drew).below bw)
        go_simp
        refine hK.out _ _ (HH.out.trans (bw.mono HH.out.size)) (fun hh => ?_)
        have HH' := Lib.hid hh
        clear hh hK K HH bw H RW
        have HH := Lib.hid HH'.out
        clear HH'
        try simp only [List.getElem_toArray, List.getElem_cons_succ, List.getElem_cons_zero, Act.put, List.setIfInBounds_toArray, List.set_cons_zero, List.set_cons_succ]
        refine wpAnyH_ready (rs := [12]) (by kernel_rfl) (by simp) (AllReadyH.cons rfl (fun K hK => ?_) AllReadyH.nil)
        go_simp
        have hc := (by have h := live_write H21.out 0 (by show 0 < 1; omega) x.n (secC x.c) (secC_length _) (by show wt.length < _; have := HW.out; have := HK.out; have := HNB.out; omega); rw [HRW.out] at h; exact h : Calls Try.prog 23 _ _ (RetL (.int .i64 r) w1 p [g1] (lieS 20 true wt2) FF _))
        refine hc.mono ?_
        clear hc
        rintro e w22 ⟨rfl, F22, h, hf22, hb22⟩
        have H22 := Lib.hid (show Live w1 w22 p [g1] (lieS 20 true wt2) F22 from h)
        have R22 := Lib.hid (R21.out.step hf22 hb22)
        go_simp
        refine hK.out _ _ (B1.out.trans (H22.out.bel.mono B1.out.size)) (fun hh => ?_)
        have HH' := Lib.hid hh
        clear hh hK K HH h hf22 hb22 H21 R21
        have HH := Lib.hid HH'.out
        clear HH'
        refine wpAnyH_take (i := 13) (v := ?va13) rfl (by kernel_rfl) (by kernel_rfl) (by kernel_rfl) (fun _ _ _ h => h) (Or.inl ⟨by rfl, fun w' _ => ?ya13⟩) HH.out ?_
        case ya13 => (go_simp; try with_reducible rfl)
        try simp only [List.getElem_toArray, List.getElem_cons_succ, List.getElem_cons_zero, Act.put, List.setIfInBounds_toArray, List.set_cons_zero, List.set_cons_succ]
        refine wpAnyH_done (by kernel_rfl) ?_ _
        clear HH
        rcases HR2.out with ⟨rfl, hw2⟩ | ⟨rfl, hw2⟩
        ·
          have l0 : (0 : Int) ≤ (wt.length : Int) := by omega
          have l1 : (wt.length : Int) < 20 := by have := HW.out; have := HLT.out; have := HNB.out; omega
          go_wp2_with fail
          have hc := live_flush H22.out 0 (by show 0 < 1; omega)
          rw [lie_f] at hc
          refine hc.mono ?_
          clear hc
          rintro e w23 ⟨rfl, F23, h, hf23, hb23⟩
          have H23 := Lib.hid (show Live w1 w23 p [g1] (lieS 20 true wt2) F23 from h)
          have R23 := Lib.hid (R22.out.step hf23 hb23)
          clear h hf23 hb23 H22 R22
          go_wp2_with fail
          refine (waiting_sys H23.out.sys 0 (by show 0 < 1; omega)).mono ?_
          rintro e _ ⟨rfl, rfl⟩
          rw [lie_wait, hw2]
          go_wp2_with fail
          refine (live_dump H23.out 0 (by show 0 < 1; omega)).mono ?_
          rintro e w24 ⟨A24, n24, c24, rfl, hn24, hr24, bw⟩
          have H24 := Lib.hid (H23.out.below bw)
          have Q24 := Lib.hid hr24
          have N24 := Lib.hid hn24
          have R24 := Lib.hid (R23.out.below bw)
          clear bw hr24 hn24 H23 R23
          obtain rfl : 20 = n24 := (lie_len (L := 20) (b := true) (wt := wt2)).symm.trans N24.out
          have RA := Lib.hid (show Rd _ w24 A3 (svs (List.replicate 20 zeroS)) from R24.out.rd)
          have RB := Lib.hid (show Rd _ w24 A24 (svs (List.replicate 20 zeroS)) from Q24.out.rd)
          clear N24 Q24
          go_wp2_with fail
          refine (rsame_b A24 A3 20 20 c24 c3 (List.replicate 20 zeroS) (List.replicate 20 zeroS) _ (by rw [List.length_replicate]) (by rw [List.length_replicate]) lie_secs lie_secs RB.out RA.out (by unfold maxLen; omega) (by unfold maxLen; omega)).mono ?_
          rintro e w25 ⟨rfl, bw⟩
          rw [same_refl]
          clear RA RB
          have H25 := Lib.hid (H24.out.below bw)
          have R25 := Lib.hid (R24.out.below bw)
          clear bw H24 R24
          go_wp2_with fail
          go_roundw
          case rel => exact ⟨k + 1, F23, wt2, by have := HLT.out; omega, by go_num, by first | rfl | (rw [hw2]; go_num) | (rw [hw2]), HWL.out, H25.out, R25.out⟩
          case measure => (have := HLT.out; simp [intOf]; omega)
        ·
          have l0 : (0 : Int) ≤ (wt.length : Int) := by omega
          have l1 : (wt.length : Int) < 20 := by have := HW.out; have := HLT.out; have := HNB.out; omega
          go_wp2_with fail
          have hc := live_flush H22.out 0 (by show 0 < 1; omega)
          rw [lie_f] at hc
          refine hc.mono ?_
          clear hc
          rintro e w23 ⟨rfl, F23, h, hf23, hb23⟩
          have H23 := Lib.hid (show Live w1 w23 p [g1] (lieS 20 true wt2) F23 from h)
          have R23 := Lib.hid (R22.out.step hf23 hb23)
          clear h hf23 hb23 H22 R22
          go_wp2_with fail
          refine (waiting_sys H23.out.sys 0 (by show 0 < 1; omega)).mono ?_
          rintro e _ ⟨rfl, rfl⟩
          rw [lie_wait, hw2]
          go_wp2_with fail
          refine (live_dump H23.out 0 (by show 0 < 1; omega)).mono ?_
          rintro e w24 ⟨A24, n24, c24, rfl, hn24, hr24, bw⟩
          have H24 := Lib.hid (H23.out.below bw)
          have Q24 := Lib.hid hr24
          have N24 := Lib.hid hn24
          have R24 := Lib.hid (R23.out.below bw)
          clear bw hr24 hn24 H23 R23
          obtain rfl : 20 = n24 := (lie_len (L := 20) (b := true) (wt := wt2)).symm.trans N24.out
          have RA := Lib.hid (show Rd _ w24 A3 (svs (List.replicate 20 zeroS)) from R24.out.rd)
          have RB := Lib.hid (show Rd _ w24 A24 (svs (List.replicate 20 zeroS)) from Q24.out.rd)
          clear N24 Q24
          go_wp2_with fail
          refine (rsame_b A24 A3 20 20 c24 c3 (List.replicate 20 zeroS) (List.replicate 20 zeroS) _ (by rw [List.length_replicate]) (by rw [List.length_replicate]) lie_secs lie_secs RB.out RA.out (by unfold maxLen; omega) (by unfold maxLen; omega)).mono ?_
          rintro e w25 ⟨rfl, bw⟩
          rw [same_refl]
          clear RA RB
          have H25 := Lib.hid (H24.out.below bw)
          have R25 := Lib.hid (R24.out.below bw)
          clear bw H24 R24
          go_wp2_with fail
          go_roundw
          case rel => exact ⟨k + 1, F23, wt2, by have := HLT.out; omega, by go_num, by first | rfl | (rw [hw2]; go_num) | (rw [hw2]), HWL.out, H25.out, R25.out⟩
          case measure => (have := HLT.out; simp [intOf]; omega)
      ·
        obtain rfl : k = n := by have := HK.out; omega
        clear hlt
        go_wp2_with fail
        go_loopw [7, 8] (fun v i wr => ∃ (j : Nat) (A' : Option Addr) (c' : Nat), j ≤ 20 ∧ i = .int .i64 j ∧ v = .slice A' j c' ∧ Live w1 wr p [g1] (lieS 20 true wt) FF ∧ RowN w1 wr FF (.slice A' j c') j ((List.range j).map (nowL (List.replicate 20 zeroS) wt))) (fun _ i _ => 20 - (intOf i).toNat)
        case atStart => exact ⟨0, none, 0, by omega, rfl, rfl, H.out, rowN_nil⟩
        case round =>
          have HOK := Lib.hid (H.out.sys.ok (k := 0) (by show 0 < 1; omega))
          clear H RW
          obtain ⟨j, A7, c7, hj, rfl, rfl, hlive, hrow⟩ := hrel
          have H := Lib.hid hlive
          have RN := Lib.hid hrow
          have HJ := Lib.hid hj
          clear hlive hrow hj
          by_cases hj : j < 20
          ·
            have HJT := Lib.hid hj
            have j0 : (0 : Int) ≤ (j : Int) := by omega
            have j1 : (j : Int) < 20 := by omega
            obtain ⟨y, hy⟩ : ∃ y, y = nowL (List.replicate 20 zeroS) wt j := ⟨_, rfl⟩
            have HY := Lib.hid hy
            have HRY := Lib.hid (show readV (lieS 20 true wt).p ((lieS 20 true wt).at 0) (j : Int) = .tuple #[.agg (bva y), .int .i64 0] by rw [hy]; exact lie_read hj)
            have HY3 := Lib.hid (show y.length = 128 by rw [hy]; exact now_ok _ _ _ lie_secs (fun v hv => (HOK.out.wt v hv).2))
            have HIY : Hid ((Try.prog.info? 38).map (·.size) = some (bva y).size) := by show _ = _; rw [bva_size, HY3.out]; exact info_sec
            clear hy hj
            go_wp2_with fail
            refine (dread_any H.out.sys 0 (by show 0 < 1; omega) (j : Int)).mono ?_
            rintro e w71 ⟨rfl, bw⟩
            rw [HRY.out]
            have H71 := Lib.hid (H.out.below bw)
            have W71 := Lib.hid (RN.out.below bw)
            clear bw H RN
            have HB71 := Lib.hid (show Blk (w71.alloc (.cells (bva z) 38)) w71.heap.size (bva z) 38 from heap_alloc_new _ _)
            go_wp2_with (show wpList _ _ _ ({ dst := none, op := .store 38 (.tmp 9) (.tmp 67), type := _, pos := _, after := _, guard := _ } :: _) _ _; apply Classical.byContradiction; intro hneg)
            refine hneg ?_
            clear hneg
            refine wpList_store_row rfl 38 (.tmp 9) (.tmp 67) rfl w71.heap.size (bva y) rfl rfl 38 (bva z) HB71.out HIY.out (by rw [bva_size, bva_size, HY3.out, HZ3.out]) (bva_one _) ?_
            obtain ⟨wb71, hwb71⟩ : ∃ wb, wb = ((w71.alloc (.cells (bva z) 38)).setRow w71.heap.size (bva y)) := ⟨_, rfl⟩
            have HV71 := Lib.hid (show Blk wb71 w71.heap.size (bva y) 38 from by rw [hwb71]; exact setRow_heap _ _ _ _ _ _ HB71.out)
            have BB71 := Lib.hid (show Below w71.heap.size w71 wb71 from by rw [hwb71]; exact below_setRow ((Below.refl _ _).alloc (Nat.le_refl _) _) (Nat.le_refl _) _)
            rw [← hwb71]
            clear hwb71
            have HX71 := Lib.hid (H71.out.below BB71.out)
            have Wx71 := Lib.hid (W71.out.below BB71.out)
            clear HB71 BB71 H71 W71
            have BA := Lib.hid (show Below wb71.heap.size wb71 (wb71.alloc (.cells (bva y) 38)) from (Below.refl _ _).alloc (Nat.le_refl _) _)
            have RA := Lib.hid (show Rd (wb71.alloc (.cells (bva y) 38)).heap.size (wb71.alloc (.cells (bva y) 38)) (some ⟨wb71.heap.size, 0, none⟩) (bv y) from by
              have hb5 : Blk (wb71.alloc (.cells (bva y) 38)) wb71.heap.size (bva y) 38 := heap_alloc_new _ _
              intro j v hv
              exact ⟨_, rfl, hb5.lt, by rw [Addr.add_mid, hb5.cell, Nat.zero_add]; simpa [bva] using hv⟩)
            go_wp2_with (show wpList _ _ _ ({ dst := some 70, op := .load 38 (.tmp 9), type := _, pos := _, after := _, guard := _ } :: _) _ _; apply Classical.byContradiction; intro hneg)
            refine hneg ?_
            clear hneg
            refine wpList_load_row rfl 38 (.tmp 9) rfl (w71.heap.size) rfl 38 (bva y) (0, 0) _ HV71.out Try.underlying38 rfl HIY.out ?_
            go_wp2_with (show wpList _ _ _ ({ dst := some 71, op := .buildSlice 43 1 #[(0, .tmp 70)], type := _, pos := _, after := _, guard := _ } :: _) _ _; apply Classical.byContradiction; intro hneg)
            refine hneg ?_
            clear hneg
            refine wpList_execg8 (v := .slice (some ⟨wb71.heap.size, 0, none⟩) 1 1) (w' := wb71.alloc (.cells (bva y) 38)) rfl (exec_buildSlice 43 1 #[(0, .tmp 70)] rfl ?hbld) ?_
            case hbld =>
              simp only [List.map_toArray, List.map_cons, List.map_nil]
              exact run_oneN secsElt _ (.agg (bva y)) (by show (bva y).size = 128; rw [bva_size, HY3.out]) (by omega)
            go_wp2_with (at_builtin; apply Classical.byContradiction; intro hneg)
            refine hneg ?_
            clear hneg
            refine wpList_appN _ rfl (.tmp 69) (.tmp 71) 43 rfl secsElt (base := w1.heap.size) (v := .slice A7 j c7) (n := j) (xs := svs ((List.range j).map (nowL (List.replicate 20 zeroS) wt))) rfl (Wx71.out.below BA.out).1 (m := 1) rfl RA.out (by rw [bv_length, HY3.out]) (bv_one _) (by have := HJ.out; omega) (Nat.le_trans HX71.out.bel.size BA.out.size) ?_
            intro A6 c6 w6 ho6 hg6 hl6
            have HL6 := Lib.hid ((HX71.out.below BA.out).app8 (Wx71.out.below BA.out) hg6)
            have HR6 := Lib.hid (RowN.app (Wx71.out.below BA.out) (fun j hj => (HX71.out.below BA.out).lt j hj) ho6 hl6)
            clear ho6 hg6 hl6 RA BA HV71 Wx71 HX71
            go_wp2_with fail
            go_roundw
            case rel => exact ⟨j + 1, A6, c6, by have := HJT.out; omega, by go_num, rfl, HL6.out, by rw [List.range_succ, List.map_append, List.map_singleton, ← HY.out]; exact HR6.out⟩
            case measure => (have := HJT.out; simp [intOf]; omega)
          ·
            obtain rfl : j = 20 := by have := HJ.out; omega
            clear hj
            go_wp2_with fail
            have hc := live_lie H.out 0 (by show 0 < 1; omega) false
            rw [lie_off] at hc
            refine hc.mono ?_
            clear hc
            rintro e w81 ⟨rfl, F81, h, hf81, hb81⟩
            have H81 := Lib.hid (show Live w1 w81 p [g1] (lieS 20 false wt) F81 from h)
            have W81 := Lib.hid (RN.out.step hf81 hb81)
            clear h hf81 hb81 H RN
            go_wp2_with fail
            have hc := live_flush H81.out 0 (by show 0 < 1; omega)
            rw [lie_e] at hc
            refine hc.mono ?_
            clear hc
            rintro e w82 ⟨rfl, F82, h, hf82, hb82⟩
            have H82 := Lib.hid (show Live w1 w82 p [g1] (lieE 20 wt) F82 from h)
            have W82 := Lib.hid (W81.out.step hf82 hb82)
            clear h hf82 hb82 H81 W81
            go_wp2_with fail
            refine (waiting_sys H82.out.sys 0 (by show 0 < 1; omega)).mono ?_
            rintro e _ ⟨rfl, rfl⟩
            rw [lieE_wait]
            go_wp2_with fail
            refine (live_dump H82.out 0 (by show 0 < 1; omega)).mono ?_
            rintro e w83 ⟨A83, n83, c83, rfl, hn83, hr83, bw⟩
            have H83 := Lib.hid (H82.out.below bw)
            have Q83 := Lib.hid hr83
            have N83 := Lib.hid hn83
            have W83 := Lib.hid (W82.out.below bw)
            clear bw hr83 hn83 H82 W82
            have hst := lieE_st (L := 20) (wt := wt)
            obtain rfl : 20 = n83 := (show ((lieE 20 wt).at 0).st.length = 20 by rw [hst]; simp).symm.trans N83.out
            have hq3 := (H83.out.sys.ok (k := 0) (by show 0 < 1; omega)).st
            rw [hst] at hq3
            have RA := Lib.hid (show Rd _ w83 A7 (svs ((List.range 20).map (nowL (List.replicate 20 zeroS) wt))) from Rd.ownN W83.out.1)
            have RB := Lib.hid (show Rd _ w83 A83 (svs ((List.range 20).map (nowL (List.replicate 20 zeroS) wt))) from by rw [← hst]; exact Q83.out.rd)
            have HQ3 := Lib.hid hq3
            clear N83 hst hq3 Q83 W83
            go_wp2_with fail
            refine (rsame_b A83 A7 20 20 c83 c7 _ _ _ (by simp) (by simp) HQ3.out HQ3.out RB.out RA.out (by unfold maxLen; omega) (by unfold maxLen; omega)).mono ?_
            rintro e w84 ⟨rfl, bw⟩
            rw [same_refl]
            clear RA RB
            have H84 := Lib.hid (H83.out.below bw)
            clear bw H83 
            go_wp2_with fail
            go_ret
            exact ⟨rfl, B1.out.trans (H84.out.bel.mono B1.out.size)⟩
theorem deviceLies_own : ownKnob Try.prog.godebug = none := by kernel_rfl
theorem deviceLies_laid : laidOutB Try.prog = true := by kernel_rfl

set_option maxRecDepth 100000 in
theorem deviceLies_lifted (os : Os) (started : os.Started) (H : Type) (enc : TypeId × Value → H) :
    ReturnsInHanded {} Try.checked os 7 .any (Rows.deviceLiesSpec.pre6 enc Try.prog Try.f7 Rows.deviceLiesRow.domain false) (Rows.deviceLiesSpec.post enc Try.prog Try.f7 false true false false) := by
  refine returnsInHanded_of_change (C := Try.checked) deviceLies_own started (by kernel_rfl) Try.func7
    (ChangeSpec.witness6 (enc := enc) (C := Try.checked) false ⟨#[], #[.slice none 0 0], []⟩ 8 (by kernel_rfl) (by kernel_rfl) (by kernel_rfl) (by kernel_rfl)) ?_
  intro W base args ds gs before hval0 hW _ _
  have hval : ∀ (j : Nat) t v, Try.f7.params[j]? = some t → args[j]? = some v → Value.okWide Try.prog W .any base t v := hval0
  have hW' := hW
  obtain ⟨p, q, hA0, hV, rfl, hfz, hnd⟩ := hW
  have hA : DataW.TrodAll enc Try.prog W 0 (fun _ => true) true Try.f7.params.toList args.toList ds p := hA0
  rw [Try.params7] at hA hval
  obtain ⟨v0, vs0, d0, ds0, p0, q0, hargs, rfl, rfl, h0, r0⟩ := trodAll_cons hA
  obtain ⟨rfl, rfl, rfl⟩ := trodAll_nil r0
  obtain rfl : args = #[v0] := by cases args; simp_all
  obtain ⟨rfl, rfl⟩ := trodVars_none hV
  obtain ⟨a0, n0, c0, rfl⟩ := okWide_slice Try.underlying22 (hval 0 22 v0 rfl rfl)
  have lt0 : ∀ x ∈ p0, x.block < W.heap.size := by obtain ⟨m, hm⟩ := h0; exact DataW.trod_lt m _ _ _ hm
  obtain ⟨l0, hl0, hc0, hm0, hr0, hz0⟩ := open_deeds h0
  clear hA0 hval0
  refine (deviceLies_any W a0 n0 c0 l0 hl0 hc0 hm0 hr0 hz0).mono fun e W' ⟨he, bel⟩ => ?_
  subst he
  exact ⟨_, rfl, _, _, _, [], _, [], hW', trodAll_mk1 (shut_bool Try.underlying4 _), (trodAll_cons_mk (Below.trod deviceLies_laid (by kernel_rfl) (of_decide_eq_true (by kernel_rfl)) h0 bel lt0) trodAll_mk0), rfl, bel.frame _, fun h => by cases h⟩

theorem deviceLies_holds : Rows.DeviceLiesSaid :=
  OpenClaim.holds_of_wide 7 Try.f7 rfl rfl rfl rfl rfl rfl rfl ⟨rfl, rfl, rfl, rfl, rfl⟩ rfl rfl rfl rfl rfl (by kernel_rfl) Try.func7 (by kernel_rfl)
    (of_decide_eq_true (by kernel_rfl)) (by unfold Func.isWrapper; rw [if_neg (of_decide_eq_false (by kernel_rfl))]; exact ⟨rfl, rfl⟩)
    (fun os started H enc _ => deviceLies_lifted os started H enc)

#print axioms deviceLies_holds

end Go.Proofs.Ytolbffcbamfbeaa
