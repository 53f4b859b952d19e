/-
  The law DeviceReads holds: what was written last to a sector is read, flushed or not; other sectors stay as they are. For any deeds.
-/
import Derived.Test.YtolbffcbamfbeaaKdRdP
import Derived.Deep.DeepCutAuto
import Derived.OrdersHeld
import Derived.Deep.RegionHeld
import Derived.Test.YtolbffcbamfbeaaRows
import Derived.Test.YtolbffcbamfbeaaOpen
import Derived.Test.YtolbffcbamfbeaaOpenA
import Derived.ProofKit
import Derived.OpenShut
import Derived.ShutString
import Derived.ChangeOld
namespace Go.Proofs.Ytolbffcbamfbeaa
open Go.RowKit Go.Maps Kd Go.ChangeShapes Go.WideShapes Go.ChangeAt
attribute [local go_sem ↓] Go.wp_at_zero Go.wp_at_succ
theorem step_wp8 {c : Bool} {P Q : Prop} (hc : c = true) (h : P) : (if c = true then P else Q) := by rw [if_pos hc]; exact h
set_option maxRecDepth 100000 in
set_option maxHeartbeats 12800000 in
theorem deviceReads_any (w : World) (s0 : Int) (_ : -9223372036854775808 ≤ s0 ∧ s0 ≤ 9223372036854775807) (A : Option Addr) (n c : Nat) (l : List Dd) (hl : l.length = n) (hc : n ≤ c) (hm : c ≤ maxLen) (hr : Rd w.heap.size w A (dds l)) (hz : ∀ y ∈ l, y.ok) (fl : Bool) : Calls Try.prog 4 #[.int .i64 s0, .slice A n c, .bool fl] w (RetB (.bool true) w) := by
  obtain ⟨z, hz0⟩ : ∃ z : List UInt8, z = zeroS := ⟨_, rfl⟩
  have hz' : ∀ W, (zeroValue 38).run Try.prog W = .ok (.agg (bva z)) W := fun _ => by rw [hz0]; kernel_rfl
  have HZ := Lib.hid hz0
  have HZ3 := Lib.hid (show z.length = 128 by rw [hz0]; exact zeroS_length)
  obtain ⟨i0, hi, hj0, hj1, hj2⟩ := info_parts info_secW
  have HLL := Lib.hid hl
  have HRD := Lib.hid hr
  have HZZ := Lib.hid hz
  have HCC := Lib.hid (show n ≤ c ∧ c ≤ maxLen from ⟨hc, hm⟩)
  clear hz0 hl hr hz hc hm
  go_enter Try.func4, Try.ntmps4
  go_wp2_with fail
  refine (kdAwake_any _).mono ?_
  rintro e w1 ⟨rfl, bw1⟩
  have B1 := Lib.hid bw1
  clear bw1
  by_cases hbig : 30 < n
  · have n1 : (30 : Int) < (n : Int) := by omega
    go_wp2_with fail
    go_ret
    exact ⟨rfl, B1.out⟩
  · have n1 : ¬ (30 : Int) < (n : Int) := by omega
    have HNB := Lib.hid (show n ≤ 30 by omega)
    clear hbig
    by_cases hs : 20 < s0
    · go_wp2_with fail
      go_ret
      exact ⟨rfl, B1.out⟩
    · obtain ⟨M, hM⟩ : ∃ M, M = clampN s0 := ⟨_, rfl⟩
      have HM := Lib.hid (show M ≤ 20 by rw [hM]; unfold clampN; omega)
      have HMX := Lib.hid (show (M : Int) = max s0 0 by rw [hM]; unfold clampN; omega)
      have HMC := Lib.hid hM
      clear hM
      go_wp2_with fail
      refine (live_new0 s0).mono ?_
      rintro e w2 ⟨p, g1, rfl, F2, h⟩
      have H2 := Lib.hid (show Live w1 w2 p [g1] (rdS (List.replicate M zeroS) []) F2 from by rw [HMC.out]; exact h)
      clear h hs n1
      go_upto_region 6 with fail
      go_cut [8] (fun v wx => ∃ A8, v = .slice A8 M M ∧ Live w1 wx p [g1] (rdS (List.replicate M zeroS) []) F2 ∧ RowN w1 wx F2 (.slice A8 M M) M (List.replicate M zeroS))
      case first =>
        by_cases hs0 : 0 ≤ s0
        · obtain rfl : s0 = (M : Int) := by have := HMX.out; omega
          have m0 : (0 : Int) ≤ (M : Int) := by omega
          have hmx : max (M : Int) 0 = (M : Int) := by omega
          go_wp2_with (show wpList _ _ _ ({ dst := some 27, op := .makeSlice 43 (.tmp 26) (.tmp 26), type := _, pos := _, after := _, guard := _ } :: _) _ _; apply Classical.byContradiction; intro hneg)
          refine hneg ?_
          clear hneg
          refine wpList_make_full _ rfl _ _ _ rfl w1.heap.size 38 i0 _ 128 Try.underlying43 hi hj0 hj1 .i64 .i64 _ _ M rfl rfl rfl rfl ?_ ?_ ?_ ?_
          · rw [hj2]; have := HM.out; omega
          · unfold maxLen; have := HM.out; omega
          · exact H2.out.bel.size
          intro w3 hown hg
          have HO3 := Lib.hid (show w3.ownsRow w1.heap.size 38 128 (.slice (some ⟨w2.heap.size, 0, none⟩) M M) M (svs (List.replicate M zeroS)) from by rw [← made_svs]; exact hown)
          have HB3 := Lib.hid (below_of_grown8 hg)
          clear hown hg
          go_wp2_with fail
          go_meet
          exact ⟨_, rfl, H2.out.below HB3.out, HO3.out, fun j hj hf => by injection hj with hj; replace hj : w2.heap.size = j := hj; have := H2.out.lt _ hf; omega⟩
        · obtain rfl : M = 0 := by have := HMX.out; omega
          have hmx : max s0 0 = 0 := by omega
          go_wp2_with (show wpList _ _ _ ({ dst := some 27, op := .makeSlice 43 (.tmp 26) (.tmp 26), type := _, pos := _, after := _, guard := _ } :: _) _ _; apply Classical.byContradiction; intro hneg)
          refine hneg ?_
          clear hneg
          refine wpList_make_full _ rfl _ _ _ rfl w1.heap.size 38 i0 _ 128 Try.underlying43 hi hj0 hj1 .i64 .i64 _ _ 0 rfl rfl rfl rfl ?_ ?_ ?_ ?_
          · rw [hj2]; have := HM.out; omega
          · unfold maxLen; have := HM.out; omega
          · exact H2.out.bel.size
          intro w3 hown hg
          have HO3 := Lib.hid (show w3.ownsRow w1.heap.size 38 128 (.slice (some ⟨w2.heap.size, 0, none⟩) 0 0) 0 (svs (List.replicate 0 zeroS)) from by rw [← made_svs]; exact hown)
          have HB3 := Lib.hid (below_of_grown8 hg)
          clear hown hg
          go_wp2_with fail
          go_meet
          exact ⟨_, rfl, H2.out.below HB3.out, HO3.out, fun j hj hf => by injection hj with hj; replace hj : w2.heap.size = j := hj; have := H2.out.lt _ hf; omega⟩
      case rest =>
        obtain ⟨A8, rfl, hlive, hrow⟩ := hcut
        have H := Lib.hid hlive
        have RN := Lib.hid hrow
        clear hlive hrow H2 hi hj0 hj1 hj2
        go_wp2_with fail
        go_loopw [9] (fun i wr => ∃ (k : Nat) (F : Nat → Prop) (st : List (List UInt8)) (wt : List (Nat × List UInt8)), k ≤ n ∧ i = .int .i64 k ∧ st.length = M ∧ wt.length ≤ k ∧ Live w1 wr p [g1] (rdS st wt) F ∧ RowN w1 wr F (.slice A8 M M) M (wants st wt)) (fun i _ => n - (intOf i).toNat)
        case atStart => exact ⟨0, F2, _, [], Nat.zero_le _, rfl, by rw [List.length_replicate], Nat.le_refl _, H.out, by rw [wants_zero]; exact RN.out⟩
        case round =>
          clear H RN
          obtain ⟨k, FF, st, wt, hk, rfl, hsl, hwt, hlive, hrow⟩ := hrel
          have H := Lib.hid hlive
          have RN := Lib.hid hrow
          have HK := Lib.hid hk
          have HW := Lib.hid hwt
          have HSL := Lib.hid hsl
          clear hlive hrow hk hwt hsl
          by_cases hlt : k < n
          ·
            have hkl : k < l.length := by rw [HLL.out]; exact hlt
            obtain ⟨x, hxe⟩ : ∃ x, x = l[k] := ⟨_, rfl⟩
            obtain ⟨ad, hA, hq1, hq2⟩ := rd_deed HRD.out hkl
            subst hA
            have hcells : ∀ w', Below w.heap.size w w' → ∀ j v, (ddV x)[j]? = some v → w'.cell? ((ad.add (k * 5)).add j) = some v := fun w' hb' j v hv => by
              obtain ⟨ad', hA', _, hc'⟩ := rd_deed (HRD.out.below hb') hkl
              injection hA' with hA'; subst hA'
              exact hc' j v (by rw [← hxe]; exact hv)
            have HN2 := Lib.hid (show ∀ w', Below w.heap.size w w' → w'.cell? ⟨(ad.add (k * 5)).block, (ad.add (k * 5)).off + 2, none⟩ = some (.int .i64 x.n) from fun w' hb' => hcells w' hb' 2 _ rfl)
            have HN4 := Lib.hid (show ∀ w', Below w.heap.size w w' → w'.cell? ⟨(ad.add (k * 5)).block, (ad.add (k * 5)).off + 4, none⟩ = some (.int .u8 (x.c.toNat : Int)) from fun w' hb' => hcells w' hb' 4 _ rfl)
            have HXO := Lib.hid (HZZ.out x (by rw [hxe]; exact List.getElem_mem hkl))
            have HXG := Lib.hid (show l[k]? = some x from by rw [hxe]; exact List.getElem?_eq_getElem hkl)
            have HLT := Lib.hid hlt
            have k0 : (0 : Int) ≤ (k : Int) := by omega
            have k1 : (k : Int) < (n : Int) := by omega
            have k2 : (k : Int) < 30 := by have := HNB.out; omega
            clear hq1 hq2 hxe hkl hcells hlt
            by_cases hin : 0 ≤ x.n ∧ x.n < (M : Int)
            ·
              obtain ⟨u, hu⟩ := Int.eq_ofNat_of_zero_le hin.1
              have HUM := Lib.hid (show u < M by omega)
              have HN2' := Lib.hid (show ∀ w', Below w.heap.size w w' → w'.cell? ⟨(ad.add (k * 5)).block, (ad.add (k * 5)).off + 2, none⟩ = some (.int .i64 (u : Int)) from fun w' hb => by rw [← hu]; exact HN2.out w' hb)
              have u0 : (0 : Int) ≤ (u : Int) := by omega
              have u1 : (u : Int) < (M : Int) := by omega
              have u2 : (M : Int) ≤ 20 := by have := HM.out; omega
              have HST3 := Lib.hid (show ∀ y ∈ st, y.length = 128 from (H.out.sys.ok (k := 0) (by show 0 < 1; omega)).st)
              have HWT3 := Lib.hid (show ∀ v ∈ wt, v.1 < st.length ∧ v.2.length = 128 from (H.out.sys.ok (k := 0) (by show 0 < 1; omega)).wt)
              have HWY := Lib.hid (show (rdS st wt).write 0 (u : Int) (secC x.c) = (0, rdS st (wt ++ [(u, secC x.c)])) from rd_wy (by rw [HSL.out]; exact HUM.out))
              obtain ⟨q, rfl⟩ : ∃ q, A8 = some ⟨q, 0, none⟩ := by
                rcases own_addr8 RN.out.1 with ⟨_, h0, _⟩ | h0
                · have := HUM.out; omega
                · exact h0
              clear HN2 hin hu
              have HN2 := Lib.hid HN2'.out
              clear HN2'
              go_wp2_with fail
              refine wp_region_held_drew (S := fun w' => Below w.heap.size w w') (by kernel_rfl) (B1.out.trans (H.out.bel.mono B1.out.size)).drew (fun hh => ?_)
              have HH := Lib.hid hh
              clear hh
              refine wpAnyH_take (i := 0) (v := ?va0) rfl (by kernel_rfl) (by kernel_rfl) (by kernel_rfl) (fun _ _ _ h => h) (Or.inl ⟨by rfl, fun w' _ => ?ya0⟩) HH.out ?_
              case ya0 => (go_simp; try with_reducible rfl)
              refine wpAnyH_take (i := 1) (v := ?va1) rfl (by kernel_rfl) (by kernel_rfl) (by kernel_rfl) (fun _ _ _ h => h) (Or.inl ⟨by rfl, fun w' _ => ?ya1⟩) HH.out ?_
              case ya1 => (go_simp; try with_reducible rfl)
              try simp only [List.getElem_toArray, List.getElem_cons_succ, List.getElem_cons_zero, Act.put, List.setIfInBounds_toArray, List.set_cons_zero, List.set_cons_succ]
              refine wpAnyH_take (i := 2) (v := ?va2) rfl (by kernel_rfl) (by kernel_rfl) (by kernel_rfl) (fun _ _ _ h => h) (Or.inl ⟨by rfl, fun w' _ => ?ya2⟩) HH.out ?_
              case ya2 => (go_simp; try with_reducible rfl)
              refine wpAnyH_take (i := 3) (v := ?va3) rfl (by kernel_rfl) (by kernel_rfl) (by kernel_rfl) (fun _ _ _ h => h) (Or.inl ⟨by rfl, fun w' _ => ?ya3⟩) HH.out ?_
              case ya3 => (go_simp; try with_reducible rfl)
              refine wpAnyH_take (i := 4) (v := ?va4) rfl (by kernel_rfl) (by kernel_rfl) (by kernel_rfl) (fun _ _ _ h => h) (Or.inl ⟨by rfl, fun w' _ => ?ya4⟩) HH.out ?_
              case ya4 => (go_simp; try with_reducible rfl)
              try simp only [List.getElem_toArray, List.getElem_cons_succ, List.getElem_cons_zero, Act.put, List.setIfInBounds_toArray, List.set_cons_zero, List.set_cons_succ]
              refine wpAnyH_take (i := 5) (v := .int .i64 (u : Int)) rfl (by kernel_rfl) (by kernel_rfl) (by kernel_rfl) (fun _ _ _ h => h) (Or.inl ⟨by rfl, fun w' hw' => ?ya5⟩) HH.out ?_
              case ya5 => (have hc := HN2.out w' hw'; go_simp; try with_reducible rfl)
              refine wpAnyH_take (i := 6) (v := ?va6) rfl (by kernel_rfl) (by kernel_rfl) (by kernel_rfl) (fun _ _ _ h => h) (Or.inl ⟨by rfl, fun w' _ => ?ya6⟩) HH.out ?_
              case ya6 => (go_simp; try with_reducible rfl)
              refine wpAnyH_take (i := 7) (v := ?va7) rfl (by kernel_rfl) (by kernel_rfl) (by kernel_rfl) (fun _ _ _ h => h) (Or.inl ⟨by rfl, fun w' _ => ?ya7⟩) HH.out ?_
              case ya7 => (go_simp; try with_reducible rfl)
              try simp only [List.getElem_toArray, List.getElem_cons_succ, List.getElem_cons_zero, Act.put, List.setIfInBounds_toArray, List.set_cons_zero, List.set_cons_succ]
              refine wpAnyH_take (i := 8) (v := ?va8) rfl (by kernel_rfl) (by kernel_rfl) (by kernel_rfl) (fun _ _ _ h => h) (Or.inl ⟨by rfl, fun w' _ => ?ya8⟩) HH.out ?_
              case ya8 => (go_simp; try with_reducible rfl)
              refine wpAnyH_take (i := 9) (v := ?va9) rfl (by kernel_rfl) (by kernel_rfl) (by kernel_rfl) (fun _ _ _ h => h) (Or.inl ⟨by rfl, fun w' _ => ?ya9⟩) HH.out ?_
              case ya9 => (go_simp; try with_reducible rfl)
              refine wpAnyH_take (i := 10) (v := .int .u8 (x.c.toNat : Int)) rfl (by kernel_rfl) (by kernel_rfl) (by kernel_rfl) (fun _ _ _ h => h) (Or.inl ⟨by rfl, fun w' hw' => ?ya10⟩) HH.out ?_
              case ya10 => (have hc := HN4.out w' hw'; go_simp; try with_reducible rfl)
              try simp only [List.getElem_toArray, List.getElem_cons_succ, List.getElem_cons_zero, Act.put, List.setIfInBounds_toArray, List.set_cons_zero, List.set_cons_succ]
              refine wpAnyH_ready (rs := [11]) (by kernel_rfl) (by simp) (AllReadyH.cons rfl (fun K hK => ?_) AllReadyH.nil)
              go_simp
              refine (sector_any x.c _).mono ?_
              rintro e w21 ⟨rfl, bw⟩
              have H21 := Lib.hid (H.out.drew.below bw)
              have W21 := Lib.hid ((RN.out.below (Below.refl _ _).drew).below bw)
              go_simp
              refine hK.out _ _ (HH.out.trans (bw.mono HH.out.size)) (fun hh => ?_)
              have HH' := Lib.hid hh
              clear hh hK K HH bw H RN
              have HH := Lib.hid HH'.out
              clear HH'
              try simp only [List.getElem_toArray, List.getElem_cons_succ, List.getElem_cons_zero, Act.put, List.setIfInBounds_toArray, List.set_cons_zero, List.set_cons_succ]
              refine wpAnyH_ready (rs := [12]) (by kernel_rfl) (by simp) (AllReadyH.cons rfl (fun K hK => ?_) AllReadyH.nil)
              go_simp
              have hc := (by have h := live_write H21.out 0 (by show 0 < 1; omega) (u : Int) (secC x.c) (secC_length _) (by show wt.length < _; have := HW.out; have := HK.out; have := HNB.out; omega); rw [HWY.out] at h; exact h : Calls Try.prog 23 _ _ (RetL (.int .i64 0) w1 p [g1] (rdS st (wt ++ [(u, secC x.c)])) FF _))
              refine hc.mono ?_
              clear hc
              rintro e w22 ⟨rfl, F22, h, hf22, hb22⟩
              have H22 := Lib.hid (show Live w1 w22 p [g1] (rdS st (wt ++ [(u, secC x.c)])) F22 from h)
              have W22 := Lib.hid (W21.out.step hf22 hb22)
              go_simp
              refine hK.out _ _ (B1.out.trans (H22.out.bel.mono B1.out.size)) (fun hh => ?_)
              have HH' := Lib.hid hh
              clear hh hK K HH h hf22 hb22 H21 W21
              have HH := Lib.hid HH'.out
              clear HH'
              refine wpAnyH_take (i := 13) (v := ?va13) rfl (by kernel_rfl) (by kernel_rfl) (by kernel_rfl) (fun _ _ _ h => h) (Or.inl ⟨by rfl, fun w' _ => ?ya13⟩) HH.out ?_
              case ya13 => (go_simp; try with_reducible rfl)
              try simp only [List.getElem_toArray, List.getElem_cons_succ, List.getElem_cons_zero, Act.put, List.setIfInBounds_toArray, List.set_cons_zero, List.set_cons_succ]
              refine wpAnyH_done (by kernel_rfl) ?_ _
              clear HH
              have hcn := HN2.out _ (B1.out.trans (H22.out.bel.mono B1.out.size))
              go_wp2_with fail
              refine wp_region_held_drew (S := fun w' => Below w.heap.size w w') (by kernel_rfl) (B1.out.trans (H22.out.bel.mono B1.out.size)).drew (fun hh => ?_)
              have HH := Lib.hid hh
              clear hh
              refine wpAnyH_take (i := 0) (v := ?vb0) rfl (by kernel_rfl) (by kernel_rfl) (by kernel_rfl) (fun _ _ _ h => h) (Or.inl ⟨by rfl, fun w' _ => ?yb0⟩) HH.out ?_
              case yb0 => (go_simp; try with_reducible rfl)
              refine wpAnyH_take (i := 1) (v := ?vb1) rfl (by kernel_rfl) (by kernel_rfl) (by kernel_rfl) (fun _ _ _ h => h) (Or.inl ⟨by rfl, fun w' _ => ?yb1⟩) HH.out ?_
              case yb1 => (go_simp; try with_reducible rfl)
              try simp only [List.getElem_toArray, List.getElem_cons_succ, List.getElem_cons_zero, Act.put, List.setIfInBounds_toArray, List.set_cons_zero, List.set_cons_succ]
              refine wpAnyH_take (i := 2) (v := ?vb2) rfl (by kernel_rfl) (by kernel_rfl) (by kernel_rfl) (fun _ _ _ h => h) (Or.inl ⟨by rfl, fun w' _ => ?yb2⟩) HH.out ?_
              case yb2 => (go_simp; try with_reducible rfl)
              refine wpAnyH_take (i := 3) (v := ?vb3) rfl (by kernel_rfl) (by kernel_rfl) (by kernel_rfl) (fun _ _ _ h => h) (Or.inl ⟨by rfl, fun w' _ => ?yb3⟩) HH.out ?_
              case yb3 => (go_simp; try with_reducible rfl)
              refine wpAnyH_take (i := 4) (v := ?vb4) rfl (by kernel_rfl) (by kernel_rfl) (by kernel_rfl) (fun _ _ _ h => h) (Or.inl ⟨by rfl, fun w' _ => ?yb4⟩) HH.out ?_
              case yb4 => (go_simp; try with_reducible rfl)
              try simp only [List.getElem_toArray, List.getElem_cons_succ, List.getElem_cons_zero, Act.put, List.setIfInBounds_toArray, List.set_cons_zero, List.set_cons_succ]
              refine wpAnyH_take (i := 5) (v := .int .i64 (u : Int)) rfl (by kernel_rfl) (by kernel_rfl) (by kernel_rfl) (fun _ _ _ h => h) (Or.inl ⟨by rfl, fun w' hw' => ?yb5⟩) HH.out ?_
              case yb5 => (have hc := HN2.out w' hw'; go_simp; try with_reducible rfl)
              refine wpAnyH_take (i := 6) (v := ?vb6) rfl (by kernel_rfl) (by kernel_rfl) (by kernel_rfl) (fun _ _ _ h => h) (Or.inl ⟨by rfl, fun w' _ => ?yb6⟩) HH.out ?_
              case yb6 => (go_simp; try with_reducible rfl)
              refine wpAnyH_take (i := 7) (v := ?vb7) rfl (by kernel_rfl) (by kernel_rfl) (by kernel_rfl) (fun _ _ _ h => h) (Or.inl ⟨by rfl, fun w' _ => ?yb7⟩) HH.out ?_
              case yb7 => (go_simp; try with_reducible rfl)
              try simp only [List.getElem_toArray, List.getElem_cons_succ, List.getElem_cons_zero, Act.put, List.setIfInBounds_toArray, List.set_cons_zero, List.set_cons_succ]
              refine wpAnyH_take (i := 8) (v := ?vb8) rfl (by kernel_rfl) (by kernel_rfl) (by kernel_rfl) (fun _ _ _ h => h) (Or.inl ⟨by rfl, fun w' _ => ?yb8⟩) HH.out ?_
              case yb8 => (go_simp; try with_reducible rfl)
              refine wpAnyH_take (i := 9) (v := ?vb9) rfl (by kernel_rfl) (by kernel_rfl) (by kernel_rfl) (fun _ _ _ h => h) (Or.inl ⟨by rfl, fun w' _ => ?yb9⟩) HH.out ?_
              case yb9 => (go_simp; try with_reducible rfl)
              refine wpAnyH_take (i := 10) (v := .int .u8 (x.c.toNat : Int)) rfl (by kernel_rfl) (by kernel_rfl) (by kernel_rfl) (fun _ _ _ h => h) (Or.inl ⟨by rfl, fun w' hw' => ?yb10⟩) HH.out ?_
              case yb10 => (have hc := HN4.out w' hw'; go_simp; try with_reducible rfl)
              try simp only [List.getElem_toArray, List.getElem_cons_succ, List.getElem_cons_zero, Act.put, List.setIfInBounds_toArray, List.set_cons_zero, List.set_cons_succ]
              refine wpAnyH_ready (rs := [11]) (by kernel_rfl) (by simp) (AllReadyH.cons rfl (fun K hK => ?_) AllReadyH.nil)
              go_simp
              refine (sector_any x.c _).mono ?_
              rintro e ws ⟨rfl, bw⟩
              have HS1 := Lib.hid (H22.out.drew.below bw)
              have RS1 := Lib.hid ((W22.out.below (Below.refl _ _).drew).below bw)
              go_simp
              refine hK.out _ _ (HH.out.trans (bw.mono HH.out.size)) (fun hh => ?_)
              have HH' := Lib.hid hh
              clear hh hK K HH bw H22 W22 hcn
              have HH := Lib.hid HH'.out
              clear HH'
              refine wpAnyH_take (i := 12) (v := ?vb12) rfl (by kernel_rfl) (by kernel_rfl) (by kernel_rfl) (fun _ _ _ h => h) (Or.inl ⟨by rfl, fun w' _ => ?yb12⟩) HH.out ?_
              case yb12 => (go_simp; try with_reducible rfl)
              refine wpAnyH_ready (rs := [13]) (by kernel_rfl) (by simp) (AllReadyH.cons rfl (fun K hK => ?_) AllReadyH.nil)
              refine step_wp8 (by rfl) ?_
              have HOM := Lib.hid (own_setMid (o := u * 128) (vs := bv (secC x.c)) RS1.out.1 (by rw [bv_length, secC_length]; have := HUM.out; omega))
              have HSP := Lib.hid (svs_splice (st := wants st wt) (k := u) (s := secC x.c) (by intro y hy; exact wants_ok (d := ⟨st, wt, 0, 0, false, false⟩) ⟨fun y hy => HST3.out y hy, HWT3.out, by show (0:Int) ≤ 0; omega, by show (0:Int) ≤ 0 ∧ (0:Int) ≤ 128; omega, by show st.length ≤ 4096; have := HSL.out; have := HM.out; omega⟩ y hy) (secC_length _) (by rw [wants_length, HSL.out]; exact HUM.out))
              have HIC : Hid ((Try.prog.info? 38).map (·.size) = some (bva (secC x.c)).size) := by show _ = _; rw [bva_size, secC_length]; exact info_sec
              refine wp_store_mid 38 (.tmp 79) (.tmp 78) rfl q (u * 128) (bva (secC x.c)) rfl rfl (by have h := HOM.out.2; rwa [show (bv (secC x.c)).length = (bva (secC x.c)).size by rw [bv_length, bva_size]] at h) HIC.out (bva_one _) ?_
              generalize hwv : World.setCells _ _ _ _ = wv
              have HBV := Lib.hid (show But (fun j => j = q) ws wv by rw [← hwv]; exact (But.refl _).grown (grown_setCells _ _ _ _) (fun j hj => .inl (Option.some.inj hj).symm))
              have HQ := Lib.hid (RS1.out.1.lt q rfl)
              have RV := Lib.hid (show RowN w1 wv F22 (.slice (some ⟨q, 0, none⟩) M M) M (wants st (wt ++ [(u, secC x.c)])) from ⟨by rw [wants_set, HSP.out, ← hwv]; exact HOM.out.1, RS1.out.2⟩)
              have HV1 := Lib.hid (HS1.out.but8 HBV.out (fun j hf e => RS1.out.2 q rfl (e ▸ hf)) (fun j e => by rw [e]; exact HQ.out.1))
              clear hwv
              refine hK.out _ _ (B1.out.trans (HV1.out.bel.mono B1.out.size)) (fun hh => ?_)
              clear hh hK K HH HOM HSP HIC HBV HQ HS1 RS1
              have HH := Lib.hid (show Below w.heap.size w wv from B1.out.trans (HV1.out.bel.mono B1.out.size))
              try simp only [List.getElem_toArray, List.getElem_cons_succ, List.getElem_cons_zero, Act.put, List.setIfInBounds_toArray, List.set_cons_zero, List.set_cons_succ]
              refine wpAnyH_done (by kernel_rfl) ?_ _
              clear HH
              cases fl
              ·
                go_wp2_with fail
                have HS3 := Lib.hid (wants_ok (HV1.out.sys.ok (k := 0) (by show 0 < 1; omega)))
                have HS3 := Lib.hid (show ∀ e ∈ wants st (wt ++ [(u, secC x.c)]), e.length = 128 from HS3.out)
                have HSL2 := Lib.hid (show (st).length = M from HSL.out)
                go_loopw [11] (fun i wr => ∃ (j : Nat), j ≤ M ∧ i = .int .i64 j ∧ Live w1 wr p [g1] (rdS st (wt ++ [(u, secC x.c)])) F22 ∧ RowN w1 wr F22 (.slice (some ⟨q, 0, none⟩) M M) M (wants st (wt ++ [(u, secC x.c)]))) (fun i _ => M - (intOf i).toNat)
                case atStart => exact ⟨0, Nat.zero_le _, rfl, HV1.out, RV.out⟩
                case round =>
                  clear HV1 RV
                  obtain ⟨j, hj, rfl, hlive, hrow⟩ := hrel
                  have H := Lib.hid hlive
                  have RN := Lib.hid hrow
                  have HJ := Lib.hid hj
                  clear hlive hrow hj
                  by_cases hj : j < M
                  ·
                    have HJT := Lib.hid hj
                    have j0 : (0 : Int) ≤ (j : Int) := by omega
                    have j1 : (j : Int) < 20 := by have := HM.out; omega
                    have j2 : (j : Int) < (M : Int) := by omega
                    obtain ⟨y, hy⟩ : ∃ y, y = nowL (st) ((wt ++ [(u, secC x.c)])) j := ⟨_, rfl⟩
                    have HRY := Lib.hid (show readV (rdS st (wt ++ [(u, secC x.c)])).p ((rdS st (wt ++ [(u, secC x.c)])).at 0) (j : Int) = .tuple #[.agg (bva y), .int .i64 0] by rw [hy]; exact rd_read (by rw [HSL2.out]; exact hj))
                    have HYE := Lib.hid (show (wants st (wt ++ [(u, secC x.c)]))[j]'(by rw [wants_length, HSL2.out]; exact HJT.out) = y by rw [hy]; exact wants_get (by rw [HSL2.out]; exact hj))
                    have HY3 := Lib.hid (show y.length = 128 by rw [← HYE.out]; exact HS3.out _ (List.getElem_mem _))
                    have HIY : Hid ((Try.prog.info? 38).map (·.size) = some (bva y).size) := by show _ = _; rw [bva_size, HY3.out]; exact info_sec
                    have HIYL : Hid ((Try.prog.info? 38).map (·.size) = some (bv y).length) := by show _ = _; rw [bv_length, HY3.out]; exact info_sec
                    have heq := eq_sec y y HY3.out HY3.out
                    simp only [decide_true] at heq
                    clear hy hj
                    go_wp2_with fail
                    refine (dread_any H.out.sys 0 (by show 0 < 1; omega) (j : Int)).mono ?_
                    rintro e w61 ⟨rfl, bw⟩
                    rw [HRY.out]
                    have H61 := Lib.hid (H.out.below bw)
                    have W61 := Lib.hid (RN.out.below bw)
                    clear bw H RN
                    have HB61 := Lib.hid (show Blk (w61.alloc (.cells (bva z) 38)) w61.heap.size (bva z) 38 from heap_alloc_new _ _)
                    go_wp2_with (show wpList _ _ _ ({ dst := none, op := .store 38 (.tmp 12) (.tmp 96), type := _, pos := _, after := _, guard := _ } :: _) _ _; apply Classical.byContradiction; intro hneg)
                    refine hneg ?_
                    clear hneg
                    refine wpList_store_row rfl 38 (.tmp 12) (.tmp 96) rfl w61.heap.size (bva y) rfl rfl 38 (bva z) HB61.out HIY.out (by rw [bva_size, bva_size, HY3.out, HZ3.out]) (bva_one _) ?_
                    obtain ⟨wb61, hwb61⟩ : ∃ wb, wb = ((w61.alloc (.cells (bva z) 38)).setRow w61.heap.size (bva y)) := ⟨_, rfl⟩
                    have HV61 := Lib.hid (show Blk wb61 w61.heap.size (bva y) 38 from by rw [hwb61]; exact setRow_heap _ _ _ _ _ _ HB61.out)
                    have BB61 := Lib.hid (show Below w61.heap.size w61 wb61 from by rw [hwb61]; exact below_setRow ((Below.refl _ _).alloc (Nat.le_refl _) _) (Nat.le_refl _) _)
                    rw [← hwb61]
                    clear hwb61
                    have HX61 := Lib.hid (H61.out.below BB61.out)
                    have Wx61 := Lib.hid (W61.out.below BB61.out)
                    clear HB61 BB61 H61 W61
                    have HCE := Lib.hid (show ∀ w', Below wb61.heap.size wb61 w' → ∀ jj v, (bv y)[jj]? = some v → w'.cell? ((⟨q, j * 128, none⟩ : Addr).add jj) = some v from fun w' hb jj v hv => by
                      obtain ⟨ad', hA', _, hc'⟩ := rd_sec ((Rd.ownN Wx61.out.1).below hb) HS3.out (k := j) ((by rw [wants_length, HSL2.out]; exact HJT.out))
                      injection hA' with hA'; subst hA'
                      have h := hc' jj v (by rw [HYE.out]; exact hv)
                      rwa [show (⟨q, 0, none⟩ : Addr).add (j * 128) = ⟨q, j * 128, none⟩ by rw [Addr.add_mid, Nat.zero_add]] at h)
                    go_wp2_with fail
                    refine wp_region_held_drew (S := fun w' => Below wb61.heap.size wb61 w') (by kernel_rfl) (Below.refl _ _).drew (fun hh => ?_)
                    have HH := Lib.hid hh
                    clear hh
                    refine wpAnyH_take (i := 0) (v := ?vc0) rfl (by kernel_rfl) (by kernel_rfl) (by kernel_rfl) (fun _ _ _ h => h) (Or.inl ⟨by rfl, fun w' _ => ?yc0⟩) HH.out ?_
                    case yc0 => (go_simp; try with_reducible rfl)
                    refine wpAnyH_take (i := 1) (v := ?vc1) rfl (by kernel_rfl) (by kernel_rfl) (by kernel_rfl) (fun _ _ _ h => h) (Or.inl ⟨by rfl, fun w' _ => ?yc1⟩) HH.out ?_
                    case yc1 => (go_simp; try with_reducible rfl)
                    try simp only [List.getElem_toArray, List.getElem_cons_succ, List.getElem_cons_zero, Act.put, List.setIfInBounds_toArray, List.set_cons_zero, List.set_cons_succ]
                    refine wpAnyH_take (i := 2) (v := ?vc2) rfl (by kernel_rfl) (by kernel_rfl) (by kernel_rfl) (fun _ _ _ h => h) (Or.inl ⟨by rfl, fun w' _ => ?yc2⟩) HH.out ?_
                    case yc2 => (go_simp; try with_reducible rfl)
                    refine wpAnyH_take (i := 3) (v := .agg (bva y)) rfl (by kernel_rfl) (by kernel_rfl) (by kernel_rfl) (fun _ _ _ h => h) (Or.inl ⟨by rfl, fun w' hw' => ?yc3⟩) HH.out ?_
                    case yc3 => exact exec_load 38 (.tmp 12) rfl rfl (HV61.out.below hw') Try.underlying38 rfl HIY.out
                    try simp only [List.getElem_toArray, List.getElem_cons_succ, List.getElem_cons_zero, Act.put, List.setIfInBounds_toArray, List.set_cons_zero, List.set_cons_succ]
                    refine wpAnyH_take (i := 4) (v := ?vc4) rfl (by kernel_rfl) (by kernel_rfl) (by kernel_rfl) (fun _ _ _ h => h) (Or.inl ⟨by rfl, fun w' _ => ?yc4⟩) HH.out ?_
                    case yc4 => (go_simp; try with_reducible rfl)
                    try simp only [List.getElem_toArray, List.getElem_cons_succ, List.getElem_cons_zero, Act.put, List.setIfInBounds_toArray, List.set_cons_zero, List.set_cons_succ]
                    refine wpAnyH_take (i := 5) (v := ?vc5) rfl (by kernel_rfl) (by kernel_rfl) (by kernel_rfl) (fun _ _ _ h => h) (Or.inl ⟨by rfl, fun w' _ => ?yc5⟩) HH.out ?_
                    case yc5 => (go_simp; try with_reducible rfl)
                    try simp only [List.getElem_toArray, List.getElem_cons_succ, List.getElem_cons_zero, Act.put, List.setIfInBounds_toArray, List.set_cons_zero, List.set_cons_succ]
                    refine wpAnyH_take (i := 6) (v := ?vc6) rfl (by kernel_rfl) (by kernel_rfl) (by kernel_rfl) (fun _ _ _ h => h) (Or.inl ⟨by rfl, fun w' _ => ?yc6⟩) HH.out ?_
                    case yc6 => (go_simp; try with_reducible rfl)
                    refine wpAnyH_take (i := 7) (v := .agg (bva y)) rfl (by kernel_rfl) (by kernel_rfl) (by kernel_rfl) (fun _ _ _ h => h) (Or.inl ⟨by rfl, fun w' hw' => ?yc7⟩) HH.out ?_
                    case yc7 => exact exec_load_at 38 (.tmp 104) rfl (⟨q, j * 128, none⟩ : Addr) rfl (HCE.out w' hw') Try.underlying38 rfl HIYL.out
                    try simp only [List.getElem_toArray, List.getElem_cons_succ, List.getElem_cons_zero, Act.put, List.setIfInBounds_toArray, List.set_cons_zero, List.set_cons_succ]
                    refine wpAnyH_take (i := 8) (v := ?vc8) rfl (by kernel_rfl) (by kernel_rfl) (by kernel_rfl) (fun _ _ _ h => h) (Or.inl ⟨by rfl, fun w' _ => ?yc8⟩) HH.out ?_
                    case yc8 => (go_simp; try with_reducible rfl)
                    refine wpAnyH_take (i := 9) (v := ?vc9) rfl (by kernel_rfl) (by kernel_rfl) (by kernel_rfl) (fun _ _ _ h => h) (Or.inl ⟨by rfl, fun w' _ => ?yc9⟩) HH.out ?_
                    case yc9 => (go_simp; try with_reducible rfl)
                    try simp only [List.getElem_toArray, List.getElem_cons_succ, List.getElem_cons_zero, Act.put, List.setIfInBounds_toArray, List.set_cons_zero, List.set_cons_succ]
                    refine wpAnyH_done (by kernel_rfl) ?_ _
                    have HLX := Lib.hid (HX61.out.below HH.out)
                    have RWX := Lib.hid (Wx61.out.below HH.out)
                    clear heq HCE HH HX61 Wx61 HV61
                    go_wp2_with fail
                    go_roundw
                    case rel => exact ⟨j + 1, by have := HJT.out; omega, by go_num, HLX.out, RWX.out⟩
                    case measure => (have := HJT.out; simp [intOf]; omega)
                  ·
                    obtain rfl : j = M := by have := HJ.out; omega
                    clear hj
                    go_wp2_with fail
                    go_roundw
                    case rel => exact ⟨k + 1, F22, st, (wt ++ [(u, secC x.c)]), by have := HLT.out; omega, by go_num, HSL2.out, by (have := HW.out; simp; omega), H.out, RN.out⟩
                    case measure => (have := HLT.out; simp [intOf]; omega)
              ·
                go_wp2_with fail
                have hc := live_flush HV1.out 0 (by show 0 < 1; omega)
                rw [rd_f] at hc
                refine hc.mono ?_
                clear hc
                rintro e w23 ⟨rfl, F23, h, hf23, hb23⟩
                have H23 := Lib.hid (show Live w1 w23 p [g1] (rdS (flushL st (wt ++ [(u, secC x.c)])) []) F23 from h)
                have W23 := Lib.hid (RV.out.step hf23 hb23)
                clear h hf23 hb23 HV1 RV
                have RF := Lib.hid (show RowN w1 w23 F23 (.slice (some ⟨q, 0, none⟩) M M) M (wants (flushL st (wt ++ [(u, secC x.c)])) []) from by rw [wants_flush]; exact W23.out)
                clear W23
                go_wp2_with fail
                have HS3 := Lib.hid (wants_ok (H23.out.sys.ok (k := 0) (by show 0 < 1; omega)))
                have HS3 := Lib.hid (show ∀ e ∈ wants (flushL st (wt ++ [(u, secC x.c)])) [], e.length = 128 from HS3.out)
                have HSL2 := Lib.hid (show ((flushL st (wt ++ [(u, secC x.c)]))).length = M from by rw [flush_length]; exact HSL.out)
                go_loopw [11] (fun i wr => ∃ (j : Nat), j ≤ M ∧ i = .int .i64 j ∧ Live w1 wr p [g1] (rdS (flushL st (wt ++ [(u, secC x.c)])) []) F23 ∧ RowN w1 wr F23 (.slice (some ⟨q, 0, none⟩) M M) M (wants (flushL st (wt ++ [(u, secC x.c)])) [])) (fun i _ => M - (intOf i).toNat)
                case atStart => exact ⟨0, Nat.zero_le _, rfl, H23.out, RF.out⟩
                case round =>
                  clear H23 RF
                  obtain ⟨j, hj, rfl, hlive, hrow⟩ := hrel
                  have H := Lib.hid hlive
                  have RN := Lib.hid hrow
                  have HJ := Lib.hid hj
                  clear hlive hrow hj
                  by_cases hj : j < M
                  ·
                    have HJT := Lib.hid hj
                    have j0 : (0 : Int) ≤ (j : Int) := by omega
                    have j1 : (j : Int) < 20 := by have := HM.out; omega
                    have j2 : (j : Int) < (M : Int) := by omega
                    obtain ⟨y, hy⟩ : ∃ y, y = nowL ((flushL st (wt ++ [(u, secC x.c)]))) ([]) j := ⟨_, rfl⟩
                    have HRY := Lib.hid (show readV (rdS (flushL st (wt ++ [(u, secC x.c)])) []).p ((rdS (flushL st (wt ++ [(u, secC x.c)])) []).at 0) (j : Int) = .tuple #[.agg (bva y), .int .i64 0] by rw [hy]; exact rd_read (by rw [HSL2.out]; exact hj))
                    have HYE := Lib.hid (show (wants (flushL st (wt ++ [(u, secC x.c)])) [])[j]'(by rw [wants_length, HSL2.out]; exact HJT.out) = y by rw [hy]; exact wants_get (by rw [HSL2.out]; exact hj))
                    have HY3 := Lib.hid (show y.length = 128 by rw [← HYE.out]; exact HS3.out _ (List.getElem_mem _))
                    have HIY : Hid ((Try.prog.info? 38).map (·.size) = some (bva y).size) := by show _ = _; rw [bva_size, HY3.out]; exact info_sec
                    have HIYL : Hid ((Try.prog.info? 38).map (·.size) = some (bv y).length) := by show _ = _; rw [bv_length, HY3.out]; exact info_sec
                    have heq := eq_sec y y HY3.out HY3.out
                    simp only [decide_true] at heq
                    clear hy hj
                    go_wp2_with fail
                    refine (dread_any H.out.sys 0 (by show 0 < 1; omega) (j : Int)).mono ?_
                    rintro e w61 ⟨rfl, bw⟩
                    rw [HRY.out]
                    have H61 := Lib.hid (H.out.below bw)
                    have W61 := Lib.hid (RN.out.below bw)
                    clear bw H RN
                    have HB61 := Lib.hid (show Blk (w61.alloc (.cells (bva z) 38)) w61.heap.size (bva z) 38 from heap_alloc_new _ _)
                    go_wp2_with (show wpList _ _ _ ({ dst := none, op := .store 38 (.tmp 12) (.tmp 96), type := _, pos := _, after := _, guard := _ } :: _) _ _; apply Classical.byContradiction; intro hneg)
                    refine hneg ?_
                    clear hneg
                    refine wpList_store_row rfl 38 (.tmp 12) (.tmp 96) rfl w61.heap.size (bva y) rfl rfl 38 (bva z) HB61.out HIY.out (by rw [bva_size, bva_size, HY3.out, HZ3.out]) (bva_one _) ?_
                    obtain ⟨wb61, hwb61⟩ : ∃ wb, wb = ((w61.alloc (.cells (bva z) 38)).setRow w61.heap.size (bva y)) := ⟨_, rfl⟩
                    have HV61 := Lib.hid (show Blk wb61 w61.heap.size (bva y) 38 from by rw [hwb61]; exact setRow_heap _ _ _ _ _ _ HB61.out)
                    have BB61 := Lib.hid (show Below w61.heap.size w61 wb61 from by rw [hwb61]; exact below_setRow ((Below.refl _ _).alloc (Nat.le_refl _) _) (Nat.le_refl _) _)
                    rw [← hwb61]
                    clear hwb61
                    have HX61 := Lib.hid (H61.out.below BB61.out)
                    have Wx61 := Lib.hid (W61.out.below BB61.out)
                    clear HB61 BB61 H61 W61
                    have HCE := Lib.hid (show ∀ w', Below wb61.heap.size wb61 w' → ∀ jj v, (bv y)[jj]? = some v → w'.cell? ((⟨q, j * 128, none⟩ : Addr).add jj) = some v from fun w' hb jj v hv => by
                      obtain ⟨ad', hA', _, hc'⟩ := rd_sec ((Rd.ownN Wx61.out.1).below hb) HS3.out (k := j) ((by rw [wants_length, HSL2.out]; exact HJT.out))
                      injection hA' with hA'; subst hA'
                      have h := hc' jj v (by rw [HYE.out]; exact hv)
                      rwa [show (⟨q, 0, none⟩ : Addr).add (j * 128) = ⟨q, j * 128, none⟩ by rw [Addr.add_mid, Nat.zero_add]] at h)
                    go_wp2_with fail
                    refine wp_region_held_drew (S := fun w' => Below wb61.heap.size wb61 w') (by kernel_rfl) (Below.refl _ _).drew (fun hh => ?_)
                    have HH := Lib.hid hh
                    clear hh
                    refine wpAnyH_take (i := 0) (v := ?ve0) rfl (by kernel_rfl) (by kernel_rfl) (by kernel_rfl) (fun _ _ _ h => h) (Or.inl ⟨by rfl, fun w' _ => ?ye0⟩) HH.out ?_
                    case ye0 => (go_simp; try with_reducible rfl)
                    refine wpAnyH_take (i := 1) (v := ?ve1) rfl (by kernel_rfl) (by kernel_rfl) (by kernel_rfl) (fun _ _ _ h => h) (Or.inl ⟨by rfl, fun w' _ => ?ye1⟩) HH.out ?_
                    case ye1 => (go_simp; try with_reducible rfl)
                    try simp only [List.getElem_toArray, List.getElem_cons_succ, List.getElem_cons_zero, Act.put, List.setIfInBounds_toArray, List.set_cons_zero, List.set_cons_succ]
                    refine wpAnyH_take (i := 2) (v := ?ve2) rfl (by kernel_rfl) (by kernel_rfl) (by kernel_rfl) (fun _ _ _ h => h) (Or.inl ⟨by rfl, fun w' _ => ?ye2⟩) HH.out ?_
                    case ye2 => (go_simp; try with_reducible rfl)
                    refine wpAnyH_take (i := 3) (v := .agg (bva y)) rfl (by kernel_rfl) (by kernel_rfl) (by kernel_rfl) (fun _ _ _ h => h) (Or.inl ⟨by rfl, fun w' hw' => ?ye3⟩) HH.out ?_
                    case ye3 => exact exec_load 38 (.tmp 12) rfl rfl (HV61.out.below hw') Try.underlying38 rfl HIY.out
                    try simp only [List.getElem_toArray, List.getElem_cons_succ, List.getElem_cons_zero, Act.put, List.setIfInBounds_toArray, List.set_cons_zero, List.set_cons_succ]
                    refine wpAnyH_take (i := 4) (v := ?ve4) rfl (by kernel_rfl) (by kernel_rfl) (by kernel_rfl) (fun _ _ _ h => h) (Or.inl ⟨by rfl, fun w' _ => ?ye4⟩) HH.out ?_
                    case ye4 => (go_simp; try with_reducible rfl)
                    try simp only [List.getElem_toArray, List.getElem_cons_succ, List.getElem_cons_zero, Act.put, List.setIfInBounds_toArray, List.set_cons_zero, List.set_cons_succ]
                    refine wpAnyH_take (i := 5) (v := ?ve5) rfl (by kernel_rfl) (by kernel_rfl) (by kernel_rfl) (fun _ _ _ h => h) (Or.inl ⟨by rfl, fun w' _ => ?ye5⟩) HH.out ?_
                    case ye5 => (go_simp; try with_reducible rfl)
                    try simp only [List.getElem_toArray, List.getElem_cons_succ, List.getElem_cons_zero, Act.put, List.setIfInBounds_toArray, List.set_cons_zero, List.set_cons_succ]
                    refine wpAnyH_take (i := 6) (v := ?ve6) rfl (by kernel_rfl) (by kernel_rfl) (by kernel_rfl) (fun _ _ _ h => h) (Or.inl ⟨by rfl, fun w' _ => ?ye6⟩) HH.out ?_
                    case ye6 => (go_simp; try with_reducible rfl)
                    refine wpAnyH_take (i := 7) (v := .agg (bva y)) rfl (by kernel_rfl) (by kernel_rfl) (by kernel_rfl) (fun _ _ _ h => h) (Or.inl ⟨by rfl, fun w' hw' => ?ye7⟩) HH.out ?_
                    case ye7 => exact exec_load_at 38 (.tmp 104) rfl (⟨q, j * 128, none⟩ : Addr) rfl (HCE.out w' hw') Try.underlying38 rfl HIYL.out
                    try simp only [List.getElem_toArray, List.getElem_cons_succ, List.getElem_cons_zero, Act.put, List.setIfInBounds_toArray, List.set_cons_zero, List.set_cons_succ]
                    refine wpAnyH_take (i := 8) (v := ?ve8) rfl (by kernel_rfl) (by kernel_rfl) (by kernel_rfl) (fun _ _ _ h => h) (Or.inl ⟨by rfl, fun w' _ => ?ye8⟩) HH.out ?_
                    case ye8 => (go_simp; try with_reducible rfl)
                    refine wpAnyH_take (i := 9) (v := ?ve9) rfl (by kernel_rfl) (by kernel_rfl) (by kernel_rfl) (fun _ _ _ h => h) (Or.inl ⟨by rfl, fun w' _ => ?ye9⟩) HH.out ?_
                    case ye9 => (go_simp; try with_reducible rfl)
                    try simp only [List.getElem_toArray, List.getElem_cons_succ, List.getElem_cons_zero, Act.put, List.setIfInBounds_toArray, List.set_cons_zero, List.set_cons_succ]
                    refine wpAnyH_done (by kernel_rfl) ?_ _
                    have HLX := Lib.hid (HX61.out.below HH.out)
                    have RWX := Lib.hid (Wx61.out.below HH.out)
                    clear heq HCE HH HX61 Wx61 HV61
                    go_wp2_with fail
                    go_roundw
                    case rel => exact ⟨j + 1, by have := HJT.out; omega, by go_num, HLX.out, RWX.out⟩
                    case measure => (have := HJT.out; simp [intOf]; omega)
                  ·
                    obtain rfl : j = M := by have := HJ.out; omega
                    clear hj
                    go_wp2_with fail
                    go_roundw
                    case rel => exact ⟨k + 1, F23, (flushL st (wt ++ [(u, secC x.c)])), [], by have := HLT.out; omega, by go_num, HSL2.out, by (simp), H.out, RN.out⟩
                    case measure => (have := HLT.out; simp [intOf]; omega)
            ·
              have HWN := Lib.hid (show (rdS st wt).write 0 x.n (secC x.c) = (2, rdS st wt) from rd_wn (by rw [HSL.out]; exact hin))
              go_wp2_with fail
              refine wp_region_held_drew (S := fun w' => Below w.heap.size w w') (by kernel_rfl) (B1.out.trans (H.out.bel.mono B1.out.size)).drew (fun hh => ?_)
              have HH := Lib.hid hh
              clear hh
              refine wpAnyH_take (i := 0) (v := ?vd0) rfl (by kernel_rfl) (by kernel_rfl) (by kernel_rfl) (fun _ _ _ h => h) (Or.inl ⟨by rfl, fun w' _ => ?yd0⟩) HH.out ?_
              case yd0 => (go_simp; try with_reducible rfl)
              refine wpAnyH_take (i := 1) (v := ?vd1) rfl (by kernel_rfl) (by kernel_rfl) (by kernel_rfl) (fun _ _ _ h => h) (Or.inl ⟨by rfl, fun w' _ => ?yd1⟩) HH.out ?_
              case yd1 => (go_simp; try with_reducible rfl)
              try simp only [List.getElem_toArray, List.getElem_cons_succ, List.getElem_cons_zero, Act.put, List.setIfInBounds_toArray, List.set_cons_zero, List.set_cons_succ]
              refine wpAnyH_take (i := 2) (v := ?vd2) rfl (by kernel_rfl) (by kernel_rfl) (by kernel_rfl) (fun _ _ _ h => h) (Or.inl ⟨by rfl, fun w' _ => ?yd2⟩) HH.out ?_
              case yd2 => (go_simp; try with_reducible rfl)
              refine wpAnyH_take (i := 3) (v := ?vd3) rfl (by kernel_rfl) (by kernel_rfl) (by kernel_rfl) (fun _ _ _ h => h) (Or.inl ⟨by rfl, fun w' _ => ?yd3⟩) HH.out ?_
              case yd3 => (go_simp; try with_reducible rfl)
              refine wpAnyH_take (i := 4) (v := ?vd4) rfl (by kernel_rfl) (by kernel_rfl) (by kernel_rfl) (fun _ _ _ h => h) (Or.inl ⟨by rfl, fun w' _ => ?yd4⟩) HH.out ?_
              case yd4 => (go_simp; try with_reducible rfl)
              try simp only [List.getElem_toArray, List.getElem_cons_succ, List.getElem_cons_zero, Act.put, List.setIfInBounds_toArray, List.set_cons_zero, List.set_cons_succ]
              refine wpAnyH_take (i := 5) (v := .int .i64 x.n) rfl (by kernel_rfl) (by kernel_rfl) (by kernel_rfl) (fun _ _ _ h => h) (Or.inl ⟨by rfl, fun w' hw' => ?yd5⟩) HH.out ?_
              case yd5 => (have hc := HN2.out w' hw'; go_simp; try with_reducible rfl)
              refine wpAnyH_take (i := 6) (v := ?vd6) rfl (by kernel_rfl) (by kernel_rfl) (by kernel_rfl) (fun _ _ _ h => h) (Or.inl ⟨by rfl, fun w' _ => ?yd6⟩) HH.out ?_
              case yd6 => (go_simp; try with_reducible rfl)
              refine wpAnyH_take (i := 7) (v := ?vd7) rfl (by kernel_rfl) (by kernel_rfl) (by kernel_rfl) (fun _ _ _ h => h) (Or.inl ⟨by rfl, fun w' _ => ?yd7⟩) HH.out ?_
              case yd7 => (go_simp; try with_reducible rfl)
              try simp only [List.getElem_toArray, List.getElem_cons_succ, List.getElem_cons_zero, Act.put, List.setIfInBounds_toArray, List.set_cons_zero, List.set_cons_succ]
              refine wpAnyH_take (i := 8) (v := ?vd8) rfl (by kernel_rfl) (by kernel_rfl) (by kernel_rfl) (fun _ _ _ h => h) (Or.inl ⟨by rfl, fun w' _ => ?yd8⟩) HH.out ?_
              case yd8 => (go_simp; try with_reducible rfl)
              refine wpAnyH_take (i := 9) (v := ?vd9) rfl (by kernel_rfl) (by kernel_rfl) (by kernel_rfl) (fun _ _ _ h => h) (Or.inl ⟨by rfl, fun w' _ => ?yd9⟩) HH.out ?_
              case yd9 => (go_simp; try with_reducible rfl)
              refine wpAnyH_take (i := 10) (v := .int .u8 (x.c.toNat : Int)) rfl (by kernel_rfl) (by kernel_rfl) (by kernel_rfl) (fun _ _ _ h => h) (Or.inl ⟨by rfl, fun w' hw' => ?yd10⟩) HH.out ?_
              case yd10 => (have hc := HN4.out w' hw'; go_simp; try with_reducible rfl)
              try simp only [List.getElem_toArray, List.getElem_cons_succ, List.getElem_cons_zero, Act.put, List.setIfInBounds_toArray, List.set_cons_zero, List.set_cons_succ]
              refine wpAnyH_ready (rs := [11]) (by kernel_rfl) (by simp) (AllReadyH.cons rfl (fun K hK => ?_) AllReadyH.nil)
              go_simp
              refine (sector_any x.c _).mono ?_
              rintro e w21 ⟨rfl, bw⟩
              have H21 := Lib.hid (H.out.drew.below bw)
              have W21 := Lib.hid ((RN.out.below (Below.refl _ _).drew).below bw)
              go_simp
              refine hK.out _ _ (HH.out.trans (bw.mono HH.out.size)) (fun hh => ?_)
              have HH' := Lib.hid hh
              clear hh hK K HH bw H RN
              have HH := Lib.hid HH'.out
              clear HH'
              try simp only [List.getElem_toArray, List.getElem_cons_succ, List.getElem_cons_zero, Act.put, List.setIfInBounds_toArray, List.set_cons_zero, List.set_cons_succ]
              refine wpAnyH_ready (rs := [12]) (by kernel_rfl) (by simp) (AllReadyH.cons rfl (fun K hK => ?_) AllReadyH.nil)
              go_simp
              have hc := (by have h := live_write H21.out 0 (by show 0 < 1; omega) x.n (secC x.c) (secC_length _) (by show wt.length < _; have := HW.out; have := HK.out; have := HNB.out; omega); rw [HWN.out] at h; exact h : Calls Try.prog 23 _ _ (RetL (.int .i64 2) w1 p [g1] (rdS st wt) FF _))
              refine hc.mono ?_
              clear hc
              rintro e w22 ⟨rfl, F22, h, hf22, hb22⟩
              have H22 := Lib.hid (show Live w1 w22 p [g1] (rdS st wt) F22 from h)
              have W22 := Lib.hid (W21.out.step hf22 hb22)
              go_simp
              refine hK.out _ _ (B1.out.trans (H22.out.bel.mono B1.out.size)) (fun hh => ?_)
              have HH' := Lib.hid hh
              clear hh hK K HH h hf22 hb22 H21 W21
              have HH := Lib.hid HH'.out
              clear HH'
              refine wpAnyH_take (i := 13) (v := ?vd13) rfl (by kernel_rfl) (by kernel_rfl) (by kernel_rfl) (fun _ _ _ h => h) (Or.inl ⟨by rfl, fun w' _ => ?yd13⟩) HH.out ?_
              case yd13 => (go_simp; try with_reducible rfl)
              try simp only [List.getElem_toArray, List.getElem_cons_succ, List.getElem_cons_zero, Act.put, List.setIfInBounds_toArray, List.set_cons_zero, List.set_cons_succ]
              refine wpAnyH_done (by kernel_rfl) ?_ _
              clear HH
              have hcn := HN2.out _ (B1.out.trans (H22.out.bel.mono B1.out.size))
              by_cases hng : x.n < 0
              · go_wp2_with fail
                go_roundw
                case rel => exact ⟨k + 1, F22, st, wt, by have := HLT.out; omega, by go_num, HSL.out, by have := HW.out; omega, H22.out, W22.out⟩
                case measure => (have := HLT.out; simp [intOf]; omega)
              · have hge : (M : Int) ≤ x.n := by omega
                go_wp2_with fail
                go_roundw
                case rel => exact ⟨k + 1, F22, st, wt, by have := HLT.out; omega, by go_num, HSL.out, by have := HW.out; omega, H22.out, W22.out⟩
                case measure => (have := HLT.out; simp [intOf]; omega)
          ·
            obtain rfl : k = n := by have := HK.out; omega
            clear hlt
            go_wp2_with fail
            go_ret
            exact ⟨rfl, B1.out.trans (H.out.bel.mono B1.out.size)⟩
theorem deviceReads_own : ownKnob Try.prog.godebug = none := by kernel_rfl
theorem deviceReads_laid : laidOutB Try.prog = true := by kernel_rfl

set_option maxRecDepth 100000 in
theorem deviceReads_lifted (os : Os) (started : os.Started) (H : Type) (enc : TypeId × Value → H) :
    ReturnsInHanded {} Try.checked os 4 .any (Rows.deviceReadsSpec.pre6 enc Try.prog Try.f4 Rows.deviceReadsRow.domain false) (Rows.deviceReadsSpec.post enc Try.prog Try.f4 false true false false) := by
  refine returnsInHanded_of_change (C := Try.checked) deviceReads_own started (by kernel_rfl) Try.func4
    (ChangeSpec.witness6 (enc := enc) (C := Try.checked) false ⟨#[], #[.int .i64 0, .slice none 0 0, .bool false], []⟩ 8 (by kernel_rfl) (by kernel_rfl) (by kernel_rfl) (by kernel_rfl)) ?_
  intro W base args ds gs before hval0 hW _ _
  have hval : ∀ (j : Nat) t v, Try.f4.params[j]? = some t → args[j]? = some v → Value.okWide Try.prog W .any base t v := hval0
  have hW' := hW
  obtain ⟨p, q, hA0, hV, rfl, hfz, hnd⟩ := hW
  have hA : DataW.TrodAll enc Try.prog W 0 (fun _ => true) true Try.f4.params.toList args.toList ds p := hA0
  rw [Try.params4] at hA hval
  obtain ⟨v0, vs0, d0, ds0, p0, q0, hargs, rfl, rfl, h0, r0⟩ := trodAll_cons hA
  obtain ⟨v1, vs1, d1, ds1, p1, q1, rfl, rfl, rfl, h1, r1⟩ := trodAll_cons r0
  obtain ⟨v2, vs2, d2, ds2, p2, q2, rfl, rfl, rfl, h2, r2⟩ := trodAll_cons r1
  obtain ⟨rfl, rfl, rfl⟩ := trodAll_nil r2
  obtain rfl : args = #[v0, v1, v2] := by cases args; simp_all
  obtain ⟨rfl, rfl⟩ := trodVars_none hV
  obtain ⟨a0, rfl, rfl, rfl, w0⟩ := open_int Try.underlying3 (hval 0 3 v0 rfl rfl) h0
  have b0 := bounds_i64 w0
  obtain ⟨a1, n1, c1, rfl⟩ := okWide_slice Try.underlying22 (hval 1 22 v1 rfl rfl)
  have lt1 : ∀ x ∈ p1, x.block < W.heap.size := by obtain ⟨m, hm⟩ := h1; exact DataW.trod_lt m _ _ _ hm
  obtain ⟨l1, hl1, hc1, hm1, hr1, hz1⟩ := open_deeds h1
  obtain ⟨a2, rfl, rfl, rfl⟩ := open_bool Try.underlying4 (hval 2 4 v2 rfl rfl) h2
  clear hA0 hval0
  refine (deviceReads_any W a0 b0 a1 n1 c1 l1 hl1 hc1 hm1 hr1 hz1 a2).mono fun e W' ⟨he, bel⟩ => ?_
  subst he
  exact ⟨_, rfl, _, _, _, [], _, [], hW', trodAll_mk1 (shut_bool Try.underlying4 _), (trodAll_cons_mk (shut_int Try.underlying3 w0) (trodAll_cons_mk (Below.trod deviceReads_laid (by kernel_rfl) (of_decide_eq_true (by kernel_rfl)) h1 bel lt1) (trodAll_cons_mk (shut_bool Try.underlying4 a2) trodAll_mk0))), rfl, bel.frame _, fun h => by cases h⟩

theorem deviceReads_holds : Rows.DeviceReadsSaid :=
  OpenClaim.holds_of_wide 4 Try.f4 rfl rfl rfl rfl rfl rfl rfl ⟨rfl, rfl, rfl, rfl, rfl⟩ rfl rfl rfl rfl rfl (by kernel_rfl) Try.func4 (by kernel_rfl)
    (of_decide_eq_true (by kernel_rfl)) (by unfold Func.isWrapper; rw [if_neg (of_decide_eq_false (by kernel_rfl))]; exact ⟨rfl, rfl⟩)
    (fun os started H enc _ => deviceReads_lifted os started H enc)

#print axioms deviceReads_holds

end Go.Proofs.Ytolbffcbamfbeaa
