/-
  Texts of this seat, one behind the other: KdRFall, KdRFlush, KdRWrite, KdTold, KdRNew, KdBoth, KdBoth2, OpenA.
-/
import Derived.Deep.DeepCutAuto
import Derived.OpenShut
import Derived.ProofKit
import Derived.Test.YtfofkjcdohmkpaaMp2
/-
  The contract of the reference's fall: power fails.
-/
namespace Go.Proofs.Ytfofkjcdohmkpaa.Kd
open Go.RowKit Go.Maps
attribute [local go_sem ↓] Go.wp_at_zero Go.wp_at_succ
theorem rd_ptr {B : Nat} {w : World} {A : Option Addr} {xs : List Nat} (h : Rd B w A (xs.map ptrR)) {k : Nat} (hk : k < xs.length) : ∃ ad, A = some ad ∧ ad.block < B ∧ w.cell? (ad.add k) = some (ptrR (xs.getD k 0)) := by
  obtain ⟨ad, e, hb, hc⟩ := h k (ptrR (xs.getD k 0)) (by rw [List.getElem?_map, List.getElem?_eq_getElem hk, List.getD_eq_getElem?_getD, List.getElem?_eq_getElem hk]; rfl)
  exact ⟨ad, e, hb, hc⟩
theorem info_waitZ : ∃ zw, (∀ W, (zeroValue 128).run Try.prog W = .ok (.agg zw) W) ∧ zw.size = 129 := ⟨wva (0, zeroS), fun _ => by kernel_rfl, wva_size zeroS_length⟩
theorem info_wait : (Try.prog.info? 128).map (·.size) = some 129 := by kernel_rfl
set_option maxRecDepth 100000 in
set_option maxHeartbeats 25600000 in
theorem rfall_sys {w : World} {p : Nat} {xs : List Nat} {S : Sy} {F : Nat → Prop} (h : RSys w p xs S F) (hN : S.ds.length < 1000) (hM : ∀ k, k < S.ds.length → (S.at k).wt.length < 1000000) :
    Calls Try.prog 87 #[.pointer (some ⟨p, 0, none⟩)] w (RetR (.tuple #[]) p xs ⟨⟨true, S.p.left⟩, S.ds.map Dv.fall⟩ F w) := by
  obtain ⟨Fs0, FA0, fc0, h, hF, hl⟩ := h
  obtain ⟨zw, hzw, hzw9⟩ := info_waitZ
  obtain ⟨z, hz0⟩ : ∃ z : List UInt8, z = zeroS := ⟨_, rfl⟩
  have hz : ∀ W, (zeroValue 38).run Try.prog W = .ok (.agg (bva z)) W := fun _ => by rw [hz0]; kernel_rfl
  have HZ3 := Lib.hid (show z.length = 128 by rw [hz0]; exact zeroS_length)
  have HIZ : Hid ((Try.prog.info? 38).map (·.size) = some (bva z).size) := by show _ = _; rw [bva_size, HZ3.out]; exact info_sec
  have HZW9 := Lib.hid hzw9
  have H0 := Lib.hid h
  have HL0 := Lib.hid hl
  have HYtfofkjcdohmkpaa := Lib.hid hN
  have HMM := Lib.hid hM
  have c1 : w.cell? ⟨p, 1, none⟩ = some (.bool S.p.off) := h.pow.blk.cell 1
  have f1 : w.frozen? ⟨p, 1, none⟩ = false := h.pow.blk.free 1
  obtain ⟨wa, hwa⟩ : ∃ wa, wa = w.setCell ⟨p, 1, none⟩ (.bool true) := ⟨_, rfl⟩
  have HA := Lib.hid (show ∃ F', RSys wa p xs ⟨⟨true, S.p.left⟩, S.ds⟩ F' ∧ (∀ q, F' q → F q ∨ w.heap.size ≤ q) ∧ But F w wa from by
    have hbt : But (fun k => k = p) w wa := by rw [hwa]; exact but_one _
    have h1 := h.power (P := ⟨true, S.p.left⟩) hbt (by rw [hwa]; exact blk_setN8 h.pow.blk 1 _) ⟨h.pow.lo, h.pow.hi⟩
    exact h1.fin (N := S.ds.length) (Fs := Fs0) hF hl rfl (fun _ _ _ hq => .inl hq) (hbt.mono (fun q e => hF q (.inl e))))
  have HXL := Lib.hid h.xl
  clear h hN hM hz0 hzw9 hF hl
  go_enter Try.func87, Try.ntmps87
  go_upto_region 1 with fail
  rw [← hwa]
  clear hwa c1 f1
  go_wp2_with fail
  go_loopw [2] (fun i wr => ∃ (k : Nat) (F' : Nat → Prop), k ≤ S.ds.length ∧ i = .int .i64 k ∧ RSys wr p xs ⟨⟨true, S.p.left⟩, fallK k S.ds⟩ F' ∧ (∀ q, F' q → F q ∨ w.heap.size ≤ q) ∧ But F w wr) (fun i _ => S.ds.length - (intOf i).toNat)
  case atStart =>
    obtain ⟨F', h1, h2, h3⟩ := HA.out
    exact ⟨0, F', Nat.zero_le _, rfl, h1, h2, h3⟩
  case round =>
    clear HA
    obtain ⟨k, F1, hk, rfl, hsys, hsub, hbut⟩ := hrel
    have HK := Lib.hid hk
    have HSUB := Lib.hid hsub
    have HBT := Lib.hid hbut
    have HSY := Lib.hid hsys
    obtain ⟨Fs, FA, fc, hR, hF, hl⟩ := hsys
    have HR := Lib.hid hR
    have HF := Lib.hid hF
    have HLT := Lib.hid hl
    have cp := hR.pow.blk.cell 0
    have hxl : xs.length = S.ds.length := HXL.out
    clear hk hsub hbut hR hF hl
    by_cases hlt : k < S.ds.length
    ·
      have hkf : k < (Sy.mk ⟨true, S.p.left⟩ (fallK k S.ds)).ds.length := by show k < (fallK k S.ds).length; rw [fallK_length]; exact hlt
      obtain ⟨A, n, c, W, m, e, hd, hDF⟩ := HR.out.dev k hkf
      obtain ⟨d, hdd⟩ : ∃ d, d = S.at k := ⟨_, rfl⟩
      have hat : (Sy.mk ⟨true, S.p.left⟩ (fallK k S.ds)).at k = d := by rw [hdd]; exact fallK_at hlt
      rw [hat] at hd
      obtain ⟨g, hgg⟩ : ∃ g, g = xs.getD k 0 := ⟨_, rfl⟩
      rw [← hgg] at hd hDF
      obtain ⟨ad, hA, _, hcp⟩ := rd_ptr (Rd.ownN HR.out.pow.row) (k := k) (by rw [hxl]; exact hlt)
      rw [← hgg] at hcp
      subst hA
      have hcpp : wr.cell? (ad.add k) = some (.pointer (some ⟨g, 0, none⟩)) := hcp
      have k0 : (0 : Int) ≤ (k : Int) := by omega
      have k1 : (k : Int) < (S.ds.length : Int) := by omega
      have k2 : (S.ds.length : Int) < 1000 := by have := HYtfofkjcdohmkpaa.out; omega
      have HKF := Lib.hid hkf
      have HD := Lib.hid hd
      have HDF := Lib.hid hDF
      have HDD := Lib.hid hdd
      have HGG := Lib.hid hgg
      have HLK := Lib.hid hlt
      have cp' : wr.cell? ⟨p, 0, none⟩ = some (.slice (some ad) S.ds.length fc) := by rw [← hxl]; exact cp
      have c5 : wr.cell? ⟨g, 5, none⟩ = some (.bool d.gone) := hd.blk.cell 5
      have HML := Lib.hid (show d.wt.length < 1000000 by rw [hdd]; exact HMM.out k hlt)
      clear hat hkf hcp cp hxl hd hDF hgg
      cases hgn : d.gone with
      | true =>
        rw [hgn] at c5
        have hsame : fallK (k + 1) S.ds = fallK k S.ds := by
          rw [fallK_succ hlt]
          have h1 : (S.ds.getD k noDv).fall = (fallK k S.ds).getD k noDv := by
            rw [fallK_at hlt]
            have h2 : S.ds.getD k noDv = d := hdd.symm
            rw [h2]; unfold Dv.fall; rw [if_pos hgn]
          rw [h1]
          exact congrArg Sy.ds (put_at (S := ⟨⟨true, S.p.left⟩, fallK k S.ds⟩) (i := k))
        have HSM := Lib.hid hsame
        clear hsame hlt hdd hgn
        go_wp2_with fail
        go_roundw
        case rel => exact ⟨k + 1, F1, by have := HLK.out; omega, by go_num, by rw [HSM.out]; exact HSY.out, HSUB.out, HBT.out⟩
        case measure => (have := HLK.out; simp [intOf]; omega)
      | false =>
        rw [hgn] at c5
        have HGN := Lib.hid hgn
        clear hgn hlt hdd HSY
        go_wp2_with fail
        go_loopw [4] (fun kk wv => ∃ j : Nat, j ≤ m ∧ kk = .int .i64 j ∧ RdO wv g (d.fell j) A n c W m e ∧ But (fun q => (Value.slice A n c).ownBlock = some q) wr wv) (fun kk _ => m - (intOf kk).toNat)
        case atStart => exact ⟨0, Nat.zero_le _, rfl, by rw [fell_zero]; exact HD.out, But.refl _⟩
        case round =>
          clear HD c5 cp' hcpp
          obtain ⟨j, hj, rfl, hrd, hbtj⟩ := hrel
          have HJ := Lib.hid hj
          have HRJ := Lib.hid hrd
          have HBJ := Lib.hid hbtj
          have hwm : d.wt.length = m := hrd.wtn
          have c1 : wr.cell? ⟨g, 1, none⟩ = some (.slice W m e) := hrd.blk.cell 1
          have f1 : wr.frozen? ⟨g, 1, none⟩ = false := hrd.blk.free 1
          clear hj hrd hbtj
          by_cases hjl : j < m
          ·
            have hjw : j < d.wt.length := by rw [hwm]; exact hjl
            obtain ⟨x, hxe⟩ : ∃ x, x = d.wt[j] := ⟨_, rfl⟩
            obtain ⟨u, s⟩ := x
            have hxo : (d.wt[j]).1 < (d.fell j).st.length ∧ (d.wt[j]).2.length = 128 := HRJ.out.ok.wt _ (List.getElem_mem hjw)
            rw [← hxe] at hxo
            have HUN := Lib.hid (show u < n from by have := hxo.1; rwa [HRJ.out.stn] at this)
            have HS3 := Lib.hid (show s.length = 128 from hxo.2)
            obtain ⟨R, rfl⟩ : ∃ R, W = some ⟨R, 0, none⟩ := by
              rcases own_addr8 HRJ.out.wt with ⟨_, h0, _⟩ | h0
              · omega
              · exact h0
            obtain ⟨G, rfl⟩ : ∃ G, A = some ⟨G, 0, none⟩ := by
              rcases own_addr8 HRJ.out.st with ⟨_, h0, _⟩ | h0
              · have := HUN.out; omega
              · exact h0
            have HCX := Lib.hid (show ∀ jj v, (wv (u, s))[jj]? = some v → wr.cell? ((⟨R, j * 129, none⟩ : Addr).add jj) = some v from by
              have h := HRJ.out.wait8 (j := j) hjw
              have h2 : (d.fell j).wt[j]'hjw = (u, s) := hxe.symm
              rw [h2] at h; exact h)
            have HFS := Lib.hid (show (d.fell (j + 1)).st = (if (j : Int) < d.kept then (d.fell j).st.set u s else if (j : Int) = d.kept then (d.fell j).st.set u (tornL d.bytes s ((d.fell j).st.getD u zeroS)) else (d.fell j).st) from by
              have h := fell_succ (d := d) hjw
              rw [← hxe] at h; exact h)
            have HIW : Hid ((Try.prog.info? 128).map (·.size) = some (wv (u, s)).length) := by show _ = _; rw [wv_length (x := (u, s)) HS3.out]; exact info_wait
            have HIWA : Hid ((Try.prog.info? 128).map (·.size) = some (wva (u, s)).size) := by show _ = _; rw [wva_size (x := (u, s)) HS3.out]; exact info_wait
            have HIS : Hid ((Try.prog.info? 38).map (·.size) = some (bva s).size) := by show _ = _; rw [bva_size, HS3.out]; exact info_sec
            have HISL : Hid ((Try.prog.info? 38).map (·.size) = some (bv s).length) := by show _ = _; rw [bv_length, HS3.out]; exact info_sec
            have HSZ := Lib.hid (show zw.size = (wva (u, s)).size by rw [HZW9.out, wva_size (x := (u, s)) HS3.out])
            have HB0 := Lib.hid (show Blk (wr.alloc (.cells zw 128)) wr.heap.size zw 128 from heap_alloc_new _ _)
            have j0 : (0 : Int) ≤ (j : Int) := by omega
            have j1 : (j : Int) < (m : Int) := by omega
            have j2 : (m : Int) < 1000000 := by have := HML.out; omega
            have HJT := Lib.hid hjl
            clear hjw hxe hxo hwm hjl
            go_wp2_with (show wpList _ _ _ ({ dst := some 46, op := .load 128 (.tmp 45), type := _, pos := _, after := _, guard := _ } :: _) _ _; apply Classical.byContradiction; intro hneg)
            refine hneg ?_
            clear hneg
            refine wpList_load_at rfl 128 (.tmp 45) rfl (⟨R, j * 129, none⟩ : Addr) rfl HCX.out Try.underlying128 rfl HIW.out ?_
            change wpList _ _ _ _ (Act.put _ _ (.agg (wva (u, s)))) _
            go_wp2_with (show wpList _ _ _ ({ dst := none, op := .store 128 (.tmp 5) (.tmp 46), type := _, pos := _, after := _, guard := _ } :: _) _ _; apply Classical.byContradiction; intro hneg)
            refine hneg ?_
            clear hneg
            refine wpList_store_row rfl 128 (.tmp 5) (.tmp 46) rfl wr.heap.size (wva (u, s)) rfl rfl 128 zw HB0.out HIWA.out HSZ.out (wva_one _) ?_
            obtain ⟨wb, hwb⟩ : ∃ wb, wb = (wr.alloc (.cells zw 128)).setRow wr.heap.size (wva (u, s)) := ⟨_, rfl⟩
            have HV := Lib.hid (show Blk wb wr.heap.size (wva (u, s)) 128 from by rw [hwb]; exact setRow_heap _ _ _ _ _ _ HB0.out)
            have BB := Lib.hid (show Below wr.heap.size wr wb from by rw [hwb]; exact below_setRow ((Below.refl _ _).alloc (Nat.le_refl _) _) (Nat.le_refl _) _)
            rw [← hwb]
            clear hwb HB0 c1 f1
            have HRB := Lib.hid (HRJ.out.below BB.out)
            have c2 : wb.cell? ⟨g, 2, none⟩ = some (.int .i64 d.kept) := HRB.out.blk.cell 2
            have HGW := Lib.hid (show ¬ (Value.slice (some ⟨G, 0, none⟩) n c).ownBlock = some wr.heap.size from fun hq => by have := (HRJ.out.st.lt _ hq).2; omega)
            have HBB0 := Lib.hid (show But (fun q => (Value.slice (some ⟨G, 0, none⟩) n c).ownBlock = some q) wr wb from But.of_below BB.out (fun q h1 h2 => absurd h1 (by omega)))
            have cw0 : (wva (u, s))[0]? = some (.int .i64 (u : Int)) := rfl
            have HWS := Lib.hid (show ∀ w', Blk w' wr.heap.size (wva (u, s)) 128 → ∀ jj v, (bv s)[jj]? = some v → w'.cell? ((⟨wr.heap.size, 1, none⟩ : Addr).add jj) = some v from fun w' hb jj v hv => by
              rw [Addr.add_mid, hb.cell, wva, List.getElem?_toArray, wv, Nat.add_comm 1 jj, List.getElem?_cons_succ]; exact hv)
            clear cw0
            have x0 : (0 : Int) ≤ (u : Int) := by omega
            have x1 : (u : Int) < (n : Int) := by have := HUN.out; omega
            by_cases hk1 : (j : Int) < d.kept
            ·
              have hk2 : ¬ (j : Int) = d.kept := by omega
              have HK1 := Lib.hid hk1
              go_upto_region 11 with fail
              refine wp_region_held_drew (S := fun w' => w'.cell? ⟨g, 0, none⟩ = some (.slice (some ⟨G, 0, none⟩) n c) ∧ Blk w' wr.heap.size (wva (u, s)) 128) (by kernel_rfl) ⟨(HRB.out.below (Below.refl _ _).drew).blk.cell 0, HV.out.below (Below.refl _ _).drew⟩ (fun hh => ?_)
              have HH := Lib.hid hh
              clear hh
              refine wpAnyH_take (i := 0) (v := ?va0) rfl (by kernel_rfl) (by kernel_rfl) (by kernel_rfl) (fun _ _ _ h => h) (Or.inl ⟨by rfl, fun w' _ => ?ya0⟩) HH.out ?_
              case ya0 => (go_simp; try with_reducible rfl)
              refine wpAnyH_take (i := 1) (v := ?va1) rfl (by kernel_rfl) (by kernel_rfl) (by kernel_rfl) (fun _ _ _ h => h) (Or.inl ⟨by rfl, fun w' _ => ?ya1⟩) HH.out ?_
              case ya1 => (go_simp; try with_reducible rfl)
              try simp only [List.getElem_toArray, List.getElem_cons_succ, List.getElem_cons_zero, Act.put, List.setIfInBounds_toArray, List.set_cons_zero, List.set_cons_succ]
              refine wpAnyH_take (i := 2) (v := ?va2) rfl (by kernel_rfl) (by kernel_rfl) (by kernel_rfl) (fun _ _ _ h => h) (Or.inl ⟨by rfl, fun w' _ => ?ya2⟩) HH.out ?_
              case ya2 => (go_simp; try with_reducible rfl)
              refine wpAnyH_take (i := 3) (v := .slice (some ⟨G, 0, none⟩) n c) rfl (by kernel_rfl) (by kernel_rfl) (by kernel_rfl) (fun _ _ _ h => h) (Or.inl ⟨by rfl, fun w' hw' => ?ya3⟩) HH.out ?_
              case ya3 => (have hc := hw'.1; go_simp; try with_reducible rfl)
              refine wpAnyH_take (i := 4) (v := ?va4) rfl (by kernel_rfl) (by kernel_rfl) (by kernel_rfl) (fun _ _ _ h => h) (Or.inl ⟨by rfl, fun w' _ => ?ya4⟩) HH.out ?_
              case ya4 => (go_simp; try with_reducible rfl)
              try simp only [List.getElem_toArray, List.getElem_cons_succ, List.getElem_cons_zero, Act.put, List.setIfInBounds_toArray, List.set_cons_zero, List.set_cons_succ]
              refine wpAnyH_take (i := 5) (v := .int .i64 (u : Int)) rfl (by kernel_rfl) (by kernel_rfl) (by kernel_rfl) (fun _ _ _ h => h) (Or.inl ⟨by rfl, fun w' hw' => ?ya5⟩) HH.out ?_
              case ya5 => (have hc : w'.cell? ⟨wr.heap.size, 0, none⟩ = some (.int .i64 (u : Int)) := hw'.2.cell 0; go_simp; try with_reducible rfl)
              refine wpAnyH_take (i := 6) (v := ?va6) rfl (by kernel_rfl) (by kernel_rfl) (by kernel_rfl) (fun _ _ _ h => h) (Or.inl ⟨by rfl, fun w' _ => ?ya6⟩) HH.out ?_
              case ya6 => (go_simp; try with_reducible rfl)
              refine wpAnyH_take (i := 7) (v := .agg (bva s)) rfl (by kernel_rfl) (by kernel_rfl) (by kernel_rfl) (fun _ _ _ h => h) (Or.inl ⟨by rfl, fun w' hw' => ?ya7⟩) HH.out ?_
              case ya7 => exact exec_load_at 38 (.tmp 59) rfl (⟨wr.heap.size, 1, none⟩ : Addr) rfl (HWS.out w' hw'.2) Try.underlying38 rfl HISL.out
              try simp only [List.getElem_toArray, List.getElem_cons_succ, List.getElem_cons_zero, Act.put, List.setIfInBounds_toArray, List.set_cons_zero, List.set_cons_succ]
              refine wpAnyH_take (i := 8) (v := ?va8) rfl (by kernel_rfl) (by kernel_rfl) (by kernel_rfl) (fun _ _ _ h => h) (Or.inl ⟨by rfl, fun w' _ => ?ya8⟩) HH.out ?_
              case ya8 => (go_simp; try with_reducible rfl)
              refine wpAnyH_ready (rs := [9]) (by kernel_rfl) (by simp) (AllReadyH.cons rfl (fun K hK => ?_) AllReadyH.nil)
              refine step_wp8 (by rfl) ?_
              have HDR := Lib.hid (HRB.out.below (Below.refl _ _).drew)
              have HSET := Lib.hid (HDR.out.set8 HUN.out HS3.out)
              refine wp_store_mid 38 (.tmp 61) (.tmp 60) rfl G (u * 128) (bva s) rfl rfl HSET.out.2.2 HIS.out (bva_one _) ?_
              change K _ (World.setCells wb.drew G (u * 128) (bv s))
              obtain ⟨wv, hwv⟩ : ∃ wv, wv = World.setCells wb.drew G (u * 128) (bv s) := ⟨_, rfl⟩
              have HSV := Lib.hid HSET.out.1
              have HSB := Lib.hid HSET.out.2.1
              rw [← hwv] at HSV HSB ⊢
              clear hwv HSET HDR
              refine hK.out _ _ ⟨HSV.out.blk.cell 0, (HV.out.below (Below.refl _ _).drew).but HSB.out HGW.out⟩ (fun hh => ?_)
              clear hh hK K HH
              try simp only [List.getElem_toArray, List.getElem_cons_succ, List.getElem_cons_zero, Act.put, List.setIfInBounds_toArray, List.set_cons_zero, List.set_cons_succ]
              refine wpAnyH_done (by kernel_rfl) ?_ _
              have HFN := Lib.hid (fell_st d _ j ((HFS.out).trans (if_pos HK1.out)))
              have c2v : wv.cell? ⟨g, 2, none⟩ = some (.int .i64 d.kept) := HSV.out.blk.cell 2
              clear c2
              go_wp2_with fail
              go_roundw
              case rel => exact ⟨j + 1, by have := HJT.out; omega, by go_num, by rw [HFN.out]; exact HSV.out, HBJ.out.trans (HBB0.out.drew.trans HSB.out)⟩
              case measure => (have := HJT.out; simp [intOf]; omega)
            · by_cases hk2 : (j : Int) = d.kept
              ·
                have HK1 := Lib.hid hk1
                have HK2 := Lib.hid hk2
                have hk3 : d.kept = (j : Int) := hk2.symm
                clear hk2
                obtain ⟨y, hy⟩ : ∃ y, y = (d.fell j).st.getD u zeroS := ⟨_, rfl⟩
                have HYE := Lib.hid hy
                have hul : u < (d.fell j).st.length := by rw [HRB.out.stn]; exact HUN.out
                have HY3 := Lib.hid (show y.length = 128 by rw [hy]; exact getD_ok HRB.out.ok.st u)
                have hye : (d.fell j).st[u] = y := by rw [hy, List.getD_eq_getElem?_getD, List.getElem?_eq_getElem hul]; rfl
                have HIY : Hid ((Try.prog.info? 38).map (·.size) = some (bva y).size) := by show _ = _; rw [bva_size, HY3.out]; exact info_sec
                have HIYL : Hid ((Try.prog.info? 38).map (·.size) = some (bv y).length) := by show _ = _; rw [bv_length, HY3.out]; exact info_sec
                have HCE := Lib.hid (show ∀ w', Below wb.heap.size wb w' → ∀ jj v, (bv y)[jj]? = some v → w'.cell? ((⟨G, u * 128, none⟩ : Addr).add jj) = some v from fun w' hb jj v hv => by
                  obtain ⟨ad', hA', _, hc'⟩ := rd_sec ((Rd.ownN HRB.out.st).below hb) HRB.out.ok.st hul
                  injection hA' with hA'; subst hA'
                  have h := hc' jj v (by rw [hye]; exact hv)
                  rwa [show (⟨G, 0, none⟩ : Addr).add (u * 128) = ⟨G, u * 128, none⟩ by rw [Addr.add_mid, Nat.zero_add]] at h)
                have HSZ6 := Lib.hid (show (bva z).size = (bva y).size by rw [bva_size, bva_size, HZ3.out, HY3.out])
                obtain ⟨bN, hbN⟩ := Int.eq_ofNat_of_zero_le HRB.out.ok.bytes.1
                have hbN : d.bytes = (bN : Int) := hbN
                have HBN := Lib.hid hbN
                have HB128 := Lib.hid (show bN ≤ 128 from by have h : d.bytes ≤ 128 := HRB.out.ok.bytes.2; omega)
                clear hy hul hye hbN
                go_upto_region 13 with fail
                refine wp_region_held_drew (S := fun w' => Below wb.heap.size wb w') (by kernel_rfl) (Below.refl _ _).drew (fun hh => ?_)
                have HH := Lib.hid hh
                clear hh
                refine wpAnyH_take (i := 0) (v := ?vb0) rfl (by kernel_rfl) (by kernel_rfl) (by kernel_rfl) (fun _ _ _ h => h) (Or.inl ⟨by rfl, fun w' _ => ?yb0⟩) HH.out ?_
                case yb0 => (go_simp; try with_reducible rfl)
                refine wpAnyH_take (i := 1) (v := ?vb1) rfl (by kernel_rfl) (by kernel_rfl) (by kernel_rfl) (fun _ _ _ h => h) (Or.inl ⟨by rfl, fun w' _ => ?yb1⟩) HH.out ?_
                case yb1 => (go_simp; try with_reducible rfl)
                try simp only [List.getElem_toArray, List.getElem_cons_succ, List.getElem_cons_zero, Act.put, List.setIfInBounds_toArray, List.set_cons_zero, List.set_cons_succ]
                refine wpAnyH_take (i := 2) (v := ?vb2) rfl (by kernel_rfl) (by kernel_rfl) (by kernel_rfl) (fun _ _ _ h => h) (Or.inl ⟨by rfl, fun w' _ => ?yb2⟩) HH.out ?_
                case yb2 => (go_simp; try with_reducible rfl)
                refine wpAnyH_take (i := 3) (v := .slice (some ⟨G, 0, none⟩) n c) rfl (by kernel_rfl) (by kernel_rfl) (by kernel_rfl) (fun _ _ _ h => h) (Or.inl ⟨by rfl, fun w' hw' => ?yb3⟩) HH.out ?_
                case yb3 => (have hc : w'.cell? ⟨g, 0, none⟩ = some (.slice (some ⟨G, 0, none⟩) n c) := (HRB.out.blk.below hw').cell 0; go_simp; try with_reducible rfl)
                refine wpAnyH_take (i := 4) (v := ?vb4) rfl (by kernel_rfl) (by kernel_rfl) (by kernel_rfl) (fun _ _ _ h => h) (Or.inl ⟨by rfl, fun w' _ => ?yb4⟩) HH.out ?_
                case yb4 => (go_simp; try with_reducible rfl)
                try simp only [List.getElem_toArray, List.getElem_cons_succ, List.getElem_cons_zero, Act.put, List.setIfInBounds_toArray, List.set_cons_zero, List.set_cons_succ]
                refine wpAnyH_take (i := 5) (v := .int .i64 (u : Int)) rfl (by kernel_rfl) (by kernel_rfl) (by kernel_rfl) (fun _ _ _ h => h) (Or.inl ⟨by rfl, fun w' hw' => ?yb5⟩) HH.out ?_
                case yb5 => (have hc : w'.cell? ⟨wr.heap.size, 0, none⟩ = some (.int .i64 (u : Int)) := (HV.out.below hw').cell 0; go_simp; try with_reducible rfl)
                refine wpAnyH_take (i := 6) (v := ?vb6) rfl (by kernel_rfl) (by kernel_rfl) (by kernel_rfl) (fun _ _ _ h => h) (Or.inl ⟨by rfl, fun w' _ => ?yb6⟩) HH.out ?_
                case yb6 => (go_simp; try with_reducible rfl)
                refine wpAnyH_take (i := 7) (v := .agg (bva y)) rfl (by kernel_rfl) (by kernel_rfl) (by kernel_rfl) (fun _ _ _ h => h) (Or.inl ⟨by rfl, fun w' hw' => ?yb7⟩) HH.out ?_
                case yb7 => exact exec_load_at 38 (.tmp 74) rfl (⟨G, u * 128, none⟩ : Addr) rfl (HCE.out w' hw') Try.underlying38 rfl HIYL.out
                try simp only [List.getElem_toArray, List.getElem_cons_succ, List.getElem_cons_zero, Act.put, List.setIfInBounds_toArray, List.set_cons_zero, List.set_cons_succ]
                refine wpAnyH_ready (rs := [8]) (by kernel_rfl) (by simp) (AllReadyH.cons rfl (fun K hK => ?_) AllReadyH.nil)
                go_simp
                have HN6 := Lib.hid (show Blk (wb.drew.alloc (.cells (bva z) 38)) wb.heap.size (bva z) 38 from heap_alloc_new _ _)
                refine hK.out _ _ ((Below.refl _ _).drew.alloc (Nat.le_refl _) _) (fun hh => ?_)
                clear hh hK K
                refine wpAnyH_ready (rs := [9]) (by kernel_rfl) (by simp) (AllReadyH.cons rfl (fun K hK => ?_) AllReadyH.nil)
                refine step_wp8 (by rfl) ?_
                refine wp_store_row 38 (.tmp 6) (.tmp 75) rfl wb.heap.size (bva y) rfl rfl 38 (bva z) HN6.out HIY.out HSZ6.out (bva_one _) ?_
                obtain ⟨wc, hwc⟩ : ∃ wc, wc = (wb.drew.alloc (.cells (bva z) 38)).setRow wb.heap.size (bva y) := ⟨_, rfl⟩
                have HV6 := Lib.hid (show Blk wc wb.heap.size (bva y) 38 from by rw [hwc]; exact setRow_heap _ _ _ _ _ _ HN6.out)
                have BC := Lib.hid (show Below wb.heap.size wb wc from by rw [hwc]; exact below_setRow ((Below.refl _ _).drew.alloc (Nat.le_refl _) _) (Nat.le_refl _) _)
                change K _ ((wb.drew.alloc (.cells (bva z) 38)).setRow wb.heap.size (bva y))
                rw [← hwc]
                clear hwc HN6
                refine hK.out _ _ BC.out (fun hh => ?_)
                clear hh hK K HH
                refine wpAnyH_done (by kernel_rfl) ?_ _
                have HVC := Lib.hid (HV.out.below BC.out)
                have HRC := Lib.hid (HRB.out.below BC.out)
                have HN65 := Lib.hid (show wr.heap.size < wb.heap.size from HV.out.lt)
                have HRL := Lib.hid (HRB.out.lt)
                have HBC0 := Lib.hid (show But (fun q => (Value.slice (some ⟨G, 0, none⟩) n c).ownBlock = some q) wb wc from But.of_below BC.out (fun q h1 h2 => absurd h1 (by omega)))
                obtain ⟨b5, hb5⟩ : ∃ b5, b5 = wr.heap.size := ⟨_, rfl⟩
                obtain ⟨b6, hb6⟩ : ∃ b6, b6 = wb.heap.size := ⟨_, rfl⟩
                rw [← hb5] at HV HVC HWS HN65 HGW ⊢
                rw [← hb6] at HV6 HN65 ⊢
                have HB6 := Lib.hid hb6
                obtain ⟨wo, hwo⟩ : ∃ wo, wo = wc := ⟨_, rfl⟩
                rw [← hwo] at HVC HRC HV6 HBC0 BC ⊢
                clear hwo hb6 hb5 c2
                go_wp2_with fail
                go_loopw [7] (fun i w3 => ∃ t : Nat, t ≤ bN ∧ i = .int .i64 t ∧ Blk w3 b6 (bva (tornL (t : Int) s y)) 38 ∧ But (fun q => q = b6) wo w3) (fun i _ => bN - (intOf i).toNat)
                case atStart => exact ⟨0, Nat.zero_le _, rfl, by rw [show ((0 : Nat) : Int) = 0 from rfl, torn_zero]; exact HV6.out, But.refl _⟩
                case round =>
                  obtain ⟨t, ht, rfl, hv6, hbt6⟩ := hrel
                  have HT6 := Lib.hid ht
                  have HV7 := Lib.hid hv6
                  have HB7 := Lib.hid hbt6
                  have HR7 := Lib.hid (HRC.out.but hbt6 (fun q hq e => by have := HRL.out q hq; have := HB6.out; omega))
                  have HW7 := Lib.hid (HVC.out.but hbt6 (by have := HN65.out; omega))
                  have c3 : wr.cell? ⟨g, 3, none⟩ = some (.int .i64 (bN : Int)) := by have h := HR7.out.blk.cell 3; rw [← HBN.out]; exact h
                  clear ht hv6 hbt6
                  by_cases hlt : t < bN
                  · have HTL := Lib.hid hlt
                    have t0 : (0 : Int) ≤ (t : Int) := by omega
                    have t1 : (t : Int) < (bN : Int) := by omega
                    have t2 : (t : Int) < 128 := by have := HB128.out; omega
                    have hts : t < s.length := by rw [HS3.out]; omega
                    obtain ⟨b, hb⟩ : ∃ b, b = s.getD t 0 := ⟨_, rfl⟩
                    have hcb : wr.cell? ⟨b5, 1 + t, none⟩ = some (.int .u8 (b.toNat : Int)) := by
                      have h := HWS.out wr HW7.out t (.int .u8 (b.toNat : Int)) (by rw [bv, List.getElem?_map, List.getElem?_eq_getElem hts, hb, List.getD_eq_getElem?_getD, List.getElem?_eq_getElem hts]; rfl)
                      rwa [Addr.add_mid] at h
                    have f6 := HV7.out.free t
                    have d6 := HV7.out.cellb (k := t) (by rw [torn_length HS3.out HY3.out (by omega)]; omega)
                    have HSB := Lib.hid (show Blk (wr.setCell ⟨b6, t, none⟩ (.int .u8 (b.toNat : Int))) b6 (bva (tornL ((t + 1 : Nat) : Int) s y)) 38 from by have h := HV7.out.setb t b rfl; rwa [show (tornL (t : Int) s y).set t b = tornL ((t + 1 : Nat) : Int) s y from by rw [hb]; exact torn_set8 (by omega) HS3.out HY3.out] at h)
                    have HSE := Lib.hid (show But (fun q => q = b6) wo (wr.setCell ⟨b6, t, none⟩ (.int .u8 (b.toNat : Int))) from HB7.out.trans (but_one _))
                    clear hlt hts hb hk1 hk3
                    go_wp2_with fail
                    go_roundw
                    case rel => exact ⟨t + 1, by have := HTL.out; omega, by go_num, HSB.out, HSE.out⟩
                    case measure => (have := HTL.out; simp [intOf]; omega)
                  ·
                    obtain rfl : t = bN := by have := HT6.out; omega
                    clear hlt
                    have HX3 := Lib.hid (show (tornL (t : Int) s y).length = 128 from torn_length HS3.out HY3.out (by have := HB128.out; omega))
                    obtain ⟨sx, hsx⟩ : ∃ sx, sx = tornL (t : Int) s y := ⟨_, rfl⟩
                    have HSX := Lib.hid hsx
                    rw [← hsx] at HX3 HV7
                    have HIX : Hid ((Try.prog.info? 38).map (·.size) = some (bva sx).size) := by show _ = _; rw [bva_size, HX3.out]; exact info_sec
                    clear hsx
                    go_upto_region 18 with fail
                    refine wp_region_held_drew (S := fun w' => w'.cell? ⟨g, 0, none⟩ = some (.slice (some ⟨G, 0, none⟩) n c) ∧ Blk w' b5 (wva (u, s)) 128 ∧ Blk w' b6 (bva sx) 38) (by kernel_rfl) ⟨HR7.out.blk.cell 0, HW7.out.below (Below.refl _ _).drew, HV7.out.below (Below.refl _ _).drew⟩ (fun hh => ?_)
                    have HH := Lib.hid hh
                    clear hh
                    refine wpAnyH_take (i := 0) (v := ?vd0) rfl (by kernel_rfl) (by kernel_rfl) (by kernel_rfl) (fun _ _ _ h => h) (Or.inl ⟨by rfl, fun w' _ => ?yd0⟩) HH.out ?_
                    case yd0 => (go_simp; try with_reducible rfl)
                    refine wpAnyH_take (i := 1) (v := ?vd1) rfl (by kernel_rfl) (by kernel_rfl) (by kernel_rfl) (fun _ _ _ h => h) (Or.inl ⟨by rfl, fun w' _ => ?yd1⟩) HH.out ?_
                    case yd1 => (go_simp; try with_reducible rfl)
                    try simp only [List.getElem_toArray, List.getElem_cons_succ, List.getElem_cons_zero, Act.put, List.setIfInBounds_toArray, List.set_cons_zero, List.set_cons_succ]
                    refine wpAnyH_take (i := 2) (v := ?vd2) rfl (by kernel_rfl) (by kernel_rfl) (by kernel_rfl) (fun _ _ _ h => h) (Or.inl ⟨by rfl, fun w' _ => ?yd2⟩) HH.out ?_
                    case yd2 => (go_simp; try with_reducible rfl)
                    refine wpAnyH_take (i := 3) (v := .slice (some ⟨G, 0, none⟩) n c) rfl (by kernel_rfl) (by kernel_rfl) (by kernel_rfl) (fun _ _ _ h => h) (Or.inl ⟨by rfl, fun w' hw' => ?yd3⟩) HH.out ?_
                    case yd3 => (have hc := hw'.1; go_simp; try with_reducible rfl)
                    refine wpAnyH_take (i := 4) (v := ?vd4) rfl (by kernel_rfl) (by kernel_rfl) (by kernel_rfl) (fun _ _ _ h => h) (Or.inl ⟨by rfl, fun w' _ => ?yd4⟩) HH.out ?_
                    case yd4 => (go_simp; try with_reducible rfl)
                    try simp only [List.getElem_toArray, List.getElem_cons_succ, List.getElem_cons_zero, Act.put, List.setIfInBounds_toArray, List.set_cons_zero, List.set_cons_succ]
                    refine wpAnyH_take (i := 5) (v := .int .i64 (u : Int)) rfl (by kernel_rfl) (by kernel_rfl) (by kernel_rfl) (fun _ _ _ h => h) (Or.inl ⟨by rfl, fun w' hw' => ?yd5⟩) HH.out ?_
                    case yd5 => (have hc : w'.cell? ⟨b5, 0, none⟩ = some (.int .i64 (u : Int)) := hw'.2.1.cell 0; go_simp; try with_reducible rfl)
                    refine wpAnyH_take (i := 6) (v := .agg (bva sx)) rfl (by kernel_rfl) (by kernel_rfl) (by kernel_rfl) (fun _ _ _ h => h) (Or.inl ⟨by rfl, fun w' hw' => ?yd6⟩) HH.out ?_
                    case yd6 => exact exec_load 38 (.tmp 6) rfl rfl hw'.2.2 Try.underlying38 rfl HIX.out
                    refine wpAnyH_take (i := 7) (v := ?vd7) rfl (by kernel_rfl) (by kernel_rfl) (by kernel_rfl) (fun _ _ _ h => h) (Or.inl ⟨by rfl, fun w' _ => ?yd7⟩) HH.out ?_
                    case yd7 => (go_simp; try with_reducible rfl)
                    try simp only [List.getElem_toArray, List.getElem_cons_succ, List.getElem_cons_zero, Act.put, List.setIfInBounds_toArray, List.set_cons_zero, List.set_cons_succ]
                    refine wpAnyH_ready (rs := [8]) (by kernel_rfl) (by simp) (AllReadyH.cons rfl (fun K hK => ?_) AllReadyH.nil)
                    refine step_wp8 (by rfl) ?_
                    have HDR := Lib.hid (HR7.out.below (Below.refl _ _).drew)
                    have HSET := Lib.hid (HDR.out.set8 HUN.out HX3.out)
                    have HG6 := Lib.hid (show ¬ (Value.slice (some ⟨G, 0, none⟩) n c).ownBlock = some b6 from fun hq => by have := HRL.out b6 (.inr (.inl hq)); have := HB6.out; omega)
                    refine wp_store_mid 38 (.tmp 97) (.tmp 96) rfl G (u * 128) (bva sx) rfl rfl HSET.out.2.2 HIX.out (bva_one _) ?_
                    change K _ (World.setCells wr.drew G (u * 128) (bv sx))
                    obtain ⟨wv, hwv⟩ : ∃ wv, wv = World.setCells wr.drew G (u * 128) (bv sx) := ⟨_, rfl⟩
                    have HSV := Lib.hid HSET.out.1
                    have HSB := Lib.hid HSET.out.2.1
                    rw [← hwv] at HSV HSB ⊢
                    clear hwv HSET HDR
                    refine hK.out _ _ ⟨HSV.out.blk.cell 0, (HW7.out.below (Below.refl _ _).drew).but HSB.out HGW.out, (HV7.out.below (Below.refl _ _).drew).but HSB.out HG6.out⟩ (fun hh => ?_)
                    clear hh hK K HH HG6
                    refine wpAnyH_done (by kernel_rfl) ?_ _
                    have HB3 := Lib.hid (but_step HBC0.out HB7.out (fun q e => .inr (by rw [e, HB6.out]; exact Nat.le_refl _)))
                    have HSE := Lib.hid (show sx = tornL d.bytes s ((d.fell j).st.getD u zeroS) from by rw [HSX.out, ← HYE.out, HBN.out])
                    have HFN := Lib.hid (fell_st d _ j ((HFS.out).trans ((if_neg (by have := HK1.out; omega)).trans (if_pos HK2.out))))
                    go_wp2_with fail
                    go_roundw
                    case rel => exact ⟨j + 1, by have := HJT.out; omega, by go_num, by rw [HFN.out, ← HSE.out]; exact HSV.out, HBJ.out.trans (HBB0.out.trans (HB3.out.drew.trans HSB.out))⟩
                    case measure => (have := HJT.out; simp [intOf]; omega)
              ·
                have HFN := Lib.hid (fell_st d _ j ((HFS.out).trans ((if_neg hk1).trans (if_neg hk2))))
                have e1 : decide ((j : Int) < d.kept) = false := decide_eq_false hk1
                have e2 : ((j : Int) == d.kept) = false := beq_eq_false_iff_ne.2 hk2
                clear hk1 hk2
                go_upto_region 12 with fail
                trace_state
                go_wp2_with fail
                go_roundw
                case rel => exact ⟨j + 1, by have := HJT.out; omega, by go_num, by rw [HFN.out]; exact HRB.out, HBJ.out.trans HBB0.out⟩
                case measure => (have := HJT.out; simp [intOf]; omega)
          ·
            obtain rfl : j = m := by have := HJ.out; omega
            have hfa : d.fall = { d.fell j with wt := [] } := by rw [← hwm]; exact fell_all HGN.out
            obtain ⟨wz, hwz⟩ : ∃ wz, wz = wr.setCell ⟨g, 1, none⟩ (.slice none 0 0) := ⟨_, rfl⟩
            have hbz : But (fun q => q = g) wr wz := by rw [hwz]; exact but_one _
            have HDZ := Lib.hid (show RdO wz g d.fall A n c none 0 0 from by
              rw [hfa]
              exact ⟨by rw [hwz]; exact blk_setN8 HRJ.out.blk 1 _, Own.but HRJ.out.st hbz (fun q hq => HRJ.out.apart.1 q hq), ⟨rfl, .inl ⟨rfl, rfl⟩⟩, HRJ.out.stn, rfl, ⟨HRJ.out.ok.st, fun x hx => absurd hx List.not_mem_nil, HRJ.out.ok.kept, HRJ.out.ok.bytes, HRJ.out.ok.len⟩, fun _ => rfl⟩)
            have hbk := (HBJ.out.mono (T := Fs k) (fun q hq => HDF.out q (.inr (.inl hq)))).trans (hbz.mono (T := Fs k) (fun q e => HDF.out q (.inl e)))
            have hret := HR.out.ret HF.out HLT.out HKF.out hbk (d := d.fall) (by rw [← HGG.out]; exact ⟨A, n, c, none, 0, 0, HDZ.out, by
              rintro q (h1 | h1 | h1)
              · exact .inl (HDF.out q (.inl h1))
              · exact .inl (HDF.out q (.inr (.inl h1)))
              · cases h1⟩)
            have HRT := Lib.hid hret
            have HZK := Lib.hid (show (Sy.mk ⟨true, S.p.left⟩ (fallK k S.ds)).put k d.fall = ⟨⟨true, S.p.left⟩, fallK (k + 1) S.ds⟩ from by
              rw [fallK_succ HLK.out]
              have h2 : S.ds.getD k noDv = d := HDD.out.symm
              rw [h2]; rfl)
            clear hret hbk hbz hfa hwm hjl
            go_upto_region 8 with fail
            rw [← hwz]
            clear hwz
            go_wp2_with fail
            go_roundw
            case rel =>
              obtain ⟨F2, h1, h2, h3⟩ := HRT.out
              rw [HZK.out] at h1
              exact ⟨k + 1, F2, by have := HLK.out; omega, by go_num, h1, fun q hq => (h2 q hq).elim (HSUB.out q) (fun h => .inr (Nat.le_trans HBT.out.size h)), but_step HBT.out h3 (fun q hq => HSUB.out q hq)⟩
            case measure => (have := HLK.out; simp [intOf]; omega)
    · obtain rfl : k = S.ds.length := by have := HK.out; omega
      go_wp2_with fail
      exact bodyPost_end (results_none Try.results87 _ _ _) rfl ⟨rfl, F1, by rw [← fallK_all (Nat.le_refl _)]; exact HSY.out, HSUB.out, HBT.out⟩
end Go.Proofs.Ytfofkjcdohmkpaa.Kd
/-
  The contract of the reference's Flush.
-/
namespace Go.Proofs.Ytfofkjcdohmkpaa.Kd
open Go.RowKit Go.Maps
attribute [local go_sem ↓] Go.wp_at_zero Go.wp_at_succ
/-- The first j of the writes that wait, stable. -/
def Dv.done (d : Dv) (j : Nat) : Dv := { d with st := flushL d.st (d.wt.take j) }
theorem done_zero (d : Dv) : d.done 0 = d := rfl
theorem done_succ {d : Dv} {j : Nat} (hj : j < d.wt.length) {u : Nat} {s : List UInt8} (hx : d.wt[j] = (u, s)) : d.done (j + 1) = { d.done j with st := (d.done j).st.set u s } := by
  unfold Dv.done
  rw [List.take_succ_eq_append_getElem hj, flushL, List.foldl_append, hx]; rfl
/-- Power, counted. -/
theorem step_fails {P : Pw} (h : P.fails = true) : P.step = ⟨true, -1⟩ ∧ leftN P.left = -1 ∧ P.left = 0 := by
  unfold Pw.fails at h
  simp only [Bool.and_eq_true, decide_eq_true_eq] at h
  have h0 : P.left = 0 := by omega
  unfold Pw.step leftN
  rw [h0]
  exact ⟨rfl, rfl, rfl⟩
theorem step_well {P : Pw} (h : P.fails = false) (ho : P.off = false) : P.step = ⟨false, leftN P.left⟩ := by
  unfold Pw.fails at h
  unfold Pw.step leftN
  by_cases h1 : P.left < 0
  · rw [if_pos h1, if_pos h1, ← ho]
  · rw [if_neg h1, if_neg h1]
    have h2 : ¬ (P.left - 1 < 0) := fun e => by
      rw [decide_eq_true (show 0 ≤ P.left by omega), decide_eq_true e] at h; cases h
    rw [decide_eq_false h2]
theorem fails_left (P : Pw) : failsB P.left = P.fails := by
  unfold failsB Pw.fails; first | rfl | (by_cases h : P.left < 0 <;> simp [h] <;> omega)
theorem count_yes {S : Sy} (h : S.p.fails = true) : S.count = ⟨⟨true, leftN S.p.left⟩, S.ds.map Dv.fall⟩ := by
  unfold Sy.count; rw [if_pos h, (step_fails h).1, (step_fails h).2.1]
theorem count_no {S : Sy} (h : S.p.fails = false) (ho : S.p.off = false) : S.count = ⟨⟨S.p.off, leftN S.p.left⟩, S.ds⟩ := by
  unfold Sy.count; rw [h, if_neg (by simp), step_well h ho, ho]
theorem flush_yes8 {S : Sy} {k : Nat} (h : ¬ (S.p.off || (S.at k).gone) = true) (hf : S.p.fails = false) (hl : (S.at k).lies = false) : S.flush k = (0, S.count.put k { S.at k with st := flushL (S.at k).st (S.at k).wt, wt := [] }) := by
  unfold Sy.flush; rw [if_neg h, if_neg (by rw [hf]; simp), if_neg (by rw [hl]; simp)]
theorem RdO.waitAt {w : World} {g : Nat} {d : Dv} {A : Option Addr} {n c R m e j : Nat} (h : RdO w g d A n c (some ⟨R, 0, none⟩) m e) {u : Nat} {s : List UInt8} (hx : d.wt[j]? = some (u, s)) :
    w.cell? ⟨R, j * 129, none⟩ = some (.int .i64 (u : Int)) ∧ ∀ jj v, (bv s)[jj]? = some v → w.cell? ((⟨R, j * 129 + 1, none⟩ : Addr).add jj) = some v := by
  obtain ⟨hj, hxe⟩ := List.getElem?_eq_some_iff.1 hx
  have h8 := h.wait8 hj
  rw [hxe] at h8
  refine ⟨by have h1 := h8 0 _ rfl; rwa [Addr.add_mid] at h1, fun jj v hv => ?_⟩
  have h1 := h8 (jj + 1) v (by rw [wv, List.getElem?_cons_succ]; exact hv)
  rw [Addr.add_mid] at h1 ⊢
  rwa [show j * 129 + 1 + jj = j * 129 + (jj + 1) by omega]
theorem rstep_sys {w : World} {p : Nat} {xs : List Nat} {S : Sy} {F : Nat → Prop} (h : RSys w p xs S F) : Calls Try.prog 86 #[.pointer (some ⟨p, 0, none⟩)] w (RetR (.bool S.p.fails) p xs ⟨⟨S.p.off, leftN S.p.left⟩, S.ds⟩ F w) := by
  obtain ⟨Fs, FA, fc, h, hF, hl⟩ := h
  refine (rstep_any _ S.p.off S.p.left h.pow.hi h.pow.blk).mono ?_
  rintro e w2 ⟨rfl, hb, hbt⟩
  have h1 := h.power (P := ⟨S.p.off, leftN S.p.left⟩) hbt hb (by have := h.pow.lo; have := h.pow.hi; show -1 ≤ leftN S.p.left ∧ leftN S.p.left ≤ _; unfold leftN; split <;> omega)
  exact ⟨by rw [fails_left], h1.fin (N := S.ds.length) (Fs := Fs) hF hl rfl (fun _ _ _ hq => .inl hq) (hbt.mono (fun q e => hF q (.inl e)))⟩
/-- One return behind another one. -/
theorem RetR.step {w w1 w2 : World} {p : Nat} {xs : List Nat} {S : Sy} {F F1 F2 : Nat → Prop} (h1 : ∀ q, F1 q → F q ∨ w.heap.size ≤ q) (b1 : But F w w1) (hs : RSys w2 p xs S F2) (h2 : ∀ q, F2 q → F1 q ∨ w1.heap.size ≤ q) (b2 : But F1 w1 w2) :
    ∃ F', RSys w2 p xs S F' ∧ (∀ q, F' q → F q ∨ w.heap.size ≤ q) ∧ But F w w2 :=
  ⟨F2, hs, fun q hq => (h2 q hq).elim (h1 q) (fun h => .inr (Nat.le_trans b1.size h)), but_step b1 b2 (fun q hq => h1 q hq)⟩
set_option maxRecDepth 100000 in
set_option maxHeartbeats 25600000 in
theorem rflush_sys {w : World} {p : Nat} {xs : List Nat} {S : Sy} {F : Nat → Prop} (h : RSys w p xs S F) (k : Nat) (hk : k < S.ds.length) (hN : S.ds.length < 1000) (hM : ∀ k, k < S.ds.length → (S.at k).wt.length < 1000000) :
    Calls Try.prog 54 #[.pointer (some ⟨xs.getD k 0, 0, none⟩), .pointer (some ⟨p, 0, none⟩)] w (RetR (.int .i64 (S.flush k).1) p xs (S.flush k).2 F w) := by
  have HSY := Lib.hid h
  have HYtfofkjcdohmkpaa := Lib.hid hN
  have HMM := Lib.hid hM
  have HK := Lib.hid hk
  obtain ⟨Fs, FA, fc, h, hF, hl⟩ := h
  obtain ⟨A, n, c, W, m, e, hd, hDF⟩ := h.dev k hk
  obtain ⟨g, hgg⟩ : ∃ g, g = xs.getD k 0 := ⟨_, rfl⟩
  rw [← hgg] at hd ⊢
  have c1 : w.cell? ⟨p, 1, none⟩ = some (.bool S.p.off) := h.pow.blk.cell 1
  have c5 : w.cell? ⟨g, 5, none⟩ = some (.bool (S.at k).gone) := hd.blk.cell 5
  have HGG := Lib.hid hgg
  clear h hF hl hd hDF hN hM hk hgg
  by_cases hdn : (S.p.off || (S.at k).gone) = true
  · have HFD := Lib.hid (flush_down hdn)
    cases hoff : S.p.off with
    | true =>
      rw [hoff] at c1
      clear hdn hoff
      go_enter Try.func54, Try.ntmps54
      go_wp2_with fail
      go_ret
      exact ⟨by rw [HFD.out]; rfl, F, by rw [HFD.out]; exact HSY.out, fun q hq => .inl hq, But.refl _⟩
    | false =>
      cases hgn : (S.at k).gone with
      | true =>
        rw [hoff] at c1
        rw [hgn] at c5
        clear hdn hoff hgn
        go_enter Try.func54, Try.ntmps54
        go_wp2_with fail
        go_ret
        exact ⟨by rw [HFD.out]; rfl, F, by rw [HFD.out]; exact HSY.out, fun q hq => .inl hq, But.refl _⟩
      | false => rw [hoff, hgn] at hdn; cases hdn
  · have hoff : S.p.off = false := by cases h : S.p.off; rfl; rw [h] at hdn; exact absurd rfl hdn
    have hgn : (S.at k).gone = false := by cases h : (S.at k).gone; rfl; rw [h, Bool.or_true] at hdn; exact absurd rfl hdn
    rw [hoff] at c1
    rw [hgn] at c5
    have HDN := Lib.hid hdn
    have HOF := Lib.hid hoff
    have HGN := Lib.hid hgn
    clear hdn hoff hgn
    go_enter Try.func54, Try.ntmps54
    go_wp2_with fail
    refine (rstep_sys HSY.out).mono ?_
    rintro e2 w2 ⟨rfl, F2, h2, hs2, hb2⟩
    have H2 := Lib.hid h2
    have HS2 := Lib.hid hs2
    have HB2 := Lib.hid hb2
    clear h2 hs2 hb2 c1 c5
    cases hf : S.p.fails with
    | true =>
      have HFF := Lib.hid (flush_fails HDN.out hf)
      have HCY := Lib.hid (count_yes hf)
      clear hf
      go_wp2_with fail
      refine (rfall_sys H2.out HYtfofkjcdohmkpaa.out HMM.out).mono ?_
      rintro e3 w3 ⟨rfl, F3, h3, hs3, hb3⟩
      have H3 := Lib.hid h3
      have HS3 := Lib.hid hs3
      have HB3 := Lib.hid hb3
      clear h3 hs3 hb3
      go_wp2_with fail
      go_ret
      exact ⟨by rw [HFF.out]; rfl, by rw [HFF.out, HCY.out]; exact RetR.step HS2.out HB2.out H3.out HS3.out HB3.out⟩
    | false =>
      have HFN := Lib.hid hf
      have HCN := Lib.hid (count_no hf HOF.out)
      clear hf
      obtain ⟨Fs, FA, fc, hR, hF, hl⟩ := H2.out
      obtain ⟨A, n, c, W, m, e, hd, hDF⟩ := hR.dev k HK.out
      obtain ⟨d, hdd⟩ : ∃ d, d = S.at k := ⟨_, rfl⟩
      have hd : RdO w2 (xs.getD k 0) (S.at k) A n c W m e := hd
      rw [← HGG.out, ← hdd] at hd
      rw [← HGG.out] at hDF
      have c4 : w2.cell? ⟨g, 4, none⟩ = some (.bool d.lies) := hd.blk.cell 4
      have HR := Lib.hid hR
      have HF := Lib.hid hF
      have HL := Lib.hid hl
      have HD := Lib.hid hd
      have HDF := Lib.hid hDF
      have HDD := Lib.hid hdd
      have HML := Lib.hid (show d.wt.length < 1000000 by rw [hdd]; exact HMM.out k HK.out)
      clear hR hF hl hd hDF
      cases hli : d.lies with
      | true =>
        rw [hli] at c4
        have HFL := Lib.hid (flush_lies HDN.out HFN.out (hdd ▸ hli))
        clear hli hdd
        go_wp2_with fail
        go_ret
        exact ⟨by rw [HFL.out]; rfl, F2, by rw [HFL.out, HCN.out]; exact H2.out, HS2.out, HB2.out⟩
      | false =>
        rw [hli] at c4
        have HFY := Lib.hid (flush_yes8 HDN.out HFN.out (hdd ▸ hli))
        clear hli hdd
        go_wp2_with fail
        go_loopw [5] (fun i wr => ∃ j : Nat, j ≤ m ∧ i = .int .i64 j ∧ RdO wr g (d.done j) A n c W m e ∧ But (fun q => (Value.slice A n c).ownBlock = some q) w2 wr) (fun i _ => m - (intOf i).toNat)
        case atStart => exact ⟨0, Nat.zero_le _, rfl, by rw [done_zero]; exact HD.out, But.refl _⟩
        case round =>
          obtain ⟨j, hj, rfl, hrd, hbtj⟩ := hrel
          have HJ := Lib.hid hj
          have HRJ := Lib.hid hrd
          have HBJ := Lib.hid hbtj
          have hwm : d.wt.length = m := HD.out.wtn
          have c1 : wr.cell? ⟨g, 1, none⟩ = some (.slice W m e) := hrd.blk.cell 1
          have f1 : wr.frozen? ⟨g, 1, none⟩ = false := hrd.blk.free 1
          clear hj hrd hbtj c4
          by_cases hjl : j < m
          ·
            have hjw : j < d.wt.length := by rw [hwm]; exact hjl
            obtain ⟨u, s, hxe⟩ : ∃ u s, d.wt[j] = (u, s) := ⟨_, _, rfl⟩
            have hxo : (d.wt[j]).1 < (d.done j).st.length ∧ (d.wt[j]).2.length = 128 := HRJ.out.ok.wt _ (List.getElem_mem hjw)
            rw [hxe] at hxo
            have HUN := Lib.hid (show u < n from by have := hxo.1; rwa [HRJ.out.stn] at this)
            have HS3 := Lib.hid (show s.length = 128 from hxo.2)
            obtain ⟨R, rfl⟩ : ∃ R, W = some ⟨R, 0, none⟩ := by
              rcases own_addr8 HRJ.out.wt with ⟨_, h0, _⟩ | h0
              · omega
              · exact h0
            obtain ⟨G, rfl⟩ : ∃ G, A = some ⟨G, 0, none⟩ := by
              rcases own_addr8 HRJ.out.st with ⟨_, h0, _⟩ | h0
              · have := HUN.out; omega
              · exact h0
            have HXQ := Lib.hid (show d.wt[j]? = some (u, s) from by rw [List.getElem?_eq_getElem hjw, hxe])
            have HNX := Lib.hid (done_succ hjw hxe)
            have HIS : Hid ((Try.prog.info? 38).map (·.size) = some (bva s).size) := by show _ = _; rw [bva_size, HS3.out]; exact info_sec
            have HISL : Hid ((Try.prog.info? 38).map (·.size) = some (bv s).length) := by show _ = _; rw [bv_length, HS3.out]; exact info_sec
            have j0 : (0 : Int) ≤ (j : Int) := by omega
            have j1 : (j : Int) < (m : Int) := by omega
            have j2 : (m : Int) < 1000000 := by have := HML.out; omega
            have x0 : (0 : Int) ≤ (u : Int) := by omega
            have x1 : (u : Int) < (n : Int) := by have := HUN.out; omega
            have HJT := Lib.hid hjl
            clear hjw hxe hxo hwm hjl f1
            go_upto_region 11 with fail
            clear c1
            refine wp_region_held_drew (S := fun w' => ∃ d', RdO w' g d' (some ⟨G, 0, none⟩) n c (some ⟨R, 0, none⟩) m e ∧ d'.wt = d.wt) (by kernel_rfl) ⟨_, HRJ.out.below (Below.refl _ _).drew, rfl⟩ (fun hh => ?_)
            have HH := Lib.hid hh
            clear hh
            refine wpAnyH_take (i := 0) (v := ?va0) rfl (by kernel_rfl) (by kernel_rfl) (by kernel_rfl) (fun _ _ _ h => h) (Or.inl ⟨by rfl, fun w' _ => ?ya0⟩) HH.out ?_
            case ya0 => (go_simp; try with_reducible rfl)
            refine wpAnyH_take (i := 1) (v := ?va1) rfl (by kernel_rfl) (by kernel_rfl) (by kernel_rfl) (fun _ _ _ h => h) (Or.inl ⟨by rfl, fun w' _ => ?ya1⟩) HH.out ?_
            case ya1 => (go_simp; try with_reducible rfl)
            try simp only [List.getElem_toArray, List.getElem_cons_succ, List.getElem_cons_zero, Act.put, List.setIfInBounds_toArray, List.set_cons_zero, List.set_cons_succ]
            refine wpAnyH_take (i := 2) (v := ?va2) rfl (by kernel_rfl) (by kernel_rfl) (by kernel_rfl) (fun _ _ _ h => h) (Or.inl ⟨by rfl, fun w' _ => ?ya2⟩) HH.out ?_
            case ya2 => (go_simp; try with_reducible rfl)
            refine wpAnyH_take (i := 3) (v := .slice (some ⟨G, 0, none⟩) n c) rfl (by kernel_rfl) (by kernel_rfl) (by kernel_rfl) (fun _ _ _ h => h) (Or.inl ⟨by rfl, fun w' hw' => ?ya3⟩) HH.out ?_
            case ya3 => (obtain ⟨d', hd', hwe⟩ := hw'; have hc : w'.cell? ⟨g, 0, none⟩ = some (.slice (some ⟨G, 0, none⟩) n c) := hd'.blk.cell 0; go_simp; try with_reducible rfl)
            refine wpAnyH_take (i := 4) (v := ?va4) rfl (by kernel_rfl) (by kernel_rfl) (by kernel_rfl) (fun _ _ _ h => h) (Or.inl ⟨by rfl, fun w' _ => ?ya4⟩) HH.out ?_
            case ya4 => (go_simp; try with_reducible rfl)
            try simp only [List.getElem_toArray, List.getElem_cons_succ, List.getElem_cons_zero, Act.put, List.setIfInBounds_toArray, List.set_cons_zero, List.set_cons_succ]
            refine wpAnyH_take (i := 5) (v := ?va5) rfl (by kernel_rfl) (by kernel_rfl) (by kernel_rfl) (fun _ _ _ h => h) (Or.inl ⟨by rfl, fun w' _ => ?ya5⟩) HH.out ?_
            case ya5 => (go_simp; try with_reducible rfl)
            refine wpAnyH_take (i := 6) (v := ?va6) rfl (by kernel_rfl) (by kernel_rfl) (by kernel_rfl) (fun _ _ _ h => h) (Or.inl ⟨by rfl, fun w' _ => ?ya6⟩) HH.out ?_
            case ya6 => (go_simp; try with_reducible rfl)
            refine wpAnyH_take (i := 7) (v := .slice (some ⟨R, 0, none⟩) m e) rfl (by kernel_rfl) (by kernel_rfl) (by kernel_rfl) (fun _ _ _ h => h) (Or.inl ⟨by rfl, fun w' hw' => ?ya7⟩) HH.out ?_
            case ya7 => (obtain ⟨d', hd', hwe⟩ := hw'; have hc : w'.cell? ⟨g, 1, none⟩ = some (.slice (some ⟨R, 0, none⟩) m e) := hd'.blk.cell 1; go_simp; try with_reducible rfl)
            try simp only [List.getElem_toArray, List.getElem_cons_succ, List.getElem_cons_zero, Act.put, List.setIfInBounds_toArray, List.set_cons_zero, List.set_cons_succ]
            refine wpAnyH_take (i := 8) (v := ?va8) rfl (by kernel_rfl) (by kernel_rfl) (by kernel_rfl) (fun _ _ _ h => h) (Or.inl ⟨by rfl, fun w' _ => ?ya8⟩) HH.out ?_
            case ya8 => (go_simp; try with_reducible rfl)
            refine wpAnyH_take (i := 9) (v := ?va9) rfl (by kernel_rfl) (by kernel_rfl) (by kernel_rfl) (fun _ _ _ h => h) (Or.inl ⟨by rfl, fun w' _ => ?ya9⟩) HH.out ?_
            case ya9 => (go_simp; try with_reducible rfl)
            refine wpAnyH_take (i := 10) (v := ?va10) rfl (by kernel_rfl) (by kernel_rfl) (by kernel_rfl) (fun _ _ _ h => h) (Or.inl ⟨by rfl, fun w' _ => ?ya10⟩) HH.out ?_
            case ya10 => (go_simp; try with_reducible rfl)
            try simp only [List.getElem_toArray, List.getElem_cons_succ, List.getElem_cons_zero, Act.put, List.setIfInBounds_toArray, List.set_cons_zero, List.set_cons_succ]
            refine wpAnyH_take (i := 11) (v := .int .i64 (u : Int)) rfl (by kernel_rfl) (by kernel_rfl) (by kernel_rfl) (fun _ _ _ h => h) (Or.inl ⟨by rfl, fun w' hw' => ?ya11⟩) HH.out ?_
            case ya11 => (obtain ⟨d', hd', hwe⟩ := hw'; have hc := (hd'.waitAt (hwe ▸ HXQ.out)).1; go_simp; try with_reducible rfl)
            refine wpAnyH_take (i := 12) (v := ?va12) rfl (by kernel_rfl) (by kernel_rfl) (by kernel_rfl) (fun _ _ _ h => h) (Or.inl ⟨by rfl, fun w' _ => ?ya12⟩) HH.out ?_
            case ya12 => (go_simp; try with_reducible rfl)
            refine wpAnyH_take (i := 13) (v := ?va13) rfl (by kernel_rfl) (by kernel_rfl) (by kernel_rfl) (fun _ _ _ h => h) (Or.inl ⟨by rfl, fun w' _ => ?ya13⟩) HH.out ?_
            case ya13 => (go_simp; try with_reducible rfl)
            try simp only [List.getElem_toArray, List.getElem_cons_succ, List.getElem_cons_zero, Act.put, List.setIfInBounds_toArray, List.set_cons_zero, List.set_cons_succ]
            refine wpAnyH_take (i := 14) (v := ?va14) rfl (by kernel_rfl) (by kernel_rfl) (by kernel_rfl) (fun _ _ _ h => h) (Or.inl ⟨by rfl, fun w' _ => ?ya14⟩) HH.out ?_
            case ya14 => (go_simp; try with_reducible rfl)
            refine wpAnyH_take (i := 15) (v := .slice (some ⟨R, 0, none⟩) m e) rfl (by kernel_rfl) (by kernel_rfl) (by kernel_rfl) (fun _ _ _ h => h) (Or.inl ⟨by rfl, fun w' hw' => ?ya15⟩) HH.out ?_
            case ya15 => (obtain ⟨d', hd', hwe⟩ := hw'; have hc : w'.cell? ⟨g, 1, none⟩ = some (.slice (some ⟨R, 0, none⟩) m e) := hd'.blk.cell 1; go_simp; try with_reducible rfl)
            refine wpAnyH_take (i := 16) (v := ?va16) rfl (by kernel_rfl) (by kernel_rfl) (by kernel_rfl) (fun _ _ _ h => h) (Or.inl ⟨by rfl, fun w' _ => ?ya16⟩) HH.out ?_
            case ya16 => (go_simp; try with_reducible rfl)
            try simp only [List.getElem_toArray, List.getElem_cons_succ, List.getElem_cons_zero, Act.put, List.setIfInBounds_toArray, List.set_cons_zero, List.set_cons_succ]
            refine wpAnyH_take (i := 17) (v := ?va17) rfl (by kernel_rfl) (by kernel_rfl) (by kernel_rfl) (fun _ _ _ h => h) (Or.inl ⟨by rfl, fun w' _ => ?ya17⟩) HH.out ?_
            case ya17 => (go_simp; try with_reducible rfl)
            refine wpAnyH_take (i := 18) (v := ?va18) rfl (by kernel_rfl) (by kernel_rfl) (by kernel_rfl) (fun _ _ _ h => h) (Or.inl ⟨by rfl, fun w' _ => ?ya18⟩) HH.out ?_
            case ya18 => (go_simp; try with_reducible rfl)
            refine wpAnyH_take (i := 19) (v := .agg (bva s)) rfl (by kernel_rfl) (by kernel_rfl) (by kernel_rfl) (fun _ _ _ h => h) (Or.inl ⟨by rfl, fun w' hw' => ?ya19⟩) HH.out ?_
            case ya19 => (obtain ⟨d', hd', hwe⟩ := hw'; exact exec_load_at 38 (.tmp 51) rfl (⟨R, j * 129 + 1, none⟩ : Addr) rfl (hd'.waitAt (hwe ▸ HXQ.out)).2 Try.underlying38 rfl HISL.out)
            try simp only [List.getElem_toArray, List.getElem_cons_succ, List.getElem_cons_zero, Act.put, List.setIfInBounds_toArray, List.set_cons_zero, List.set_cons_succ]
            refine wpAnyH_take (i := 20) (v := ?va20) rfl (by kernel_rfl) (by kernel_rfl) (by kernel_rfl) (fun _ _ _ h => h) (Or.inl ⟨by rfl, fun w' _ => ?ya20⟩) HH.out ?_
            case ya20 => (go_simp; try with_reducible rfl)
            refine wpAnyH_ready (rs := [21]) (by kernel_rfl) (by simp) (AllReadyH.cons rfl (fun K hK => ?_) AllReadyH.nil)
            refine step_wp8 (by rfl) ?_
            have HDR := Lib.hid (HRJ.out.below (Below.refl _ _).drew)
            have HSET := Lib.hid (HDR.out.set8 HUN.out HS3.out)
            refine wp_store_mid 38 (.tmp 53) (.tmp 52) rfl G (u * 128) (bva s) rfl rfl HSET.out.2.2 HIS.out (bva_one _) ?_
            change K _ (World.setCells wr.drew G (u * 128) (bv s))
            obtain ⟨wv, hwv⟩ : ∃ wv, wv = World.setCells wr.drew G (u * 128) (bv s) := ⟨_, rfl⟩
            have HSV := Lib.hid HSET.out.1
            have HSB := Lib.hid HSET.out.2.1
            rw [← hwv] at HSV HSB ⊢
            clear hwv HSET HDR
            refine hK.out _ _ ⟨_, HSV.out, rfl⟩ (fun hh => ?_)
            clear hh hK K HH
            try simp only [List.getElem_toArray, List.getElem_cons_succ, List.getElem_cons_zero, Act.put, List.setIfInBounds_toArray, List.set_cons_zero, List.set_cons_succ]
            refine wpAnyH_done (by kernel_rfl) ?_ _
            go_wp2_with fail
            go_roundw
            case rel => exact ⟨j + 1, by have := HJT.out; omega, by go_num, by rw [HNX.out]; exact HSV.out, HBJ.out.trans ((But.refl _).drew.trans HSB.out)⟩
            case measure => (have := HJT.out; simp [intOf]; omega)
          ·
            obtain rfl : j = m := by have := HJ.out; omega
            have hfa : ({ d with st := flushL d.st d.wt, wt := [] } : Dv) = { d.done j with wt := [] } := by rw [← hwm]; unfold Dv.done; rw [List.take_length]
            obtain ⟨wz, hwz⟩ : ∃ wz, wz = wr.setCell ⟨g, 1, none⟩ (.slice none 0 0) := ⟨_, rfl⟩
            have hbz : But (fun q => q = g) wr wz := by rw [hwz]; exact but_one _
            have HDZ := Lib.hid (show RdO wz g { d with st := flushL d.st d.wt, wt := [] } A n c none 0 0 from by
              rw [hfa]
              exact ⟨by rw [hwz]; exact blk_setN8 HRJ.out.blk 1 _, Own.but HRJ.out.st hbz (fun q hq => HRJ.out.apart.1 q hq), ⟨rfl, .inl ⟨rfl, rfl⟩⟩, HRJ.out.stn, rfl, ⟨HRJ.out.ok.st, fun x hx => absurd hx List.not_mem_nil, HRJ.out.ok.kept, HRJ.out.ok.bytes, HRJ.out.ok.len⟩, fun _ => rfl⟩)
            have hbk := (HBJ.out.mono (T := Fs k) (fun q hq => HDF.out q (.inr (.inl hq)))).trans (hbz.mono (T := Fs k) (fun q e => HDF.out q (.inl e)))
            have hret := HR.out.ret HF.out HL.out (k := k) HK.out hbk (d := { d with st := flushL d.st d.wt, wt := [] }) (by rw [← HGG.out]; exact ⟨A, n, c, none, 0, 0, HDZ.out, by
              rintro q (h1 | h1 | h1)
              · exact .inl (HDF.out q (.inl h1))
              · exact .inl (HDF.out q (.inr (.inl h1)))
              · cases h1⟩)
            have HRT := Lib.hid hret
            clear hret hbk hbz hfa hwm hjl
            go_wp2_with fail
            rw [← hwz]
            clear hwz
            go_ret
            obtain ⟨F3, h1, h2, h3⟩ := HRT.out
            refine ⟨by rw [HFY.out]; rfl, ?_⟩
            rw [HFY.out, HCN.out, ← HDD.out]
            exact RetR.step HS2.out HB2.out h1 h2 h3
end Go.Proofs.Ytfofkjcdohmkpaa.Kd
/-
  The contract of the reference's Write.
-/
namespace Go.Proofs.Ytfofkjcdohmkpaa.Kd
open Go.RowKit Go.Maps
attribute [local go_sem ↓] Go.wp_at_zero Go.wp_at_succ
theorem build_wait (x : Nat × List UInt8) (hs : x.2.length = 128) (W : World) : (Instr.build 128 #[(0, .int .i64 (x.1 : Int)), (1, .agg (bva x.2))]).run Try.prog W = .ok (.agg (wva x)) W := by
  have h := build_struct (P := Try.prog) W 128 [(0, .int .i64 (x.1 : Int)), (1, .agg (bva x.2))] placesW (wva (0, zeroS)) (by kernel_rfl)
    ⟨rfl, by show placesW 1 = some (1, (bva x.2).size); rw [bva_size, hs]; rfl, trivial⟩ (by
      rw [wva_size zeroS_length]
      show (Value.int .i64 (x.1 : Int) :: ((bva x.2).toList ++ [])).length = _
      rw [List.length_cons, List.length_append, Array.length_toList, bva_size, hs]; rfl)
  have e : (cellsOf [(0, .int .i64 (x.1 : Int)), (1, .agg (bva x.2))]).toArray = wva x := by
    show (Value.int .i64 (x.1 : Int) :: ((bva x.2).toList ++ [])).toArray = _
    rw [List.append_nil]; rfl
  rw [e] at h
  exact h
theorem info_waitW : (Try.prog.info? 128).map (fun i => (i.zero, i.size, i.bytes)) = some (some (.agg (wva (0, zeroS))), 129, 136) := by kernel_rfl
theorem waitsElt : EltN Try.prog 44 128 (.agg (wva (0, zeroS))) 129 136 := ⟨Try.underlying44, info_waitW, wva_size zeroS_length, by omega, by omega⟩
theorem wvs_one : ∀ (l : List (Nat × List UInt8)), ∀ u ∈ wvs l, u.oneCell' = true
  | [], u, h => by cases h
  | x :: l, u, h => by
    rw [wvs, List.mem_append] at h
    rcases h with h | h
    · rw [wv, List.mem_cons] at h
      rcases h with h | h
      · subst h; rfl
      · exact bv_one x.2 u h
    · exact wvs_one l u h
theorem wv_one (x : Nat × List UInt8) : ∀ u ∈ wv x, u.oneCell' = true := fun u h => wvs_one [x] u (by rw [wvs, wvs, List.append_nil]; exact h)
theorem wp_exec8 {P : Program} {w w' : World} {o : Oper} {a : Act} {K : Act → World → Prop} {Q : Exit → Act → World → Prop} {v : Value} (h : (execOp a.eval o).run P w = .ok (.value v) w') (hk : K (a.put o.dst v) w') : Oper.wp P o a w K Q := by
  unfold Oper.wp; rw [h]; exact hk
set_option maxRecDepth 100000 in
set_option maxHeartbeats 25600000 in
theorem rwrite_sys {w : World} {p : Nat} {xs : List Nat} {S : Sy} {F : Nat → Prop} (h : RSys w p xs S F) (k : Nat) (hk : k < S.ds.length) (hN : S.ds.length < 1000) (hM : ∀ k, k < S.ds.length → (S.at k).wt.length < 900000) (i : Int) (s : List UInt8) (hs : s.length = 128) :
    Calls Try.prog 53 #[.pointer (some ⟨xs.getD k 0, 0, none⟩), .pointer (some ⟨p, 0, none⟩), .int .i64 i, .agg (bva s)] w (RetR (.int .i64 (S.write k i s).1) p xs (S.write k i s).2 F w) := by
  have BW := Lib.hid (show Below w.heap.size w (w.alloc (.cells (bva s) 38)) from (Below.refl _ w).alloc (Nat.le_refl _) _)
  have HX := Lib.hid (show Blk (w.alloc (.cells (bva s) 38)) w.heap.size (bva s) 38 from heap_alloc_new _ _)
  have HS3 := Lib.hid hs
  have HSY := Lib.hid (h.below BW.out)
  have HFL := Lib.hid h.lt
  have HYtfofkjcdohmkpaa := Lib.hid hN
  have HMM := Lib.hid hM
  have HK := Lib.hid hk
  obtain ⟨Fs, FA, fc, h, hF, hl⟩ := h
  obtain ⟨A, n, c, W, m, e, hd, hDF⟩ := h.dev k hk
  obtain ⟨g, hgg⟩ : ∃ g, g = xs.getD k 0 := ⟨_, rfl⟩
  rw [← hgg] at hd hDF ⊢
  obtain ⟨d, hdd⟩ : ∃ d, d = S.at k := ⟨_, rfl⟩
  rw [← hdd] at hd
  obtain ⟨wx, hwx⟩ : ∃ wx, wx = w.alloc (.cells (bva s) 38) := ⟨_, rfl⟩
  have hdx := hd.below BW.out
  have hpx := h.pow.below BW.out
  rw [← hwx] at BW HX HSY hdx hpx
  have c1 : wx.cell? ⟨p, 1, none⟩ = some (.bool S.p.off) := hpx.blk.cell 1
  have c5 : wx.cell? ⟨g, 5, none⟩ = some (.bool d.gone) := hdx.blk.cell 5
  have c0 : wx.cell? ⟨g, 0, none⟩ = some (.slice A n c) := hdx.blk.cell 0
  have HGG := Lib.hid hgg
  have HDD := Lib.hid hdd
  have HDX := Lib.hid hdx
  have HR := Lib.hid h
  have HF := Lib.hid hF
  have HL := Lib.hid hl
  have HDF := Lib.hid hDF
  have HML := Lib.hid (show d.wt.length < 900000 by rw [hdd]; exact hM k hk)
  have HWX := Lib.hid hwx
  have HNO := Lib.hid (show ∀ r, r ≠ 0 → refuseN S.p d i = r → RetR (.int .i64 (S.write k i s).1) p xs (S.write k i s).2 F w (.returned (.int .i64 r)) wx from fun r hr0 hr => by
    have h1 : S.write k i s = (r, S) := by rw [write_no (by rw [← hdd, hr]; exact hr0), ← hdd, hr]
    rw [h1]
    exact ⟨rfl, F, HSY.out, fun q hq => .inl hq, But.of_below BW.out (fun q a b => absurd a (by omega))⟩)
  have hst : d.st.length = n := hdx.stn
  clear h hF hl hd hDF hN hM hk hgg hs hpx hdx
  cases hoff : S.p.off with
  | true =>
    rw [hoff] at c1
    have HYtfofkjcdohmkpaa' := Lib.hid (HNO.out 13 (by decide) (by unfold refuseN; rw [hoff]; rfl))
    clear hoff hdd hst
    go_enter Try.func53, Try.ntmps53
    go_upto_region 1 with fail
    rw [← hwx]
    clear hwx
    go_wp2_with fail
    go_ret
    exact HYtfofkjcdohmkpaa'.out
  | false =>
    rw [hoff] at c1
    cases hgn : d.gone with
    | true =>
      rw [hgn] at c5
      have HYtfofkjcdohmkpaa' := Lib.hid (HNO.out 13 (by decide) (by unfold refuseN; rw [hgn, hoff]; rfl))
      clear hoff hdd hst hgn
      go_enter Try.func53, Try.ntmps53
      go_upto_region 1 with fail
      rw [← hwx]
      clear hwx
      go_wp2_with fail
      go_ret
      exact HYtfofkjcdohmkpaa'.out
    | false =>
      rw [hgn] at c5
      by_cases hng : i < 0
      · have HYtfofkjcdohmkpaa' := Lib.hid (HNO.out 2 (by decide) (by unfold refuseN; rw [hgn, hoff, if_neg (by simp), if_pos (.inl hng)]))
        clear hoff hdd hst hgn
        go_enter Try.func53, Try.ntmps53
        go_upto_region 1 with fail
        rw [← hwx]
        clear hwx
        go_wp2_with fail
        go_ret
        exact HYtfofkjcdohmkpaa'.out
      · by_cases hge : (n : Int) ≤ i
        · have HYtfofkjcdohmkpaa' := Lib.hid (HNO.out 2 (by decide) (by unfold refuseN; rw [hgn, hoff, if_neg (by simp), if_pos (.inr (by rw [hst]; exact hge))]))
          clear hoff hdd hst hgn
          go_enter Try.func53, Try.ntmps53
          go_upto_region 1 with fail
          rw [← hwx]
          clear hwx
          go_wp2_with fail
          go_ret
          exact HYtfofkjcdohmkpaa'.out
        · obtain ⟨u, rfl⟩ := Int.eq_ofNat_of_zero_le (show 0 ≤ i by omega)
          have HU := Lib.hid (show u < n by omega)
          have HRF := Lib.hid (show refuseN S.p (S.at k) (u : Int) = 0 from by rw [← hdd]; unfold refuseN; rw [hgn, hoff, if_neg (by simp), if_neg (by rw [hst]; omega)])
          have HOF := Lib.hid hoff
          have HGN := Lib.hid hgn
          have HSTN := Lib.hid hst
          have HWV := Lib.hid (show wv (u, s) = (wva (u, s)).toList by rw [wva])
          have HBW := Lib.hid (build_wait (u, s) HS3.out)
          have HIS : Hid ((Try.prog.info? 38).map (·.size) = some (bva s).size) := by show _ = _; rw [bva_size, HS3.out]; exact info_sec
          have hwm : d.wt.length = m := HDX.out.wtn
          have HWM := Lib.hid hwm
          have u0 : (0 : Int) ≤ (u : Int) := by omega
          clear hoff hdd hst hgn HNO hwm
          go_enter Try.func53, Try.ntmps53
          go_upto_region 1 with fail
          rw [← hwx]
          clear hwx
          go_upto_region 5 with fail
          clear c0 c1 c5
          refine wp_region_any (by kernel_rfl) ?_
          change wpAny _ _ _ _ _ _ _ (World.drew wx)
          obtain ⟨wd, hwd⟩ : ∃ wd, wd = wx.drew := ⟨_, rfl⟩
          have BD := Lib.hid (show Below wx.heap.size wx wd from by rw [hwd]; exact (Below.refl _ _).drew)
          rw [← hwd]
          clear hwd
          refine wpAny_take (i := 0) (v := ?bs0) rfl (by kernel_rfl) (by kernel_rfl) (by kernel_rfl) (fun _ _ _ h => h) (Or.inl ⟨by rfl, ?ys0⟩) ?_
          case ys0 => (intro w'; go_simp; try with_reducible rfl)
          refine wpAny_take (i := 2) (v := ?bs2) rfl (by kernel_rfl) (by kernel_rfl) (by kernel_rfl) (fun _ _ _ h => h) (Or.inl ⟨by rfl, ?ys2⟩) ?_
          case ys2 => (intro w'; go_simp; try with_reducible rfl)
          try simp only [List.getElem_toArray, List.getElem_cons_succ, List.getElem_cons_zero, Act.put, List.setIfInBounds_toArray, List.set_cons_zero, List.set_cons_succ]
          refine wpAny_take (i := 3) (v := ?bs3) rfl (by kernel_rfl) (by kernel_rfl) (by kernel_rfl) (fun _ _ _ h => h) (Or.inl ⟨by rfl, ?ys3⟩) ?_
          case ys3 => (intro w'; go_simp; try with_reducible rfl)
          try simp only [List.getElem_toArray, List.getElem_cons_succ, List.getElem_cons_zero, Act.put, List.setIfInBounds_toArray, List.set_cons_zero, List.set_cons_succ]
          refine wpAny_take (i := 4) (v := ?bs4) rfl (by kernel_rfl) (by kernel_rfl) (by kernel_rfl) (fun _ _ _ h => h) (Or.inl ⟨by rfl, ?ys4⟩) ?_
          case ys4 => (intro w'; go_simp; try with_reducible rfl)
          try simp only [List.getElem_toArray, List.getElem_cons_succ, List.getElem_cons_zero, Act.put, List.setIfInBounds_toArray, List.set_cons_zero, List.set_cons_succ]
          refine wpAny_take (i := 7) (v := ?bs7) rfl (by kernel_rfl) (by kernel_rfl) (by kernel_rfl) (fun _ _ _ h => h) (Or.inl ⟨by rfl, ?ys7⟩) ?_
          case ys7 => (intro w'; go_simp; try with_reducible rfl)
          try simp only [List.getElem_toArray, List.getElem_cons_succ, List.getElem_cons_zero, Act.put, List.setIfInBounds_toArray, List.set_cons_zero, List.set_cons_succ]
          refine wpAny_mild [6] (i := 5) (v := .slice W m e) rfl (by kernel_rfl) (by kernel_rfl) (by kernel_rfl) (fun _ _ _ h => h) (by rfl) ?z5 ?_
          case z5 => (intro w' hw'; have hc : w'.cell? ⟨g, 1, none⟩ = some (.slice W m e) := (HDX.out.blk.below (BD.out.trans (hw'.mono BD.out.size))).cell 1; go_simp; try with_reducible rfl)
          try simp only [List.getElem_toArray, List.getElem_cons_succ, List.getElem_cons_zero, Act.put, List.setIfInBounds_toArray, List.set_cons_zero, List.set_cons_succ]
          refine wpAny_ready (rs := [1, 8]) (by kernel_rfl) (by simp) (AllReady.cons rfl (fun K hK => ?_) (AllReady.cons rfl (fun K hK => ?_) AllReady.nil))
          ·
            rw [if_pos (by rfl)]
            obtain ⟨W1, hW1⟩ : ∃ WQ, WQ = wd.alloc (.cells #[] 128) := ⟨_, rfl⟩
            have BA1 := Lib.hid (show Below wd.heap.size wd W1 from by rw [hW1]; exact (Below.refl _ _).alloc (Nat.le_refl _) _)
            have BW1 := Lib.hid (BD.out.trans (BA1.out.mono BD.out.size))
            have HS1 := Lib.hid (show W1.heap.size = wd.heap.size + 1 from by rw [hW1]; simp)
            have OE1 := Lib.hid (show W1.ownsRow wx.heap.size 128 129 (.slice (some ⟨wd.heap.size, 0, none⟩) 0 0) 0 [] from by rw [hW1]; exact World.ownsRow_lit (size := 129) wd #[] 0 BD.out.size (Nat.zero_le _) rfl)
            go_simp
            refine hK _ _ ?_
            clear hK K
            rw [← hW1]
            clear hW1
            try simp only [List.getElem_toArray, List.getElem_cons_succ, List.getElem_cons_zero, Act.put, List.setIfInBounds_toArray, List.set_cons_zero, List.set_cons_succ]
            refine wpAny_ready (rs := [6, 8]) (by kernel_rfl) (by simp) (AllReady.cons rfl (fun K hK => ?_) (AllReady.cons rfl (fun K hK => ?_) AllReady.nil))
            ·
              rw [if_pos (by rfl)]
              refine wp_appN _ (.tmp 31) (.tmp 35) 44 rfl waitsElt rfl OE1.out (m := m) rfl ((Rd.ownN HDX.out.wt).below BW1.out) (by rw [wvs_length (fun x hx => (HDX.out.ok.wt x hx).2), HWM.out]) (wvs_one _) (by have := HML.out; have := HWM.out; omega) BW1.out.size ?_
              intro A2 c2 W2 ho hg hl
              have BW2 := Lib.hid (app_belowN BW1.out OE1.out hg (Nat.le_refl _) BW1.out.size)
              have O2 := Lib.hid (show W2.ownsRow wx.heap.size 128 129 (.slice A2 (0 + m) c2) (0 + m) (wvs d.wt) from by have h := ho; rwa [List.nil_append] at h)
              clear ho hg hl
              refine hK _ _ ?_
              clear hK K
              try simp only [List.getElem_toArray, List.getElem_cons_succ, List.getElem_cons_zero, Act.put, List.setIfInBounds_toArray, List.set_cons_zero, List.set_cons_succ]
              refine wpAny_ready (rs := [8]) (by kernel_rfl) (by simp) (AllReady.cons rfl (fun K hK => ?_) AllReady.nil)
              rw [if_pos (by rfl)]
              refine wp_exec8 (exec_load 38 (.tmp 7) rfl rfl (HX.out.below BW2.out) Try.underlying38 rfl HIS.out) ?_
              refine hK _ _ ?_
              clear hK K
              try simp only [List.getElem_toArray, List.getElem_cons_succ, List.getElem_cons_zero, Act.put, List.setIfInBounds_toArray, List.set_cons_zero, List.set_cons_succ]
              refine wpAny_take (i := 9) (v := .agg (wva (u, s))) rfl (by kernel_rfl) (by kernel_rfl) (by kernel_rfl) (fun _ _ _ h => h) (Or.inl ⟨by rfl, fun W => exec_build8 128 #[(0, .tmp 37), (1, .tmp 38)] rfl (by simp only [List.map_toArray, List.map_cons, List.map_nil]; exact HBW.out W)⟩) ?_
              try simp only [List.getElem_toArray, List.getElem_cons_succ, List.getElem_cons_zero, Act.put, List.setIfInBounds_toArray, List.set_cons_zero, List.set_cons_succ]
              refine wpAny_ready (rs := [10]) (by kernel_rfl) (by simp) (AllReady.cons rfl (fun K hK => ?_) AllReady.nil)
              rw [if_pos (by rfl)]
              obtain ⟨W4, hW4⟩ : ∃ WQ, WQ = W2.alloc (.cells (wva (u, s)) 128) := ⟨_, rfl⟩
              have BA4 := Lib.hid (show Below W2.heap.size W2 W4 from by rw [hW4]; exact (Below.refl _ _).alloc (Nat.le_refl _) _)
              have BW4 := Lib.hid (BW2.out.trans (BA4.out.mono BW2.out.size))
              have HS4 := Lib.hid (show W4.heap.size = W2.heap.size + 1 from by rw [hW4]; simp)
              have BQ4 := Lib.hid (show Blk W4 W2.heap.size (wva (u, s)) 128 from by rw [hW4]; exact heap_alloc_new _ _)
              refine wp_buildSliceN 44 1 #[(0, .tmp 39)] rfl (by simp only [List.map_toArray, List.map_cons, List.map_nil]; exact run_oneN waitsElt W2 (.agg (wva (u, s))) (by show (wva (u, s)).size = 129; exact wva_size HS3.out) (by omega)) ?_
              change K _ (W2.alloc (.cells (wva (u, s)) 128))
              refine hK _ _ ?_
              clear hK K
              rw [← hW4]
              clear hW4
              have O4 := Lib.hid (own_belowN O2.out BA4.out)
              try simp only [List.getElem_toArray, List.getElem_cons_succ, List.getElem_cons_zero, Act.put, List.setIfInBounds_toArray, List.set_cons_zero, List.set_cons_succ]
              refine wpAny_ready (rs := [11]) (by kernel_rfl) (by simp) (AllReady.cons rfl (fun K hK => ?_) AllReady.nil)
              rw [if_pos (by rfl)]
              have RB := Lib.hid (show Rd W4.heap.size W4 (some ⟨W2.heap.size, 0, none⟩) (wv (u, s)) from fun q v hv => ⟨_, rfl, BQ4.out.lt, by rw [Addr.add_mid, BQ4.out.cell, Nat.zero_add, wva, List.getElem?_toArray]; exact hv⟩)
              refine wp_appN _ (.tmp 36) (.tmp 40) 44 rfl waitsElt rfl O4.out (m := 1) rfl RB.out (by rw [wv_length (x := (u, s)) HS3.out]) (wv_one _) (by have := HML.out; have := HWM.out; omega) BW4.out.size ?_
              intro AF cF wF ho hg hl
              have BF := Lib.hid (app_belowN BW4.out O4.out hg (Nat.le_refl _) BW4.out.size)
              have OF := Lib.hid ho
              clear ho hg hl RB
              refine hK _ _ ?_
              clear hK K
              try simp only [List.getElem_toArray, List.getElem_cons_succ, List.getElem_cons_zero, Act.put, List.setIfInBounds_toArray, List.set_cons_zero, List.set_cons_succ]
              refine wpAny_take (i := 12) (v := ?bf512) rfl (by kernel_rfl) (by kernel_rfl) (by kernel_rfl) (fun _ _ _ h => h) (Or.inl ⟨by rfl, ?yf512⟩) ?_
              case yf512 => (intro w'; go_simp; try with_reducible rfl)
              try simp only [List.getElem_toArray, List.getElem_cons_succ, List.getElem_cons_zero, Act.put, List.setIfInBounds_toArray, List.set_cons_zero, List.set_cons_succ]
              refine wpAny_take (i := 13) (v := ?bf513) rfl (by kernel_rfl) (by kernel_rfl) (by kernel_rfl) (fun _ _ _ h => h) (Or.inl ⟨by rfl, ?yf513⟩) ?_
              case yf513 => (intro w'; go_simp; try with_reducible rfl)
              try simp only [List.getElem_toArray, List.getElem_cons_succ, List.getElem_cons_zero, Act.put, List.setIfInBounds_toArray, List.set_cons_zero, List.set_cons_succ]
              have cg := (HDX.out.blk.below BF.out).cell 1
              have fg := (HDX.out.blk.below BF.out).free 1
              refine wpAny_ready (rs := [14]) (by kernel_rfl) (by simp) (AllReady.cons rfl (fun K hK => ?_) AllReady.nil)
              rw [if_pos (by rfl)]
              go_simp
              refine hK _ _ ?_
              clear hK K
              try simp only [List.getElem_toArray, List.getElem_cons_succ, List.getElem_cons_zero, Act.put, List.setIfInBounds_toArray, List.set_cons_zero, List.set_cons_succ]
              refine wpAny_done (by kernel_rfl) ?_ _
              obtain ⟨wz, hwz⟩ : ∃ wz, wz = wF.setCell ⟨g, 1, none⟩ (.slice AF (m + 1) cF) := ⟨_, rfl⟩
              have OG := Lib.hid (show wF.ownsRow wx.heap.size 128 129 (.slice AF (m + 1) cF) (m + 1) (wvs (d.add u s).wt) from by
                have h := OF.out
                rw [Nat.zero_add] at h
                have e1 : wvs (d.add u s).wt = wvs d.wt ++ wv (u, s) := by show wvs (d.wt ++ [(u, s)]) = _; rw [wvs_append]; show _ ++ (wv (u, s) ++ []) = _; rw [List.append_nil]
                rw [e1]; exact h)
              have hbz : But (fun q => q = g) wF wz := by rw [hwz]; exact but_one _
              have hgx : g < wx.heap.size := HDX.out.blk.lt
              have hzs : wF.heap.size = wz.heap.size := by rw [hwz]; simp
              have HDZ := Lib.hid (show RdO wz g (d.add u s) A n c AF (m + 1) cF from
                ⟨by rw [hwz]; exact blk_setN8 (HDX.out.blk.below BF.out) 1 _, Own.but (own_belowN HDX.out.st BF.out) hbz (fun q hq => HDX.out.apart.1 q hq),
                 Own.but (⟨OG.out.1, OG.out.2.imp id (fun ⟨a1, a2, a3, a4, _, a6⟩ => ⟨a1, a2, a3, a4, Nat.zero_le _, a6⟩)⟩ : wF.ownsRow 0 128 129 (.slice AF (m + 1) cF) (m + 1) (wvs (d.add u s).wt)) hbz (fun q hq e => by have := (OG.out.lt q hq).1; omega),
                 HDX.out.stn, by show (d.wt ++ [(u, s)]).length = m + 1; rw [List.length_append, HWM.out]; rfl, add_ok HDX.out.ok (by rw [HSTN.out]; exact HU.out) HS3.out, fun e => by have h : d.gone = true := e; rw [HGN.out] at h; cases h⟩)
              have hbg : But (fun q => q = g) w wz := (But.of_below (BW.out.trans (BF.out.mono BW.out.size)) (fun q a b => absurd a (by omega))).trans hbz
              have hret := HR.out.ret HF.out HL.out (k := k) HK.out (hbg.mono (T := Fs k) (fun q e => HDF.out q (.inl e))) (d := d.add u s) (by rw [← HGG.out]; exact ⟨A, n, c, AF, m + 1, cF, HDZ.out, by
                rintro q (h1 | h1 | h1)
                · exact .inl (HDF.out q (.inl h1))
                · exact .inl (HDF.out q (.inr (.inl h1)))
                · have h2 := OG.out.lt q h1
                  have h3 := BW.out.size
                  exact .inr ⟨by omega, by omega⟩⟩)
              obtain ⟨F3, h3, hs3, hb3⟩ := hret
              have H3 := Lib.hid h3
              have HS3' := Lib.hid hs3
              have HB3 := Lib.hid hb3
              have HWY := Lib.hid (show S.write k (u : Int) s = (if S.p.fails then 13 else 0, (S.put k (d.add u s)).count) from by rw [HDD.out]; exact write_yes HRF.out)
              have HM3 := Lib.hid (show ∀ j, j < (S.put k (d.add u s)).ds.length → ((S.put k (d.add u s)).at j).wt.length < 1000000 from fun j hj => by
                rw [len_put] at hj
                rw [at_put _ HK.out]
                split
                · show (d.wt ++ [(u, s)]).length < _
                  rw [List.length_append]; have := HML.out; simp; omega
                · have := HMM.out j hj; omega)
              have HN3 := Lib.hid (show (S.put k (d.add u s)).ds.length < 1000 from by rw [len_put]; exact HYtfofkjcdohmkpaa.out)
              rw [← hwz]
              clear h3 hs3 hb3 hbg hbz hgx hzs hwz cg fg OG OF BF
              go_wp2_with fail
              refine (rstep_sys H3.out).mono ?_
              rintro e2 w2 ⟨rfl, F4, h4, hs4, hb4⟩
              have H4 := Lib.hid h4
              have HS4 := Lib.hid hs4
              have HB4 := Lib.hid hb4
              clear h4 hs4 hb4
              rw [show (S.put k (d.add u s)).p.fails = S.p.fails from rfl]
              cases hf : S.p.fails with
              | true =>
                have HCY := Lib.hid (count_yes (S := S.put k (d.add u s)) hf)
                have HWZ := Lib.hid (show S.write k (u : Int) s = (13, (S.put k (d.add u s)).count) from by rw [HWY.out, hf]; rfl)
                clear hf
                go_wp2_with fail
                refine (rfall_sys H4.out HN3.out HM3.out).mono ?_
                rintro e5 w5 ⟨rfl, F5, h5, hs5, hb5⟩
                have H5 := Lib.hid h5
                have HS5 := Lib.hid hs5
                have HB5 := Lib.hid hb5
                clear h5 hs5 hb5
                go_wp2_with fail
                go_ret
                refine ⟨by rw [HWZ.out]; rfl, ?_⟩
                rw [HWZ.out, HCY.out]
                obtain ⟨F6, h6, hs6, hb6⟩ := RetR.step HS4.out HB4.out H5.out HS5.out HB5.out
                exact RetR.step HS3'.out HB3.out h6 hs6 hb6
              | false =>
                have HCN := Lib.hid (count_no (S := S.put k (d.add u s)) hf HOF.out)
                have HWZ := Lib.hid (show S.write k (u : Int) s = (0, (S.put k (d.add u s)).count) from by rw [HWY.out, hf]; rfl)
                clear hf
                go_wp2_with fail
                go_ret
                refine ⟨by rw [HWZ.out]; rfl, ?_⟩
                rw [HWZ.out, HCN.out]
                exact RetR.step HS3'.out HB3.out H4.out HS4.out HB4.out
            ·
              rw [if_pos (by rfl)]
              refine wp_exec8 (exec_load 38 (.tmp 7) rfl rfl (HX.out.below BW1.out) Try.underlying38 rfl HIS.out) ?_
              refine hK _ _ ?_
              clear hK K
              try simp only [List.getElem_toArray, List.getElem_cons_succ, List.getElem_cons_zero, Act.put, List.setIfInBounds_toArray, List.set_cons_zero, List.set_cons_succ]
              refine wpAny_take (i := 9) (v := .agg (wva (u, s))) rfl (by kernel_rfl) (by kernel_rfl) (by kernel_rfl) (fun _ _ _ h => h) (Or.inl ⟨by rfl, fun W => exec_build8 128 #[(0, .tmp 37), (1, .tmp 38)] rfl (by simp only [List.map_toArray, List.map_cons, List.map_nil]; exact HBW.out W)⟩) ?_
              try simp only [List.getElem_toArray, List.getElem_cons_succ, List.getElem_cons_zero, Act.put, List.setIfInBounds_toArray, List.set_cons_zero, List.set_cons_succ]
              refine wpAny_ready (rs := [6, 10]) (by kernel_rfl) (by simp) (AllReady.cons rfl (fun K hK => ?_) (AllReady.cons rfl (fun K hK => ?_) AllReady.nil))
              ·
                rw [if_pos (by rfl)]
                refine wp_appN _ (.tmp 31) (.tmp 35) 44 rfl waitsElt rfl OE1.out (m := m) rfl ((Rd.ownN HDX.out.wt).below BW1.out) (by rw [wvs_length (fun x hx => (HDX.out.ok.wt x hx).2), HWM.out]) (wvs_one _) (by have := HML.out; have := HWM.out; omega) BW1.out.size ?_
                intro A7 c7 W7 ho hg hl
                have BW7 := Lib.hid (app_belowN BW1.out OE1.out hg (Nat.le_refl _) BW1.out.size)
                have O7 := Lib.hid (show W7.ownsRow wx.heap.size 128 129 (.slice A7 (0 + m) c7) (0 + m) (wvs d.wt) from by have h := ho; rwa [List.nil_append] at h)
                clear ho hg hl
                refine hK _ _ ?_
                clear hK K
                try simp only [List.getElem_toArray, List.getElem_cons_succ, List.getElem_cons_zero, Act.put, List.setIfInBounds_toArray, List.set_cons_zero, List.set_cons_succ]
                refine wpAny_ready (rs := [10]) (by kernel_rfl) (by simp) (AllReady.cons rfl (fun K hK => ?_) AllReady.nil)
                rw [if_pos (by rfl)]
                obtain ⟨W8, hW8⟩ : ∃ WQ, WQ = W7.alloc (.cells (wva (u, s)) 128) := ⟨_, rfl⟩
                have BA8 := Lib.hid (show Below W7.heap.size W7 W8 from by rw [hW8]; exact (Below.refl _ _).alloc (Nat.le_refl _) _)
                have BW8 := Lib.hid (BW7.out.trans (BA8.out.mono BW7.out.size))
                have HS8 := Lib.hid (show W8.heap.size = W7.heap.size + 1 from by rw [hW8]; simp)
                have BQ8 := Lib.hid (show Blk W8 W7.heap.size (wva (u, s)) 128 from by rw [hW8]; exact heap_alloc_new _ _)
                refine wp_buildSliceN 44 1 #[(0, .tmp 39)] rfl (by simp only [List.map_toArray, List.map_cons, List.map_nil]; exact run_oneN waitsElt W7 (.agg (wva (u, s))) (by show (wva (u, s)).size = 129; exact wva_size HS3.out) (by omega)) ?_
                change K _ (W7.alloc (.cells (wva (u, s)) 128))
                refine hK _ _ ?_
                clear hK K
                rw [← hW8]
                clear hW8
                have O8 := Lib.hid (own_belowN O7.out BA8.out)
                try simp only [List.getElem_toArray, List.getElem_cons_succ, List.getElem_cons_zero, Act.put, List.setIfInBounds_toArray, List.set_cons_zero, List.set_cons_succ]
                refine wpAny_ready (rs := [11]) (by kernel_rfl) (by simp) (AllReady.cons rfl (fun K hK => ?_) AllReady.nil)
                rw [if_pos (by rfl)]
                have RB := Lib.hid (show Rd W8.heap.size W8 (some ⟨W7.heap.size, 0, none⟩) (wv (u, s)) from fun q v hv => ⟨_, rfl, BQ8.out.lt, by rw [Addr.add_mid, BQ8.out.cell, Nat.zero_add, wva, List.getElem?_toArray]; exact hv⟩)
                refine wp_appN _ (.tmp 36) (.tmp 40) 44 rfl waitsElt rfl O8.out (m := 1) rfl RB.out (by rw [wv_length (x := (u, s)) HS3.out]) (wv_one _) (by have := HML.out; have := HWM.out; omega) BW8.out.size ?_
                intro AF cF wF ho hg hl
                have BF := Lib.hid (app_belowN BW8.out O8.out hg (Nat.le_refl _) BW8.out.size)
                have OF := Lib.hid ho
                clear ho hg hl RB
                refine hK _ _ ?_
                clear hK K
                try simp only [List.getElem_toArray, List.getElem_cons_succ, List.getElem_cons_zero, Act.put, List.setIfInBounds_toArray, List.set_cons_zero, List.set_cons_succ]
                refine wpAny_take (i := 12) (v := ?bf912) rfl (by kernel_rfl) (by kernel_rfl) (by kernel_rfl) (fun _ _ _ h => h) (Or.inl ⟨by rfl, ?yf912⟩) ?_
                case yf912 => (intro w'; go_simp; try with_reducible rfl)
                try simp only [List.getElem_toArray, List.getElem_cons_succ, List.getElem_cons_zero, Act.put, List.setIfInBounds_toArray, List.set_cons_zero, List.set_cons_succ]
                refine wpAny_take (i := 13) (v := ?bf913) rfl (by kernel_rfl) (by kernel_rfl) (by kernel_rfl) (fun _ _ _ h => h) (Or.inl ⟨by rfl, ?yf913⟩) ?_
                case yf913 => (intro w'; go_simp; try with_reducible rfl)
                try simp only [List.getElem_toArray, List.getElem_cons_succ, List.getElem_cons_zero, Act.put, List.setIfInBounds_toArray, List.set_cons_zero, List.set_cons_succ]
                have cg := (HDX.out.blk.below BF.out).cell 1
                have fg := (HDX.out.blk.below BF.out).free 1
                refine wpAny_ready (rs := [14]) (by kernel_rfl) (by simp) (AllReady.cons rfl (fun K hK => ?_) AllReady.nil)
                rw [if_pos (by rfl)]
                go_simp
                refine hK _ _ ?_
                clear hK K
                try simp only [List.getElem_toArray, List.getElem_cons_succ, List.getElem_cons_zero, Act.put, List.setIfInBounds_toArray, List.set_cons_zero, List.set_cons_succ]
                refine wpAny_done (by kernel_rfl) ?_ _
                obtain ⟨wz, hwz⟩ : ∃ wz, wz = wF.setCell ⟨g, 1, none⟩ (.slice AF (m + 1) cF) := ⟨_, rfl⟩
                have OG := Lib.hid (show wF.ownsRow wx.heap.size 128 129 (.slice AF (m + 1) cF) (m + 1) (wvs (d.add u s).wt) from by
                  have h := OF.out
                  rw [Nat.zero_add] at h
                  have e1 : wvs (d.add u s).wt = wvs d.wt ++ wv (u, s) := by show wvs (d.wt ++ [(u, s)]) = _; rw [wvs_append]; show _ ++ (wv (u, s) ++ []) = _; rw [List.append_nil]
                  rw [e1]; exact h)
                have hbz : But (fun q => q = g) wF wz := by rw [hwz]; exact but_one _
                have hgx : g < wx.heap.size := HDX.out.blk.lt
                have hzs : wF.heap.size = wz.heap.size := by rw [hwz]; simp
                have HDZ := Lib.hid (show RdO wz g (d.add u s) A n c AF (m + 1) cF from
                  ⟨by rw [hwz]; exact blk_setN8 (HDX.out.blk.below BF.out) 1 _, Own.but (own_belowN HDX.out.st BF.out) hbz (fun q hq => HDX.out.apart.1 q hq),
                   Own.but (⟨OG.out.1, OG.out.2.imp id (fun ⟨a1, a2, a3, a4, _, a6⟩ => ⟨a1, a2, a3, a4, Nat.zero_le _, a6⟩)⟩ : wF.ownsRow 0 128 129 (.slice AF (m + 1) cF) (m + 1) (wvs (d.add u s).wt)) hbz (fun q hq e => by have := (OG.out.lt q hq).1; omega),
                   HDX.out.stn, by show (d.wt ++ [(u, s)]).length = m + 1; rw [List.length_append, HWM.out]; rfl, add_ok HDX.out.ok (by rw [HSTN.out]; exact HU.out) HS3.out, fun e => by have h : d.gone = true := e; rw [HGN.out] at h; cases h⟩)
                have hbg : But (fun q => q = g) w wz := (But.of_below (BW.out.trans (BF.out.mono BW.out.size)) (fun q a b => absurd a (by omega))).trans hbz
                have hret := HR.out.ret HF.out HL.out (k := k) HK.out (hbg.mono (T := Fs k) (fun q e => HDF.out q (.inl e))) (d := d.add u s) (by rw [← HGG.out]; exact ⟨A, n, c, AF, m + 1, cF, HDZ.out, by
                  rintro q (h1 | h1 | h1)
                  · exact .inl (HDF.out q (.inl h1))
                  · exact .inl (HDF.out q (.inr (.inl h1)))
                  · have h2 := OG.out.lt q h1
                    have h3 := BW.out.size
                    exact .inr ⟨by omega, by omega⟩⟩)
                obtain ⟨F3, h3, hs3, hb3⟩ := hret
                have H3 := Lib.hid h3
                have HS3' := Lib.hid hs3
                have HB3 := Lib.hid hb3
                have HWY := Lib.hid (show S.write k (u : Int) s = (if S.p.fails then 13 else 0, (S.put k (d.add u s)).count) from by rw [HDD.out]; exact write_yes HRF.out)
                have HM3 := Lib.hid (show ∀ j, j < (S.put k (d.add u s)).ds.length → ((S.put k (d.add u s)).at j).wt.length < 1000000 from fun j hj => by
                  rw [len_put] at hj
                  rw [at_put _ HK.out]
                  split
                  · show (d.wt ++ [(u, s)]).length < _
                    rw [List.length_append]; have := HML.out; simp; omega
                  · have := HMM.out j hj; omega)
                have HN3 := Lib.hid (show (S.put k (d.add u s)).ds.length < 1000 from by rw [len_put]; exact HYtfofkjcdohmkpaa.out)
                rw [← hwz]
                clear h3 hs3 hb3 hbg hbz hgx hzs hwz cg fg OG OF BF
                go_wp2_with fail
                refine (rstep_sys H3.out).mono ?_
                rintro e2 w2 ⟨rfl, F4, h4, hs4, hb4⟩
                have H4 := Lib.hid h4
                have HS4 := Lib.hid hs4
                have HB4 := Lib.hid hb4
                clear h4 hs4 hb4
                rw [show (S.put k (d.add u s)).p.fails = S.p.fails from rfl]
                cases hf : S.p.fails with
                | true =>
                  have HCY := Lib.hid (count_yes (S := S.put k (d.add u s)) hf)
                  have HWZ := Lib.hid (show S.write k (u : Int) s = (13, (S.put k (d.add u s)).count) from by rw [HWY.out, hf]; rfl)
                  clear hf
                  go_wp2_with fail
                  refine (rfall_sys H4.out HN3.out HM3.out).mono ?_
                  rintro e5 w5 ⟨rfl, F5, h5, hs5, hb5⟩
                  have H5 := Lib.hid h5
                  have HS5 := Lib.hid hs5
                  have HB5 := Lib.hid hb5
                  clear h5 hs5 hb5
                  go_wp2_with fail
                  go_ret
                  refine ⟨by rw [HWZ.out]; rfl, ?_⟩
                  rw [HWZ.out, HCY.out]
                  obtain ⟨F6, h6, hs6, hb6⟩ := RetR.step HS4.out HB4.out H5.out HS5.out HB5.out
                  exact RetR.step HS3'.out HB3.out h6 hs6 hb6
                | false =>
                  have HCN := Lib.hid (count_no (S := S.put k (d.add u s)) hf HOF.out)
                  have HWZ := Lib.hid (show S.write k (u : Int) s = (0, (S.put k (d.add u s)).count) from by rw [HWY.out, hf]; rfl)
                  clear hf
                  go_wp2_with fail
                  go_ret
                  refine ⟨by rw [HWZ.out]; rfl, ?_⟩
                  rw [HWZ.out, HCN.out]
                  exact RetR.step HS3'.out HB3.out H4.out HS4.out HB4.out
              ·
                rw [if_pos (by rfl)]
                obtain ⟨W10, hW10⟩ : ∃ WQ, WQ = W1.alloc (.cells (wva (u, s)) 128) := ⟨_, rfl⟩
                have BA10 := Lib.hid (show Below W1.heap.size W1 W10 from by rw [hW10]; exact (Below.refl _ _).alloc (Nat.le_refl _) _)
                have BW10 := Lib.hid (BW1.out.trans (BA10.out.mono BW1.out.size))
                have HS10 := Lib.hid (show W10.heap.size = W1.heap.size + 1 from by rw [hW10]; simp)
                have BQ10 := Lib.hid (show Blk W10 W1.heap.size (wva (u, s)) 128 from by rw [hW10]; exact heap_alloc_new _ _)
                refine wp_buildSliceN 44 1 #[(0, .tmp 39)] rfl (by simp only [List.map_toArray, List.map_cons, List.map_nil]; exact run_oneN waitsElt W1 (.agg (wva (u, s))) (by show (wva (u, s)).size = 129; exact wva_size HS3.out) (by omega)) ?_
                change K _ (W1.alloc (.cells (wva (u, s)) 128))
                refine hK _ _ ?_
                clear hK K
                rw [← hW10]
                clear hW10
                have OE10 := Lib.hid (own_belowN OE1.out BA10.out)
                have NE10 := Lib.hid (show W1.heap.size ≠ wd.heap.size from by have := (OE1.out.lt _ rfl).2; replace this : wd.heap.size < W1.heap.size := this; omega)
                try simp only [List.getElem_toArray, List.getElem_cons_succ, List.getElem_cons_zero, Act.put, List.setIfInBounds_toArray, List.set_cons_zero, List.set_cons_succ]
                refine wpAny_ready (rs := [6]) (by kernel_rfl) (by simp) (AllReady.cons rfl (fun K hK => ?_) AllReady.nil)
                rw [if_pos (by rfl)]
                refine wp_appN _ (.tmp 31) (.tmp 35) 44 rfl waitsElt rfl OE10.out (m := m) rfl ((Rd.ownN HDX.out.wt).below BW10.out) (by rw [wvs_length (fun x hx => (HDX.out.ok.wt x hx).2), HWM.out]) (wvs_one _) (by have := HML.out; have := HWM.out; omega) BW10.out.size ?_
                intro A11 c11 W11 ho hg hl
                have BW11 := Lib.hid (app_belowN BW10.out OE10.out hg (Nat.le_refl _) BW10.out.size)
                have O11 := Lib.hid (show W11.ownsRow wx.heap.size 128 129 (.slice A11 (0 + m) c11) (0 + m) (wvs d.wt) from by have h := ho; rwa [List.nil_append] at h)
                have BQ11 := Lib.hid (BQ10.out.but ((But.refl W10).grown hg (fun q hq => .inl hq) : But (fun q => some wd.heap.size = some q) W10 W11) (fun e => NE10.out (Option.some.inj e).symm))
                clear ho hg hl
                refine hK _ _ ?_
                clear hK K
                try simp only [List.getElem_toArray, List.getElem_cons_succ, List.getElem_cons_zero, Act.put, List.setIfInBounds_toArray, List.set_cons_zero, List.set_cons_succ]
                refine wpAny_ready (rs := [11]) (by kernel_rfl) (by simp) (AllReady.cons rfl (fun K hK => ?_) AllReady.nil)
                rw [if_pos (by rfl)]
                have RB := Lib.hid (show Rd W11.heap.size W11 (some ⟨W1.heap.size, 0, none⟩) (wv (u, s)) from fun q v hv => ⟨_, rfl, BQ11.out.lt, by rw [Addr.add_mid, BQ11.out.cell, Nat.zero_add, wva, List.getElem?_toArray]; exact hv⟩)
                refine wp_appN _ (.tmp 36) (.tmp 40) 44 rfl waitsElt rfl O11.out (m := 1) rfl RB.out (by rw [wv_length (x := (u, s)) HS3.out]) (wv_one _) (by have := HML.out; have := HWM.out; omega) BW11.out.size ?_
                intro AF cF wF ho hg hl
                have BF := Lib.hid (app_belowN BW11.out O11.out hg (Nat.le_refl _) BW11.out.size)
                have OF := Lib.hid ho
                clear ho hg hl RB
                refine hK _ _ ?_
                clear hK K
                try simp only [List.getElem_toArray, List.getElem_cons_succ, List.getElem_cons_zero, Act.put, List.setIfInBounds_toArray, List.set_cons_zero, List.set_cons_succ]
                refine wpAny_take (i := 12) (v := ?bf1212) rfl (by kernel_rfl) (by kernel_rfl) (by kernel_rfl) (fun _ _ _ h => h) (Or.inl ⟨by rfl, ?yf1212⟩) ?_
                case yf1212 => (intro w'; go_simp; try with_reducible rfl)
                try simp only [List.getElem_toArray, List.getElem_cons_succ, List.getElem_cons_zero, Act.put, List.setIfInBounds_toArray, List.set_cons_zero, List.set_cons_succ]
                refine wpAny_take (i := 13) (v := ?bf1213) rfl (by kernel_rfl) (by kernel_rfl) (by kernel_rfl) (fun _ _ _ h => h) (Or.inl ⟨by rfl, ?yf1213⟩) ?_
                case yf1213 => (intro w'; go_simp; try with_reducible rfl)
                try simp only [List.getElem_toArray, List.getElem_cons_succ, List.getElem_cons_zero, Act.put, List.setIfInBounds_toArray, List.set_cons_zero, List.set_cons_succ]
                have cg := (HDX.out.blk.below BF.out).cell 1
                have fg := (HDX.out.blk.below BF.out).free 1
                refine wpAny_ready (rs := [14]) (by kernel_rfl) (by simp) (AllReady.cons rfl (fun K hK => ?_) AllReady.nil)
                rw [if_pos (by rfl)]
                go_simp
                refine hK _ _ ?_
                clear hK K
                try simp only [List.getElem_toArray, List.getElem_cons_succ, List.getElem_cons_zero, Act.put, List.setIfInBounds_toArray, List.set_cons_zero, List.set_cons_succ]
                refine wpAny_done (by kernel_rfl) ?_ _
                obtain ⟨wz, hwz⟩ : ∃ wz, wz = wF.setCell ⟨g, 1, none⟩ (.slice AF (m + 1) cF) := ⟨_, rfl⟩
                have OG := Lib.hid (show wF.ownsRow wx.heap.size 128 129 (.slice AF (m + 1) cF) (m + 1) (wvs (d.add u s).wt) from by
                  have h := OF.out
                  rw [Nat.zero_add] at h
                  have e1 : wvs (d.add u s).wt = wvs d.wt ++ wv (u, s) := by show wvs (d.wt ++ [(u, s)]) = _; rw [wvs_append]; show _ ++ (wv (u, s) ++ []) = _; rw [List.append_nil]
                  rw [e1]; exact h)
                have hbz : But (fun q => q = g) wF wz := by rw [hwz]; exact but_one _
                have hgx : g < wx.heap.size := HDX.out.blk.lt
                have hzs : wF.heap.size = wz.heap.size := by rw [hwz]; simp
                have HDZ := Lib.hid (show RdO wz g (d.add u s) A n c AF (m + 1) cF from
                  ⟨by rw [hwz]; exact blk_setN8 (HDX.out.blk.below BF.out) 1 _, Own.but (own_belowN HDX.out.st BF.out) hbz (fun q hq => HDX.out.apart.1 q hq),
                   Own.but (⟨OG.out.1, OG.out.2.imp id (fun ⟨a1, a2, a3, a4, _, a6⟩ => ⟨a1, a2, a3, a4, Nat.zero_le _, a6⟩)⟩ : wF.ownsRow 0 128 129 (.slice AF (m + 1) cF) (m + 1) (wvs (d.add u s).wt)) hbz (fun q hq e => by have := (OG.out.lt q hq).1; omega),
                   HDX.out.stn, by show (d.wt ++ [(u, s)]).length = m + 1; rw [List.length_append, HWM.out]; rfl, add_ok HDX.out.ok (by rw [HSTN.out]; exact HU.out) HS3.out, fun e => by have h : d.gone = true := e; rw [HGN.out] at h; cases h⟩)
                have hbg : But (fun q => q = g) w wz := (But.of_below (BW.out.trans (BF.out.mono BW.out.size)) (fun q a b => absurd a (by omega))).trans hbz
                have hret := HR.out.ret HF.out HL.out (k := k) HK.out (hbg.mono (T := Fs k) (fun q e => HDF.out q (.inl e))) (d := d.add u s) (by rw [← HGG.out]; exact ⟨A, n, c, AF, m + 1, cF, HDZ.out, by
                  rintro q (h1 | h1 | h1)
                  · exact .inl (HDF.out q (.inl h1))
                  · exact .inl (HDF.out q (.inr (.inl h1)))
                  · have h2 := OG.out.lt q h1
                    have h3 := BW.out.size
                    exact .inr ⟨by omega, by omega⟩⟩)
                obtain ⟨F3, h3, hs3, hb3⟩ := hret
                have H3 := Lib.hid h3
                have HS3' := Lib.hid hs3
                have HB3 := Lib.hid hb3
                have HWY := Lib.hid (show S.write k (u : Int) s = (if S.p.fails then 13 else 0, (S.put k (d.add u s)).count) from by rw [HDD.out]; exact write_yes HRF.out)
                have HM3 := Lib.hid (show ∀ j, j < (S.put k (d.add u s)).ds.length → ((S.put k (d.add u s)).at j).wt.length < 1000000 from fun j hj => by
                  rw [len_put] at hj
                  rw [at_put _ HK.out]
                  split
                  · show (d.wt ++ [(u, s)]).length < _
                    rw [List.length_append]; have := HML.out; simp; omega
                  · have := HMM.out j hj; omega)
                have HN3 := Lib.hid (show (S.put k (d.add u s)).ds.length < 1000 from by rw [len_put]; exact HYtfofkjcdohmkpaa.out)
                rw [← hwz]
                clear h3 hs3 hb3 hbg hbz hgx hzs hwz cg fg OG OF BF
                go_wp2_with fail
                refine (rstep_sys H3.out).mono ?_
                rintro e2 w2 ⟨rfl, F4, h4, hs4, hb4⟩
                have H4 := Lib.hid h4
                have HS4 := Lib.hid hs4
                have HB4 := Lib.hid hb4
                clear h4 hs4 hb4
                rw [show (S.put k (d.add u s)).p.fails = S.p.fails from rfl]
                cases hf : S.p.fails with
                | true =>
                  have HCY := Lib.hid (count_yes (S := S.put k (d.add u s)) hf)
                  have HWZ := Lib.hid (show S.write k (u : Int) s = (13, (S.put k (d.add u s)).count) from by rw [HWY.out, hf]; rfl)
                  clear hf
                  go_wp2_with fail
                  refine (rfall_sys H4.out HN3.out HM3.out).mono ?_
                  rintro e5 w5 ⟨rfl, F5, h5, hs5, hb5⟩
                  have H5 := Lib.hid h5
                  have HS5 := Lib.hid hs5
                  have HB5 := Lib.hid hb5
                  clear h5 hs5 hb5
                  go_wp2_with fail
                  go_ret
                  refine ⟨by rw [HWZ.out]; rfl, ?_⟩
                  rw [HWZ.out, HCY.out]
                  obtain ⟨F6, h6, hs6, hb6⟩ := RetR.step HS4.out HB4.out H5.out HS5.out HB5.out
                  exact RetR.step HS3'.out HB3.out h6 hs6 hb6
                | false =>
                  have HCN := Lib.hid (count_no (S := S.put k (d.add u s)) hf HOF.out)
                  have HWZ := Lib.hid (show S.write k (u : Int) s = (0, (S.put k (d.add u s)).count) from by rw [HWY.out, hf]; rfl)
                  clear hf
                  go_wp2_with fail
                  go_ret
                  refine ⟨by rw [HWZ.out]; rfl, ?_⟩
                  rw [HWZ.out, HCN.out]
                  exact RetR.step HS3'.out HB3.out H4.out HS4.out HB4.out
          ·
            rw [if_pos (by rfl)]
            refine wp_exec8 (exec_load 38 (.tmp 7) rfl rfl (HX.out.below BD.out) Try.underlying38 rfl HIS.out) ?_
            refine hK _ _ ?_
            clear hK K
            try simp only [List.getElem_toArray, List.getElem_cons_succ, List.getElem_cons_zero, Act.put, List.setIfInBounds_toArray, List.set_cons_zero, List.set_cons_succ]
            refine wpAny_take (i := 9) (v := .agg (wva (u, s))) rfl (by kernel_rfl) (by kernel_rfl) (by kernel_rfl) (fun _ _ _ h => h) (Or.inl ⟨by rfl, fun W => exec_build8 128 #[(0, .tmp 37), (1, .tmp 38)] rfl (by simp only [List.map_toArray, List.map_cons, List.map_nil]; exact HBW.out W)⟩) ?_
            try simp only [List.getElem_toArray, List.getElem_cons_succ, List.getElem_cons_zero, Act.put, List.setIfInBounds_toArray, List.set_cons_zero, List.set_cons_succ]
            refine wpAny_ready (rs := [1, 10]) (by kernel_rfl) (by simp) (AllReady.cons rfl (fun K hK => ?_) (AllReady.cons rfl (fun K hK => ?_) AllReady.nil))
            ·
              rw [if_pos (by rfl)]
              obtain ⟨W14, hW14⟩ : ∃ WQ, WQ = wd.alloc (.cells #[] 128) := ⟨_, rfl⟩
              have BA14 := Lib.hid (show Below wd.heap.size wd W14 from by rw [hW14]; exact (Below.refl _ _).alloc (Nat.le_refl _) _)
              have BW14 := Lib.hid (BD.out.trans (BA14.out.mono BD.out.size))
              have HS14 := Lib.hid (show W14.heap.size = wd.heap.size + 1 from by rw [hW14]; simp)
              have OE14 := Lib.hid (show W14.ownsRow wx.heap.size 128 129 (.slice (some ⟨wd.heap.size, 0, none⟩) 0 0) 0 [] from by rw [hW14]; exact World.ownsRow_lit (size := 129) wd #[] 0 BD.out.size (Nat.zero_le _) rfl)
              go_simp
              refine hK _ _ ?_
              clear hK K
              rw [← hW14]
              clear hW14
              try simp only [List.getElem_toArray, List.getElem_cons_succ, List.getElem_cons_zero, Act.put, List.setIfInBounds_toArray, List.set_cons_zero, List.set_cons_succ]
              refine wpAny_ready (rs := [6, 10]) (by kernel_rfl) (by simp) (AllReady.cons rfl (fun K hK => ?_) (AllReady.cons rfl (fun K hK => ?_) AllReady.nil))
              ·
                rw [if_pos (by rfl)]
                refine wp_appN _ (.tmp 31) (.tmp 35) 44 rfl waitsElt rfl OE14.out (m := m) rfl ((Rd.ownN HDX.out.wt).below BW14.out) (by rw [wvs_length (fun x hx => (HDX.out.ok.wt x hx).2), HWM.out]) (wvs_one _) (by have := HML.out; have := HWM.out; omega) BW14.out.size ?_
                intro A15 c15 W15 ho hg hl
                have BW15 := Lib.hid (app_belowN BW14.out OE14.out hg (Nat.le_refl _) BW14.out.size)
                have O15 := Lib.hid (show W15.ownsRow wx.heap.size 128 129 (.slice A15 (0 + m) c15) (0 + m) (wvs d.wt) from by have h := ho; rwa [List.nil_append] at h)
                clear ho hg hl
                refine hK _ _ ?_
                clear hK K
                try simp only [List.getElem_toArray, List.getElem_cons_succ, List.getElem_cons_zero, Act.put, List.setIfInBounds_toArray, List.set_cons_zero, List.set_cons_succ]
                refine wpAny_ready (rs := [10]) (by kernel_rfl) (by simp) (AllReady.cons rfl (fun K hK => ?_) AllReady.nil)
                rw [if_pos (by rfl)]
                obtain ⟨W16, hW16⟩ : ∃ WQ, WQ = W15.alloc (.cells (wva (u, s)) 128) := ⟨_, rfl⟩
                have BA16 := Lib.hid (show Below W15.heap.size W15 W16 from by rw [hW16]; exact (Below.refl _ _).alloc (Nat.le_refl _) _)
                have BW16 := Lib.hid (BW15.out.trans (BA16.out.mono BW15.out.size))
                have HS16 := Lib.hid (show W16.heap.size = W15.heap.size + 1 from by rw [hW16]; simp)
                have BQ16 := Lib.hid (show Blk W16 W15.heap.size (wva (u, s)) 128 from by rw [hW16]; exact heap_alloc_new _ _)
                refine wp_buildSliceN 44 1 #[(0, .tmp 39)] rfl (by simp only [List.map_toArray, List.map_cons, List.map_nil]; exact run_oneN waitsElt W15 (.agg (wva (u, s))) (by show (wva (u, s)).size = 129; exact wva_size HS3.out) (by omega)) ?_
                change K _ (W15.alloc (.cells (wva (u, s)) 128))
                refine hK _ _ ?_
                clear hK K
                rw [← hW16]
                clear hW16
                have O16 := Lib.hid (own_belowN O15.out BA16.out)
                try simp only [List.getElem_toArray, List.getElem_cons_succ, List.getElem_cons_zero, Act.put, List.setIfInBounds_toArray, List.set_cons_zero, List.set_cons_succ]
                refine wpAny_ready (rs := [11]) (by kernel_rfl) (by simp) (AllReady.cons rfl (fun K hK => ?_) AllReady.nil)
                rw [if_pos (by rfl)]
                have RB := Lib.hid (show Rd W16.heap.size W16 (some ⟨W15.heap.size, 0, none⟩) (wv (u, s)) from fun q v hv => ⟨_, rfl, BQ16.out.lt, by rw [Addr.add_mid, BQ16.out.cell, Nat.zero_add, wva, List.getElem?_toArray]; exact hv⟩)
                refine wp_appN _ (.tmp 36) (.tmp 40) 44 rfl waitsElt rfl O16.out (m := 1) rfl RB.out (by rw [wv_length (x := (u, s)) HS3.out]) (wv_one _) (by have := HML.out; have := HWM.out; omega) BW16.out.size ?_
                intro AF cF wF ho hg hl
                have BF := Lib.hid (app_belowN BW16.out O16.out hg (Nat.le_refl _) BW16.out.size)
                have OF := Lib.hid ho
                clear ho hg hl RB
                refine hK _ _ ?_
                clear hK K
                try simp only [List.getElem_toArray, List.getElem_cons_succ, List.getElem_cons_zero, Act.put, List.setIfInBounds_toArray, List.set_cons_zero, List.set_cons_succ]
                refine wpAny_take (i := 12) (v := ?bf1712) rfl (by kernel_rfl) (by kernel_rfl) (by kernel_rfl) (fun _ _ _ h => h) (Or.inl ⟨by rfl, ?yf1712⟩) ?_
                case yf1712 => (intro w'; go_simp; try with_reducible rfl)
                try simp only [List.getElem_toArray, List.getElem_cons_succ, List.getElem_cons_zero, Act.put, List.setIfInBounds_toArray, List.set_cons_zero, List.set_cons_succ]
                refine wpAny_take (i := 13) (v := ?bf1713) rfl (by kernel_rfl) (by kernel_rfl) (by kernel_rfl) (fun _ _ _ h => h) (Or.inl ⟨by rfl, ?yf1713⟩) ?_
                case yf1713 => (intro w'; go_simp; try with_reducible rfl)
                try simp only [List.getElem_toArray, List.getElem_cons_succ, List.getElem_cons_zero, Act.put, List.setIfInBounds_toArray, List.set_cons_zero, List.set_cons_succ]
                have cg := (HDX.out.blk.below BF.out).cell 1
                have fg := (HDX.out.blk.below BF.out).free 1
                refine wpAny_ready (rs := [14]) (by kernel_rfl) (by simp) (AllReady.cons rfl (fun K hK => ?_) AllReady.nil)
                rw [if_pos (by rfl)]
                go_simp
                refine hK _ _ ?_
                clear hK K
                try simp only [List.getElem_toArray, List.getElem_cons_succ, List.getElem_cons_zero, Act.put, List.setIfInBounds_toArray, List.set_cons_zero, List.set_cons_succ]
                refine wpAny_done (by kernel_rfl) ?_ _
                obtain ⟨wz, hwz⟩ : ∃ wz, wz = wF.setCell ⟨g, 1, none⟩ (.slice AF (m + 1) cF) := ⟨_, rfl⟩
                have OG := Lib.hid (show wF.ownsRow wx.heap.size 128 129 (.slice AF (m + 1) cF) (m + 1) (wvs (d.add u s).wt) from by
                  have h := OF.out
                  rw [Nat.zero_add] at h
                  have e1 : wvs (d.add u s).wt = wvs d.wt ++ wv (u, s) := by show wvs (d.wt ++ [(u, s)]) = _; rw [wvs_append]; show _ ++ (wv (u, s) ++ []) = _; rw [List.append_nil]
                  rw [e1]; exact h)
                have hbz : But (fun q => q = g) wF wz := by rw [hwz]; exact but_one _
                have hgx : g < wx.heap.size := HDX.out.blk.lt
                have hzs : wF.heap.size = wz.heap.size := by rw [hwz]; simp
                have HDZ := Lib.hid (show RdO wz g (d.add u s) A n c AF (m + 1) cF from
                  ⟨by rw [hwz]; exact blk_setN8 (HDX.out.blk.below BF.out) 1 _, Own.but (own_belowN HDX.out.st BF.out) hbz (fun q hq => HDX.out.apart.1 q hq),
                   Own.but (⟨OG.out.1, OG.out.2.imp id (fun ⟨a1, a2, a3, a4, _, a6⟩ => ⟨a1, a2, a3, a4, Nat.zero_le _, a6⟩)⟩ : wF.ownsRow 0 128 129 (.slice AF (m + 1) cF) (m + 1) (wvs (d.add u s).wt)) hbz (fun q hq e => by have := (OG.out.lt q hq).1; omega),
                   HDX.out.stn, by show (d.wt ++ [(u, s)]).length = m + 1; rw [List.length_append, HWM.out]; rfl, add_ok HDX.out.ok (by rw [HSTN.out]; exact HU.out) HS3.out, fun e => by have h : d.gone = true := e; rw [HGN.out] at h; cases h⟩)
                have hbg : But (fun q => q = g) w wz := (But.of_below (BW.out.trans (BF.out.mono BW.out.size)) (fun q a b => absurd a (by omega))).trans hbz
                have hret := HR.out.ret HF.out HL.out (k := k) HK.out (hbg.mono (T := Fs k) (fun q e => HDF.out q (.inl e))) (d := d.add u s) (by rw [← HGG.out]; exact ⟨A, n, c, AF, m + 1, cF, HDZ.out, by
                  rintro q (h1 | h1 | h1)
                  · exact .inl (HDF.out q (.inl h1))
                  · exact .inl (HDF.out q (.inr (.inl h1)))
                  · have h2 := OG.out.lt q h1
                    have h3 := BW.out.size
                    exact .inr ⟨by omega, by omega⟩⟩)
                obtain ⟨F3, h3, hs3, hb3⟩ := hret
                have H3 := Lib.hid h3
                have HS3' := Lib.hid hs3
                have HB3 := Lib.hid hb3
                have HWY := Lib.hid (show S.write k (u : Int) s = (if S.p.fails then 13 else 0, (S.put k (d.add u s)).count) from by rw [HDD.out]; exact write_yes HRF.out)
                have HM3 := Lib.hid (show ∀ j, j < (S.put k (d.add u s)).ds.length → ((S.put k (d.add u s)).at j).wt.length < 1000000 from fun j hj => by
                  rw [len_put] at hj
                  rw [at_put _ HK.out]
                  split
                  · show (d.wt ++ [(u, s)]).length < _
                    rw [List.length_append]; have := HML.out; simp; omega
                  · have := HMM.out j hj; omega)
                have HN3 := Lib.hid (show (S.put k (d.add u s)).ds.length < 1000 from by rw [len_put]; exact HYtfofkjcdohmkpaa.out)
                rw [← hwz]
                clear h3 hs3 hb3 hbg hbz hgx hzs hwz cg fg OG OF BF
                go_wp2_with fail
                refine (rstep_sys H3.out).mono ?_
                rintro e2 w2 ⟨rfl, F4, h4, hs4, hb4⟩
                have H4 := Lib.hid h4
                have HS4 := Lib.hid hs4
                have HB4 := Lib.hid hb4
                clear h4 hs4 hb4
                rw [show (S.put k (d.add u s)).p.fails = S.p.fails from rfl]
                cases hf : S.p.fails with
                | true =>
                  have HCY := Lib.hid (count_yes (S := S.put k (d.add u s)) hf)
                  have HWZ := Lib.hid (show S.write k (u : Int) s = (13, (S.put k (d.add u s)).count) from by rw [HWY.out, hf]; rfl)
                  clear hf
                  go_wp2_with fail
                  refine (rfall_sys H4.out HN3.out HM3.out).mono ?_
                  rintro e5 w5 ⟨rfl, F5, h5, hs5, hb5⟩
                  have H5 := Lib.hid h5
                  have HS5 := Lib.hid hs5
                  have HB5 := Lib.hid hb5
                  clear h5 hs5 hb5
                  go_wp2_with fail
                  go_ret
                  refine ⟨by rw [HWZ.out]; rfl, ?_⟩
                  rw [HWZ.out, HCY.out]
                  obtain ⟨F6, h6, hs6, hb6⟩ := RetR.step HS4.out HB4.out H5.out HS5.out HB5.out
                  exact RetR.step HS3'.out HB3.out h6 hs6 hb6
                | false =>
                  have HCN := Lib.hid (count_no (S := S.put k (d.add u s)) hf HOF.out)
                  have HWZ := Lib.hid (show S.write k (u : Int) s = (0, (S.put k (d.add u s)).count) from by rw [HWY.out, hf]; rfl)
                  clear hf
                  go_wp2_with fail
                  go_ret
                  refine ⟨by rw [HWZ.out]; rfl, ?_⟩
                  rw [HWZ.out, HCN.out]
                  exact RetR.step HS3'.out HB3.out H4.out HS4.out HB4.out
              ·
                rw [if_pos (by rfl)]
                obtain ⟨W18, hW18⟩ : ∃ WQ, WQ = W14.alloc (.cells (wva (u, s)) 128) := ⟨_, rfl⟩
                have BA18 := Lib.hid (show Below W14.heap.size W14 W18 from by rw [hW18]; exact (Below.refl _ _).alloc (Nat.le_refl _) _)
                have BW18 := Lib.hid (BW14.out.trans (BA18.out.mono BW14.out.size))
                have HS18 := Lib.hid (show W18.heap.size = W14.heap.size + 1 from by rw [hW18]; simp)
                have BQ18 := Lib.hid (show Blk W18 W14.heap.size (wva (u, s)) 128 from by rw [hW18]; exact heap_alloc_new _ _)
                refine wp_buildSliceN 44 1 #[(0, .tmp 39)] rfl (by simp only [List.map_toArray, List.map_cons, List.map_nil]; exact run_oneN waitsElt W14 (.agg (wva (u, s))) (by show (wva (u, s)).size = 129; exact wva_size HS3.out) (by omega)) ?_
                change K _ (W14.alloc (.cells (wva (u, s)) 128))
                refine hK _ _ ?_
                clear hK K
                rw [← hW18]
                clear hW18
                have OE18 := Lib.hid (own_belowN OE14.out BA18.out)
                have NE18 := Lib.hid (show W14.heap.size ≠ wd.heap.size from by have := (OE14.out.lt _ rfl).2; replace this : wd.heap.size < W14.heap.size := this; omega)
                try simp only [List.getElem_toArray, List.getElem_cons_succ, List.getElem_cons_zero, Act.put, List.setIfInBounds_toArray, List.set_cons_zero, List.set_cons_succ]
                refine wpAny_ready (rs := [6]) (by kernel_rfl) (by simp) (AllReady.cons rfl (fun K hK => ?_) AllReady.nil)
                rw [if_pos (by rfl)]
                refine wp_appN _ (.tmp 31) (.tmp 35) 44 rfl waitsElt rfl OE18.out (m := m) rfl ((Rd.ownN HDX.out.wt).below BW18.out) (by rw [wvs_length (fun x hx => (HDX.out.ok.wt x hx).2), HWM.out]) (wvs_one _) (by have := HML.out; have := HWM.out; omega) BW18.out.size ?_
                intro A19 c19 W19 ho hg hl
                have BW19 := Lib.hid (app_belowN BW18.out OE18.out hg (Nat.le_refl _) BW18.out.size)
                have O19 := Lib.hid (show W19.ownsRow wx.heap.size 128 129 (.slice A19 (0 + m) c19) (0 + m) (wvs d.wt) from by have h := ho; rwa [List.nil_append] at h)
                have BQ19 := Lib.hid (BQ18.out.but ((But.refl W18).grown hg (fun q hq => .inl hq) : But (fun q => some wd.heap.size = some q) W18 W19) (fun e => NE18.out (Option.some.inj e).symm))
                clear ho hg hl
                refine hK _ _ ?_
                clear hK K
                try simp only [List.getElem_toArray, List.getElem_cons_succ, List.getElem_cons_zero, Act.put, List.setIfInBounds_toArray, List.set_cons_zero, List.set_cons_succ]
                refine wpAny_ready (rs := [11]) (by kernel_rfl) (by simp) (AllReady.cons rfl (fun K hK => ?_) AllReady.nil)
                rw [if_pos (by rfl)]
                have RB := Lib.hid (show Rd W19.heap.size W19 (some ⟨W14.heap.size, 0, none⟩) (wv (u, s)) from fun q v hv => ⟨_, rfl, BQ19.out.lt, by rw [Addr.add_mid, BQ19.out.cell, Nat.zero_add, wva, List.getElem?_toArray]; exact hv⟩)
                refine wp_appN _ (.tmp 36) (.tmp 40) 44 rfl waitsElt rfl O19.out (m := 1) rfl RB.out (by rw [wv_length (x := (u, s)) HS3.out]) (wv_one _) (by have := HML.out; have := HWM.out; omega) BW19.out.size ?_
                intro AF cF wF ho hg hl
                have BF := Lib.hid (app_belowN BW19.out O19.out hg (Nat.le_refl _) BW19.out.size)
                have OF := Lib.hid ho
                clear ho hg hl RB
                refine hK _ _ ?_
                clear hK K
                try simp only [List.getElem_toArray, List.getElem_cons_succ, List.getElem_cons_zero, Act.put, List.setIfInBounds_toArray, List.set_cons_zero, List.set_cons_succ]
                refine wpAny_take (i := 12) (v := ?bf2012) rfl (by kernel_rfl) (by kernel_rfl) (by kernel_rfl) (fun _ _ _ h => h) (Or.inl ⟨by rfl, ?yf2012⟩) ?_
                case yf2012 => (intro w'; go_simp; try with_reducible rfl)
                try simp only [List.getElem_toArray, List.getElem_cons_succ, List.getElem_cons_zero, Act.put, List.setIfInBounds_toArray, List.set_cons_zero, List.set_cons_succ]
                refine wpAny_take (i := 13) (v := ?bf2013) rfl (by kernel_rfl) (by kernel_rfl) (by kernel_rfl) (fun _ _ _ h => h) (Or.inl ⟨by rfl, ?yf2013⟩) ?_
                case yf2013 => (intro w'; go_simp; try with_reducible rfl)
                try simp only [List.getElem_toArray, List.getElem_cons_succ, List.getElem_cons_zero, Act.put, List.setIfInBounds_toArray, List.set_cons_zero, List.set_cons_succ]
                have cg := (HDX.out.blk.below BF.out).cell 1
                have fg := (HDX.out.blk.below BF.out).free 1
                refine wpAny_ready (rs := [14]) (by kernel_rfl) (by simp) (AllReady.cons rfl (fun K hK => ?_) AllReady.nil)
                rw [if_pos (by rfl)]
                go_simp
                refine hK _ _ ?_
                clear hK K
                try simp only [List.getElem_toArray, List.getElem_cons_succ, List.getElem_cons_zero, Act.put, List.setIfInBounds_toArray, List.set_cons_zero, List.set_cons_succ]
                refine wpAny_done (by kernel_rfl) ?_ _
                obtain ⟨wz, hwz⟩ : ∃ wz, wz = wF.setCell ⟨g, 1, none⟩ (.slice AF (m + 1) cF) := ⟨_, rfl⟩
                have OG := Lib.hid (show wF.ownsRow wx.heap.size 128 129 (.slice AF (m + 1) cF) (m + 1) (wvs (d.add u s).wt) from by
                  have h := OF.out
                  rw [Nat.zero_add] at h
                  have e1 : wvs (d.add u s).wt = wvs d.wt ++ wv (u, s) := by show wvs (d.wt ++ [(u, s)]) = _; rw [wvs_append]; show _ ++ (wv (u, s) ++ []) = _; rw [List.append_nil]
                  rw [e1]; exact h)
                have hbz : But (fun q => q = g) wF wz := by rw [hwz]; exact but_one _
                have hgx : g < wx.heap.size := HDX.out.blk.lt
                have hzs : wF.heap.size = wz.heap.size := by rw [hwz]; simp
                have HDZ := Lib.hid (show RdO wz g (d.add u s) A n c AF (m + 1) cF from
                  ⟨by rw [hwz]; exact blk_setN8 (HDX.out.blk.below BF.out) 1 _, Own.but (own_belowN HDX.out.st BF.out) hbz (fun q hq => HDX.out.apart.1 q hq),
                   Own.but (⟨OG.out.1, OG.out.2.imp id (fun ⟨a1, a2, a3, a4, _, a6⟩ => ⟨a1, a2, a3, a4, Nat.zero_le _, a6⟩)⟩ : wF.ownsRow 0 128 129 (.slice AF (m + 1) cF) (m + 1) (wvs (d.add u s).wt)) hbz (fun q hq e => by have := (OG.out.lt q hq).1; omega),
                   HDX.out.stn, by show (d.wt ++ [(u, s)]).length = m + 1; rw [List.length_append, HWM.out]; rfl, add_ok HDX.out.ok (by rw [HSTN.out]; exact HU.out) HS3.out, fun e => by have h : d.gone = true := e; rw [HGN.out] at h; cases h⟩)
                have hbg : But (fun q => q = g) w wz := (But.of_below (BW.out.trans (BF.out.mono BW.out.size)) (fun q a b => absurd a (by omega))).trans hbz
                have hret := HR.out.ret HF.out HL.out (k := k) HK.out (hbg.mono (T := Fs k) (fun q e => HDF.out q (.inl e))) (d := d.add u s) (by rw [← HGG.out]; exact ⟨A, n, c, AF, m + 1, cF, HDZ.out, by
                  rintro q (h1 | h1 | h1)
                  · exact .inl (HDF.out q (.inl h1))
                  · exact .inl (HDF.out q (.inr (.inl h1)))
                  · have h2 := OG.out.lt q h1
                    have h3 := BW.out.size
                    exact .inr ⟨by omega, by omega⟩⟩)
                obtain ⟨F3, h3, hs3, hb3⟩ := hret
                have H3 := Lib.hid h3
                have HS3' := Lib.hid hs3
                have HB3 := Lib.hid hb3
                have HWY := Lib.hid (show S.write k (u : Int) s = (if S.p.fails then 13 else 0, (S.put k (d.add u s)).count) from by rw [HDD.out]; exact write_yes HRF.out)
                have HM3 := Lib.hid (show ∀ j, j < (S.put k (d.add u s)).ds.length → ((S.put k (d.add u s)).at j).wt.length < 1000000 from fun j hj => by
                  rw [len_put] at hj
                  rw [at_put _ HK.out]
                  split
                  · show (d.wt ++ [(u, s)]).length < _
                    rw [List.length_append]; have := HML.out; simp; omega
                  · have := HMM.out j hj; omega)
                have HN3 := Lib.hid (show (S.put k (d.add u s)).ds.length < 1000 from by rw [len_put]; exact HYtfofkjcdohmkpaa.out)
                rw [← hwz]
                clear h3 hs3 hb3 hbg hbz hgx hzs hwz cg fg OG OF BF
                go_wp2_with fail
                refine (rstep_sys H3.out).mono ?_
                rintro e2 w2 ⟨rfl, F4, h4, hs4, hb4⟩
                have H4 := Lib.hid h4
                have HS4 := Lib.hid hs4
                have HB4 := Lib.hid hb4
                clear h4 hs4 hb4
                rw [show (S.put k (d.add u s)).p.fails = S.p.fails from rfl]
                cases hf : S.p.fails with
                | true =>
                  have HCY := Lib.hid (count_yes (S := S.put k (d.add u s)) hf)
                  have HWZ := Lib.hid (show S.write k (u : Int) s = (13, (S.put k (d.add u s)).count) from by rw [HWY.out, hf]; rfl)
                  clear hf
                  go_wp2_with fail
                  refine (rfall_sys H4.out HN3.out HM3.out).mono ?_
                  rintro e5 w5 ⟨rfl, F5, h5, hs5, hb5⟩
                  have H5 := Lib.hid h5
                  have HS5 := Lib.hid hs5
                  have HB5 := Lib.hid hb5
                  clear h5 hs5 hb5
                  go_wp2_with fail
                  go_ret
                  refine ⟨by rw [HWZ.out]; rfl, ?_⟩
                  rw [HWZ.out, HCY.out]
                  obtain ⟨F6, h6, hs6, hb6⟩ := RetR.step HS4.out HB4.out H5.out HS5.out HB5.out
                  exact RetR.step HS3'.out HB3.out h6 hs6 hb6
                | false =>
                  have HCN := Lib.hid (count_no (S := S.put k (d.add u s)) hf HOF.out)
                  have HWZ := Lib.hid (show S.write k (u : Int) s = (0, (S.put k (d.add u s)).count) from by rw [HWY.out, hf]; rfl)
                  clear hf
                  go_wp2_with fail
                  go_ret
                  refine ⟨by rw [HWZ.out]; rfl, ?_⟩
                  rw [HWZ.out, HCN.out]
                  exact RetR.step HS3'.out HB3.out H4.out HS4.out HB4.out
            ·
              rw [if_pos (by rfl)]
              obtain ⟨W21, hW21⟩ : ∃ WQ, WQ = wd.alloc (.cells (wva (u, s)) 128) := ⟨_, rfl⟩
              have BA21 := Lib.hid (show Below wd.heap.size wd W21 from by rw [hW21]; exact (Below.refl _ _).alloc (Nat.le_refl _) _)
              have BW21 := Lib.hid (BD.out.trans (BA21.out.mono BD.out.size))
              have HS21 := Lib.hid (show W21.heap.size = wd.heap.size + 1 from by rw [hW21]; simp)
              have BQ21 := Lib.hid (show Blk W21 wd.heap.size (wva (u, s)) 128 from by rw [hW21]; exact heap_alloc_new _ _)
              refine wp_buildSliceN 44 1 #[(0, .tmp 39)] rfl (by simp only [List.map_toArray, List.map_cons, List.map_nil]; exact run_oneN waitsElt wd (.agg (wva (u, s))) (by show (wva (u, s)).size = 129; exact wva_size HS3.out) (by omega)) ?_
              change K _ (wd.alloc (.cells (wva (u, s)) 128))
              refine hK _ _ ?_
              clear hK K
              rw [← hW21]
              clear hW21
              try simp only [List.getElem_toArray, List.getElem_cons_succ, List.getElem_cons_zero, Act.put, List.setIfInBounds_toArray, List.set_cons_zero, List.set_cons_succ]
              refine wpAny_ready (rs := [1]) (by kernel_rfl) (by simp) (AllReady.cons rfl (fun K hK => ?_) AllReady.nil)
              rw [if_pos (by rfl)]
              obtain ⟨W22, hW22⟩ : ∃ WQ, WQ = W21.alloc (.cells #[] 128) := ⟨_, rfl⟩
              have BA22 := Lib.hid (show Below W21.heap.size W21 W22 from by rw [hW22]; exact (Below.refl _ _).alloc (Nat.le_refl _) _)
              have BW22 := Lib.hid (BW21.out.trans (BA22.out.mono BW21.out.size))
              have HS22 := Lib.hid (show W22.heap.size = W21.heap.size + 1 from by rw [hW22]; simp)
              have OE22 := Lib.hid (show W22.ownsRow wx.heap.size 128 129 (.slice (some ⟨W21.heap.size, 0, none⟩) 0 0) 0 [] from by rw [hW22]; exact World.ownsRow_lit (size := 129) W21 #[] 0 BW21.out.size (Nat.zero_le _) rfl)
              go_simp
              refine hK _ _ ?_
              clear hK K
              rw [← hW22]
              clear hW22
              have BQ22 := Lib.hid (BQ21.out.below BA22.out)
              have NE22 := Lib.hid (show wd.heap.size ≠ W21.heap.size from by have := BQ21.out.lt; omega)
              try simp only [List.getElem_toArray, List.getElem_cons_succ, List.getElem_cons_zero, Act.put, List.setIfInBounds_toArray, List.set_cons_zero, List.set_cons_succ]
              refine wpAny_ready (rs := [6]) (by kernel_rfl) (by simp) (AllReady.cons rfl (fun K hK => ?_) AllReady.nil)
              rw [if_pos (by rfl)]
              refine wp_appN _ (.tmp 31) (.tmp 35) 44 rfl waitsElt rfl OE22.out (m := m) rfl ((Rd.ownN HDX.out.wt).below BW22.out) (by rw [wvs_length (fun x hx => (HDX.out.ok.wt x hx).2), HWM.out]) (wvs_one _) (by have := HML.out; have := HWM.out; omega) BW22.out.size ?_
              intro A23 c23 W23 ho hg hl
              have BW23 := Lib.hid (app_belowN BW22.out OE22.out hg (Nat.le_refl _) BW22.out.size)
              have O23 := Lib.hid (show W23.ownsRow wx.heap.size 128 129 (.slice A23 (0 + m) c23) (0 + m) (wvs d.wt) from by have h := ho; rwa [List.nil_append] at h)
              have BQ23 := Lib.hid (BQ22.out.but ((But.refl W22).grown hg (fun q hq => .inl hq) : But (fun q => some W21.heap.size = some q) W22 W23) (fun e => NE22.out (Option.some.inj e).symm))
              clear ho hg hl
              refine hK _ _ ?_
              clear hK K
              try simp only [List.getElem_toArray, List.getElem_cons_succ, List.getElem_cons_zero, Act.put, List.setIfInBounds_toArray, List.set_cons_zero, List.set_cons_succ]
              refine wpAny_ready (rs := [11]) (by kernel_rfl) (by simp) (AllReady.cons rfl (fun K hK => ?_) AllReady.nil)
              rw [if_pos (by rfl)]
              have RB := Lib.hid (show Rd W23.heap.size W23 (some ⟨wd.heap.size, 0, none⟩) (wv (u, s)) from fun q v hv => ⟨_, rfl, BQ23.out.lt, by rw [Addr.add_mid, BQ23.out.cell, Nat.zero_add, wva, List.getElem?_toArray]; exact hv⟩)
              refine wp_appN _ (.tmp 36) (.tmp 40) 44 rfl waitsElt rfl O23.out (m := 1) rfl RB.out (by rw [wv_length (x := (u, s)) HS3.out]) (wv_one _) (by have := HML.out; have := HWM.out; omega) BW23.out.size ?_
              intro AF cF wF ho hg hl
              have BF := Lib.hid (app_belowN BW23.out O23.out hg (Nat.le_refl _) BW23.out.size)
              have OF := Lib.hid ho
              clear ho hg hl RB
              refine hK _ _ ?_
              clear hK K
              try simp only [List.getElem_toArray, List.getElem_cons_succ, List.getElem_cons_zero, Act.put, List.setIfInBounds_toArray, List.set_cons_zero, List.set_cons_succ]
              refine wpAny_take (i := 12) (v := ?bf2412) rfl (by kernel_rfl) (by kernel_rfl) (by kernel_rfl) (fun _ _ _ h => h) (Or.inl ⟨by rfl, ?yf2412⟩) ?_
              case yf2412 => (intro w'; go_simp; try with_reducible rfl)
              try simp only [List.getElem_toArray, List.getElem_cons_succ, List.getElem_cons_zero, Act.put, List.setIfInBounds_toArray, List.set_cons_zero, List.set_cons_succ]
              refine wpAny_take (i := 13) (v := ?bf2413) rfl (by kernel_rfl) (by kernel_rfl) (by kernel_rfl) (fun _ _ _ h => h) (Or.inl ⟨by rfl, ?yf2413⟩) ?_
              case yf2413 => (intro w'; go_simp; try with_reducible rfl)
              try simp only [List.getElem_toArray, List.getElem_cons_succ, List.getElem_cons_zero, Act.put, List.setIfInBounds_toArray, List.set_cons_zero, List.set_cons_succ]
              have cg := (HDX.out.blk.below BF.out).cell 1
              have fg := (HDX.out.blk.below BF.out).free 1
              refine wpAny_ready (rs := [14]) (by kernel_rfl) (by simp) (AllReady.cons rfl (fun K hK => ?_) AllReady.nil)
              rw [if_pos (by rfl)]
              go_simp
              refine hK _ _ ?_
              clear hK K
              try simp only [List.getElem_toArray, List.getElem_cons_succ, List.getElem_cons_zero, Act.put, List.setIfInBounds_toArray, List.set_cons_zero, List.set_cons_succ]
              refine wpAny_done (by kernel_rfl) ?_ _
              obtain ⟨wz, hwz⟩ : ∃ wz, wz = wF.setCell ⟨g, 1, none⟩ (.slice AF (m + 1) cF) := ⟨_, rfl⟩
              have OG := Lib.hid (show wF.ownsRow wx.heap.size 128 129 (.slice AF (m + 1) cF) (m + 1) (wvs (d.add u s).wt) from by
                have h := OF.out
                rw [Nat.zero_add] at h
                have e1 : wvs (d.add u s).wt = wvs d.wt ++ wv (u, s) := by show wvs (d.wt ++ [(u, s)]) = _; rw [wvs_append]; show _ ++ (wv (u, s) ++ []) = _; rw [List.append_nil]
                rw [e1]; exact h)
              have hbz : But (fun q => q = g) wF wz := by rw [hwz]; exact but_one _
              have hgx : g < wx.heap.size := HDX.out.blk.lt
              have hzs : wF.heap.size = wz.heap.size := by rw [hwz]; simp
              have HDZ := Lib.hid (show RdO wz g (d.add u s) A n c AF (m + 1) cF from
                ⟨by rw [hwz]; exact blk_setN8 (HDX.out.blk.below BF.out) 1 _, Own.but (own_belowN HDX.out.st BF.out) hbz (fun q hq => HDX.out.apart.1 q hq),
                 Own.but (⟨OG.out.1, OG.out.2.imp id (fun ⟨a1, a2, a3, a4, _, a6⟩ => ⟨a1, a2, a3, a4, Nat.zero_le _, a6⟩)⟩ : wF.ownsRow 0 128 129 (.slice AF (m + 1) cF) (m + 1) (wvs (d.add u s).wt)) hbz (fun q hq e => by have := (OG.out.lt q hq).1; omega),
                 HDX.out.stn, by show (d.wt ++ [(u, s)]).length = m + 1; rw [List.length_append, HWM.out]; rfl, add_ok HDX.out.ok (by rw [HSTN.out]; exact HU.out) HS3.out, fun e => by have h : d.gone = true := e; rw [HGN.out] at h; cases h⟩)
              have hbg : But (fun q => q = g) w wz := (But.of_below (BW.out.trans (BF.out.mono BW.out.size)) (fun q a b => absurd a (by omega))).trans hbz
              have hret := HR.out.ret HF.out HL.out (k := k) HK.out (hbg.mono (T := Fs k) (fun q e => HDF.out q (.inl e))) (d := d.add u s) (by rw [← HGG.out]; exact ⟨A, n, c, AF, m + 1, cF, HDZ.out, by
                rintro q (h1 | h1 | h1)
                · exact .inl (HDF.out q (.inl h1))
                · exact .inl (HDF.out q (.inr (.inl h1)))
                · have h2 := OG.out.lt q h1
                  have h3 := BW.out.size
                  exact .inr ⟨by omega, by omega⟩⟩)
              obtain ⟨F3, h3, hs3, hb3⟩ := hret
              have H3 := Lib.hid h3
              have HS3' := Lib.hid hs3
              have HB3 := Lib.hid hb3
              have HWY := Lib.hid (show S.write k (u : Int) s = (if S.p.fails then 13 else 0, (S.put k (d.add u s)).count) from by rw [HDD.out]; exact write_yes HRF.out)
              have HM3 := Lib.hid (show ∀ j, j < (S.put k (d.add u s)).ds.length → ((S.put k (d.add u s)).at j).wt.length < 1000000 from fun j hj => by
                rw [len_put] at hj
                rw [at_put _ HK.out]
                split
                · show (d.wt ++ [(u, s)]).length < _
                  rw [List.length_append]; have := HML.out; simp; omega
                · have := HMM.out j hj; omega)
              have HN3 := Lib.hid (show (S.put k (d.add u s)).ds.length < 1000 from by rw [len_put]; exact HYtfofkjcdohmkpaa.out)
              rw [← hwz]
              clear h3 hs3 hb3 hbg hbz hgx hzs hwz cg fg OG OF BF
              go_wp2_with fail
              refine (rstep_sys H3.out).mono ?_
              rintro e2 w2 ⟨rfl, F4, h4, hs4, hb4⟩
              have H4 := Lib.hid h4
              have HS4 := Lib.hid hs4
              have HB4 := Lib.hid hb4
              clear h4 hs4 hb4
              rw [show (S.put k (d.add u s)).p.fails = S.p.fails from rfl]
              cases hf : S.p.fails with
              | true =>
                have HCY := Lib.hid (count_yes (S := S.put k (d.add u s)) hf)
                have HWZ := Lib.hid (show S.write k (u : Int) s = (13, (S.put k (d.add u s)).count) from by rw [HWY.out, hf]; rfl)
                clear hf
                go_wp2_with fail
                refine (rfall_sys H4.out HN3.out HM3.out).mono ?_
                rintro e5 w5 ⟨rfl, F5, h5, hs5, hb5⟩
                have H5 := Lib.hid h5
                have HS5 := Lib.hid hs5
                have HB5 := Lib.hid hb5
                clear h5 hs5 hb5
                go_wp2_with fail
                go_ret
                refine ⟨by rw [HWZ.out]; rfl, ?_⟩
                rw [HWZ.out, HCY.out]
                obtain ⟨F6, h6, hs6, hb6⟩ := RetR.step HS4.out HB4.out H5.out HS5.out HB5.out
                exact RetR.step HS3'.out HB3.out h6 hs6 hb6
              | false =>
                have HCN := Lib.hid (count_no (S := S.put k (d.add u s)) hf HOF.out)
                have HWZ := Lib.hid (show S.write k (u : Int) s = (0, (S.put k (d.add u s)).count) from by rw [HWY.out, hf]; rfl)
                clear hf
                go_wp2_with fail
                go_ret
                refine ⟨by rw [HWZ.out]; rfl, ?_⟩
                rw [HWZ.out, HCN.out]
                exact RetR.step HS3'.out HB3.out H4.out HS4.out HB4.out
end Go.Proofs.Ytfofkjcdohmkpaa.Kd
/-
  The contract of the laws' told: a deed on the reference's devices.
-/
namespace Go.Proofs.Ytfofkjcdohmkpaa.Kd
open Go.RowKit Go.Maps
attribute [local go_sem ↓] Go.wp_at_zero Go.wp_at_succ
set_option maxRecDepth 100000 in
set_option maxHeartbeats 25600000 in
theorem told_any {w : World} {p : Nat} {gs : List Nat} {S : Sy} {F : Nat → Prop} (h : RSys w p gs S F) (k : Nat) (hk : k < S.ds.length) (x : Dd) (hx : x.ok) (hN : S.ds.length < 1000) (hm : ∀ k, k < S.ds.length → (S.at k).wt.length < 900000) :
    Calls Try.prog 17 #[.pointer (some ⟨p, 0, none⟩), .pointer (some ⟨gs.getD k 0, 0, none⟩), .agg (dda x)] w (RetR (.tuple #[.int .i64 (S.deed k x).1, .agg (bva (S.deed k x).2.1)]) p gs (S.deed k x).2.2 F w) := by
  obtain ⟨z, hz0⟩ : ∃ z : List UInt8, z = zeroS := ⟨_, rfl⟩
  have hz : ∀ W, (zeroValue 38).run Try.prog W = .ok (.agg (bva z)) W := fun _ => by rw [hz0]; kernel_rfl
  have HBZ := Lib.hid (show ∀ W, (Instr.build 38 #[]).run Try.prog W = .ok (.agg (bva z)) W from fun _ => by rw [hz0]; kernel_rfl)
  have HI : Hid ((Try.prog.info? 38).map (·.size) = some (bva z).size) := by rw [bva_size, hz0, zeroS_length]; exact info_sec
  have HZ := Lib.hid hz0
  have HZ3 := Lib.hid (show z.length = 128 by rw [hz0]; exact zeroS_length)
  obtain ⟨wb, hwb⟩ : ∃ wb, wb = (w.alloc (.cells (dda x) 36)).alloc (.cells (bva z) 38) := ⟨_, rfl⟩
  have BB := Lib.hid (show Below w.heap.size w wb from by rw [hwb]; exact ((Below.refl _ _).alloc (Nat.le_refl _) _).alloc (by simp) _)
  have hb5 : Blk wb w.heap.size (dda x) 36 := by rw [hwb]; exact (heap_alloc_old _ _ (by simp)).trans (heap_alloc_new _ _)
  have hb7 : Blk wb (w.heap.size + 1) (bva z) 38 := by rw [hwb]; have h := heap_alloc_new (w.alloc (.cells (dda x) 36)) (.cells (bva z) 38); rwa [World.size_alloc] at h
  have X5 := Lib.hid (show BoxG wb F w.heap.size (dda x) 36 from ⟨hb5, fun hf => by have := h.lt _ hf; omega⟩)
  have X7 := Lib.hid (show BoxG wb F (w.heap.size + 1) (bva z) 38 from ⟨hb7, fun hf => by have := h.lt _ hf; omega⟩)
  have HB2 := Lib.hid (show w.heap.size + 1 < wb.heap.size from hb7.lt)
  have H0 := Lib.hid h
  have H := Lib.hid (h.below BB.out)
  have HK := Lib.hid hk
  have HM := Lib.hid hm
  have HYtfofkjcdohmkpaa := Lib.hid hN
  have HXO := Lib.hid hx
  have d0 : wb.cell? ⟨w.heap.size, 0, none⟩ = some (.int .i64 x.on) := hb5.cell 0
  have d1 : wb.cell? ⟨w.heap.size, 1, none⟩ = some (.int .i64 x.kind) := hb5.cell 1
  have d2 : wb.cell? ⟨w.heap.size, 2, none⟩ = some (.int .i64 x.n) := hb5.cell 2
  have d3 : wb.cell? ⟨w.heap.size, 3, none⟩ = some (.int .i64 x.m) := hb5.cell 3
  have d4 : wb.cell? ⟨w.heap.size, 4, none⟩ = some (.int .u8 (x.c.toNat : Int)) := hb5.cell 4
  obtain ⟨b7, hb7e⟩ : ∃ b7, b7 = w.heap.size + 1 := ⟨_, rfl⟩
  have HB7 := Lib.hid hb7e
  obtain ⟨g, hgg⟩ : ∃ g, g = gs.getD k 0 := ⟨_, rfl⟩
  rw [← hgg]
  rw [← hb7e] at X7
  have HGG := Lib.hid hgg
  clear h hk hm hN hx hb5 hb7 hz0 hgg
  go_enter Try.func17, Try.ntmps17
  go_upto_region 1 with fail
  rw [← hb7e, ← hwb]
  clear hwb hb7e
  by_cases hk0 : x.kind = 0
  ·
    have HDE := Lib.hid (show S.deed k x = ((S.write k x.n (secC x.c)).1, zeroS, (S.write k x.n (secC x.c)).2) from by unfold Sy.deed; rw [if_pos hk0])
    rw [hk0] at d1
    clear hk0 
    go_upto_region 3 with fail
    clear d0 d1 d2 d3 d4
    refine wp_region_held_drew (S := fun w' => Blk w' w.heap.size (dda x) 36 ∧ Blk w' b7 (bva z) 38) (by kernel_rfl) ⟨X5.out.1.below (Below.refl _ _).drew, X7.out.1.below (Below.refl _ _).drew⟩ (fun hh => ?_)
    have HH := Lib.hid hh
    clear hh
    refine wpAnyH_take (i := 0) (v := ?va0) rfl (by kernel_rfl) (by kernel_rfl) (by kernel_rfl) (fun _ _ _ h => h) (Or.inl ⟨by rfl, fun w' _ => ?ya0⟩) HH.out ?_
    case ya0 => (go_simp; try with_reducible rfl)
    refine wpAnyH_take (i := 1) (v := ?va1) rfl (by kernel_rfl) (by kernel_rfl) (by kernel_rfl) (fun _ _ _ h => h) (Or.inl ⟨by rfl, fun w' _ => ?ya1⟩) HH.out ?_
    case ya1 => (go_simp; try with_reducible rfl)
    try simp only [List.getElem_toArray, List.getElem_cons_succ, List.getElem_cons_zero, Act.put, List.setIfInBounds_toArray, List.set_cons_zero, List.set_cons_succ]
    refine wpAnyH_take (i := 2) (v := ?va2) rfl (by kernel_rfl) (by kernel_rfl) (by kernel_rfl) (fun _ _ _ h => h) (Or.inl ⟨by rfl, fun w' _ => ?ya2⟩) HH.out ?_
    case ya2 => (go_simp; try with_reducible rfl)
    refine wpAnyH_take (i := 3) (v := .int .i64 x.n) rfl (by kernel_rfl) (by kernel_rfl) (by kernel_rfl) (fun _ _ _ h => h) (Or.inl ⟨by rfl, fun w' hw' => ?ya3⟩) HH.out ?_
    case ya3 => (have hc : w'.cell? ⟨w.heap.size, 2, none⟩ = some (.int .i64 x.n) := hw'.1.cell 2; go_simp; try with_reducible rfl)
    refine wpAnyH_take (i := 4) (v := ?va4) rfl (by kernel_rfl) (by kernel_rfl) (by kernel_rfl) (fun _ _ _ h => h) (Or.inl ⟨by rfl, fun w' _ => ?ya4⟩) HH.out ?_
    case ya4 => (go_simp; try with_reducible rfl)
    try simp only [List.getElem_toArray, List.getElem_cons_succ, List.getElem_cons_zero, Act.put, List.setIfInBounds_toArray, List.set_cons_zero, List.set_cons_succ]
    refine wpAnyH_take (i := 5) (v := .int .u8 (x.c.toNat : Int)) rfl (by kernel_rfl) (by kernel_rfl) (by kernel_rfl) (fun _ _ _ h => h) (Or.inl ⟨by rfl, fun w' hw' => ?ya5⟩) HH.out ?_
    case ya5 => (have hc : w'.cell? ⟨w.heap.size, 4, none⟩ = some (.int .u8 (x.c.toNat : Int)) := hw'.1.cell 4; go_simp; try with_reducible rfl)
    refine wpAnyH_take (i := 8) (v := .agg (bva z)) rfl (by kernel_rfl) (by kernel_rfl) (by kernel_rfl) (fun _ _ _ h => h) (Or.inl ⟨by rfl, fun w' hw' => ?ya8⟩) HH.out ?_
    case ya8 => (first | exact exec_build8 38 #[] rfl (HBZ.out w') | (refine exec_build8 38 #[] rfl ?_; first | (rw [Array.map_empty]; exact HBZ.out w') | (simp only [List.map_toArray, List.map_nil]; exact HBZ.out w')))
    try simp only [List.getElem_toArray, List.getElem_cons_succ, List.getElem_cons_zero, Act.put, List.setIfInBounds_toArray, List.set_cons_zero, List.set_cons_succ]
    refine wpAnyH_ready (rs := [6]) (by kernel_rfl) (by simp) (AllReadyH.cons rfl (fun K hK => ?_) AllReadyH.nil)
    go_simp
    refine (sector_any x.c _).mono ?_
    rintro e ws ⟨rfl, bw⟩
    have BS := Lib.hid (show Below wb.heap.size wb ws from (Below.refl _ _).drew.trans bw)
    have H1 := Lib.hid (H.out.below BS.out)
    have X51 := Lib.hid (X5.out.below BS.out)
    have X71 := Lib.hid (X7.out.below BS.out)
    go_simp
    refine hK.out _ _ ⟨X51.out.1, X71.out.1⟩ (fun hh => ?_)
    have HH' := Lib.hid hh
    clear hh hK K HH bw
    have HH := Lib.hid HH'.out
    clear HH'
    try simp only [List.getElem_toArray, List.getElem_cons_succ, List.getElem_cons_zero, Act.put, List.setIfInBounds_toArray, List.set_cons_zero, List.set_cons_succ]
    refine wpAnyH_ready (rs := [7]) (by kernel_rfl) (by simp) (AllReadyH.cons rfl (fun K hK => ?_) AllReadyH.nil)
    go_simp
    have hc := rwrite_sys H1.out k HK.out HYtfofkjcdohmkpaa.out HM.out x.n (secC x.c) (secC_length _)
    rw [← HGG.out] at hc
    refine hc.mono ?_
    clear hc
    rintro e w2 ⟨rfl, F2, h, hs, hb⟩
    have H2 := Lib.hid h
    have HS2 := Lib.hid (show ∀ q, F2 q → F q ∨ wb.heap.size ≤ q from fun q hq => (hs q hq).imp id (fun h4 => Nat.le_trans BS.out.size h4))
    have HT2 := Lib.hid (show But F wb w2 from (But.of_below BS.out (fun q a c => absurd a (by omega))).trans hb)
    have X52 := Lib.hid (X51.out.step hs hb)
    have X72 := Lib.hid (X71.out.step hs hb)
    go_simp
    refine hK.out _ _ ⟨X52.out.1, X72.out.1⟩ (fun hh => ?_)
    have HH' := Lib.hid hh
    clear hh hK K HH h hs hb X51 X71 H1
    have HH := Lib.hid HH'.out
    clear HH'
    refine wpAnyH_take (i := 9) (v := ?va9) rfl (by kernel_rfl) (by kernel_rfl) (by kernel_rfl) (fun _ _ _ h => h) (Or.inl ⟨by rfl, fun w' _ => ?ya9⟩) HH.out ?_
    case ya9 => (go_simp; try with_reducible rfl)
    refine wpAnyH_ready (rs := [10]) (by kernel_rfl) (by simp) (AllReadyH.cons rfl (fun K hK => ?_) AllReadyH.nil)
    refine step_wp8 (by rfl) ?_
    refine wp_store_row 38 (.tmp 7) (.tmp 22) rfl b7 (bva z) rfl rfl 38 (bva z) X72.out.1 HI.out rfl (bva_one _) ?_
    obtain ⟨w9, hw9⟩ : ∃ w9, w9 = w2.setRow b7 (bva z) := ⟨_, rfl⟩
    have B9 := Lib.hid (show Blk w9 b7 (bva z) 38 from by rw [hw9]; exact setRow_heap _ _ _ _ _ _ X72.out.1)
    have T9 := Lib.hid (show But (fun q => q = b7) w2 w9 from by rw [hw9]; exact (But.refl _).setRow (S := fun q => q = b7) (.inl rfl) _)
    have B95 := Lib.hid (X52.out.1.but T9.out (by have := HB7.out; omega))
    change K _ (w2.setRow b7 (bva z))
    rw [← hw9]
    clear hw9
    refine hK.out _ _ ⟨B95.out, B9.out⟩ (fun hh => ?_)
    clear hh hK K HH
    try simp only [List.getElem_toArray, List.getElem_cons_succ, List.getElem_cons_zero, Act.put, List.setIfInBounds_toArray, List.set_cons_zero, List.set_cons_succ]
    refine wpAnyH_done (by kernel_rfl) ?_ _
    go_wp2_with fail
    refine bodyPost_ret (v := .tuple #[.int .i64 (S.write k x.n (secC x.c)).1, .agg (bva z)]) (results_tc8 Try.results17 _ _ b7 38 (bva z) _ rfl B9.out Try.underlying38 rfl HI.out) rfl ?_
    rw [HDE.out]
    exact ⟨by rw [← HZ.out], fin_told H0.out BB.out H2.out HS2.out HT2.out T9.out (by have := HB7.out; omega) (by have := HB2.out; have := HB7.out; omega)⟩
  by_cases hk1 : x.kind = 1
  ·
    have HDE := Lib.hid (show S.deed k x = ((S.flush k).1, zeroS, (S.flush k).2) from by unfold Sy.deed; rw [if_neg (show ¬ x.kind = 0 by omega), if_pos hk1])
    rw [hk1] at d1
    clear hk1 hk0
    go_wp2_with fail
    have hc := rflush_sys H.out k HK.out HYtfofkjcdohmkpaa.out (fun j hj => by have := HM.out j hj; omega)
    rw [← HGG.out] at hc
    refine hc.mono ?_
    rintro e2 w2 ⟨rfl, F2, h, hs, hb⟩
    have H2 := Lib.hid h
    have HS2 := Lib.hid hs
    have HT2 := Lib.hid hb
    have X72 := Lib.hid (X7.out.step hs hb)
    clear h hs hb hc d0 d1 d2 d3 d4
    go_wp2_with (show wpList _ _ _ ({ dst := some 28, op := .build 38 #[], type := _, pos := _, after := _, guard := _ } :: _) _ _; apply Classical.byContradiction; intro hneg)
    refine hneg ?_
    clear hneg
    refine wpList_build rfl 38 #[] rfl (v := .agg (bva z)) ?hbld ?_
    case hbld => (first | exact HBZ.out _ | (rw [Array.map_empty]; exact HBZ.out _) | (simp only [List.map_toArray, List.map_nil]; exact HBZ.out _))
    go_wp2_with (show wpList _ _ _ ({ dst := none, op := .store 38 (.tmp 7) (.tmp 28), type := _, pos := _, after := _, guard := _ } :: _) _ _; apply Classical.byContradiction; intro hneg)
    refine hneg ?_
    clear hneg
    refine wpList_store_row rfl 38 (.tmp 7) (.tmp 28) rfl b7 (bva z) rfl rfl 38 (bva z) X72.out.1 HI.out rfl (bva_one _) ?_
    obtain ⟨w9, hw9⟩ : ∃ w9, w9 = w2.setRow b7 (bva z) := ⟨_, rfl⟩
    have B9 := Lib.hid (show Blk w9 b7 (bva z) 38 from by rw [hw9]; exact setRow_heap _ _ _ _ _ _ X72.out.1)
    have T9 := Lib.hid (show But (fun q => q = b7) w2 w9 from by rw [hw9]; exact (But.refl _).setRow (S := fun q => q = b7) (.inl rfl) _)
    rw [← hw9]
    clear hw9
    go_wp2_with (refine wpList_build rfl 38 #[] rfl (v := .agg (bva z)) ?hbld ?_; case hbld => (first | exact HBZ.out _ | (rw [Array.map_empty]; exact HBZ.out _) | (simp only [List.map_toArray, List.map_nil]; exact HBZ.out _)))
    refine bodyPost_ret (v := .tuple #[.int .i64 (S.flush k).1, .agg (bva z)]) (results_tc8 Try.results17 _ _ b7 38 (bva z) _ rfl B9.out Try.underlying38 rfl HI.out) rfl ?_
    rw [HDE.out]
    exact ⟨by rw [← HZ.out], fin_told H0.out BB.out H2.out HS2.out HT2.out T9.out (by have := HB7.out; omega) (by have := HB2.out; have := HB7.out; omega)⟩
  by_cases hk2 : x.kind = 2
  ·
    have HDE := Lib.hid (show S.deed k x = (refuseN S.p (S.at k) x.n, readS S.p (S.at k) x.n, S) from by unfold Sy.deed; rw [if_neg (show ¬ x.kind = 0 by omega), if_neg (show ¬ x.kind = 1 by omega), if_pos hk2])
    rw [hk2] at d1
    clear hk2 hk0 hk1
    have HY3 := Lib.hid (readS_length (P := S.p) (H.out.ok HK.out) x.n)
    obtain ⟨y, hy⟩ : ∃ y, y = readS S.p (S.at k) x.n := ⟨_, rfl⟩
    have HYE := Lib.hid hy
    rw [← hy] at HY3 HDE
    have HIY : Hid ((Try.prog.info? 38).map (·.size) = some (bva y).size) := by show _ = _; rw [bva_size, HY3.out]; exact info_sec
    clear hy
    go_wp2_with fail
    have hc := rread_sys H.out k HK.out x.n (by have := HM.out k HK.out; unfold maxLen; omega)
    rw [← HGG.out, readV_eq, ← HYE.out] at hc
    refine hc.mono ?_
    clear hc
    rintro e2 w2 ⟨rfl, bw⟩
    have BR := Lib.hid bw
    have H2a := Lib.hid (H.out.below bw)
    have X7a := Lib.hid (X7.out.below bw)
    have HB8 := Lib.hid (show Blk (w2.alloc (.cells (bva z) 38)) w2.heap.size (bva z) 38 from heap_alloc_new _ _)
    clear bw d0 d1 d2 d3 d4
    go_wp2_with (show wpList _ _ _ ({ dst := none, op := .store 38 (.tmp 8) (.tmp 37), type := _, pos := _, after := _, guard := _ } :: _) _ _; apply Classical.byContradiction; intro hneg)
    refine hneg ?_
    clear hneg
    refine wpList_store_row rfl 38 (.tmp 8) (.tmp 37) rfl w2.heap.size (bva y) rfl rfl 38 (bva z) HB8.out HIY.out (by rw [bva_size, bva_size, HY3.out, HZ3.out]) (bva_one _) ?_
    obtain ⟨w4, hw4⟩ : ∃ w4, w4 = (w2.alloc (.cells (bva z) 38)).setRow w2.heap.size (bva y) := ⟨_, rfl⟩
    have HV := Lib.hid (show Blk w4 w2.heap.size (bva y) 38 from by rw [hw4]; exact setRow_heap _ _ _ _ _ _ HB8.out)
    have BV := Lib.hid (show Below w2.heap.size w2 w4 from by rw [hw4]; exact below_setRow ((Below.refl _ _).alloc (Nat.le_refl _) _) (Nat.le_refl _) _)
    rw [← hw4]
    clear hw4 HB8
    obtain ⟨b8, hb8⟩ : ∃ b8, b8 = w2.heap.size := ⟨_, rfl⟩
    rw [← hb8] at HV ⊢
    have HB8 := Lib.hid hb8
    clear hb8
    have BD := Lib.hid (show Below wb.heap.size wb w4.drew from (BR.out.trans (BV.out.mono BR.out.size)).drew)
    have Hb := Lib.hid (H.out.below BD.out)
    have X7b := Lib.hid (X7.out.below BD.out)
    have HSb := Lib.hid ((fun q hq => .inl hq) : ∀ q, F q → F q ∨ wb.heap.size ≤ q)
    have HTb := Lib.hid (show But F wb w4.drew from But.of_below BD.out (fun q a c => absurd a (by omega)))
    have NE := Lib.hid (show b8 ≠ b7 from by have := HB8.out; have := HB7.out; have := HB2.out; have := BR.out.size; omega)
    go_wp2_with fail
    refine wp_region_held_drew (S := fun w' => Blk w' b8 (bva y) 38) (by kernel_rfl) (HV.out.below (Below.refl _ _).drew) (fun hh => ?_)
    have HH := Lib.hid hh
    clear hh
    refine wpAnyH_take (i := 0) (v := ?vb0) rfl (by kernel_rfl) (by kernel_rfl) (by kernel_rfl) (fun _ _ _ h => h) (Or.inl ⟨by rfl, fun w' _ => ?yb0⟩) HH.out ?_
    case yb0 => (go_simp; try with_reducible rfl)
    refine wpAnyH_take (i := 1) (v := .agg (bva y)) rfl (by kernel_rfl) (by kernel_rfl) (by kernel_rfl) (fun _ _ _ h => h) (Or.inl ⟨by rfl, fun w' hw' => ?yb1⟩) HH.out ?_
    case yb1 => exact exec_load 38 (.tmp 8) rfl rfl hw' Try.underlying38 rfl HIY.out
    try simp only [List.getElem_toArray, List.getElem_cons_succ, List.getElem_cons_zero, Act.put, List.setIfInBounds_toArray, List.set_cons_zero, List.set_cons_succ]
    refine wpAnyH_take (i := 2) (v := ?vb2) rfl (by kernel_rfl) (by kernel_rfl) (by kernel_rfl) (fun _ _ _ h => h) (Or.inl ⟨by rfl, fun w' _ => ?yb2⟩) HH.out ?_
    case yb2 => (go_simp; try with_reducible rfl)
    refine wpAnyH_ready (rs := [3]) (by kernel_rfl) (by simp) (AllReadyH.cons rfl (fun K hK => ?_) AllReadyH.nil)
    refine step_wp8 (by rfl) ?_
    refine wp_store_row 38 (.tmp 7) (.tmp 40) rfl b7 (bva y) rfl rfl 38 (bva z) X7b.out.1 HIY.out (by rw [bva_size, bva_size, HY3.out, HZ3.out]) (bva_one _) ?_
    obtain ⟨w9, hw9⟩ : ∃ w9, w9 = w4.drew.setRow b7 (bva y) := ⟨_, rfl⟩
    have B9 := Lib.hid (show Blk w9 b7 (bva y) 38 from by rw [hw9]; exact setRow_heap _ _ _ _ _ _ X7b.out.1)
    have T9 := Lib.hid (show But (fun q => q = b7) w4.drew w9 from by rw [hw9]; exact (But.refl _).setRow (S := fun q => q = b7) (.inl rfl) _)
    have B98 := Lib.hid ((HV.out.below (Below.refl _ _).drew).but T9.out NE.out)
    change K _ (w4.drew.setRow b7 (bva y))
    rw [← hw9]
    clear hw9
    refine hK.out _ _ B98.out (fun hh => ?_)
    clear hh hK K HH
    try simp only [List.getElem_toArray, List.getElem_cons_succ, List.getElem_cons_zero, Act.put, List.setIfInBounds_toArray, List.set_cons_zero, List.set_cons_succ]
    refine wpAnyH_done (by kernel_rfl) ?_ _
    go_wp2_with fail
    refine bodyPost_ret (v := .tuple #[.int .i64 (refuseN S.p (S.at k) x.n), .agg (bva y)]) (results_tc8 Try.results17 _ _ b7 38 (bva y) _ rfl B9.out Try.underlying38 rfl HIY.out) rfl ?_
    rw [HDE.out]
    exact ⟨rfl, fin_told H0.out BB.out Hb.out HSb.out HTb.out T9.out (by have := HB7.out; omega) (by have := HB2.out; have := HB7.out; omega)⟩
  by_cases hk3 : x.kind = 3
  ·
    have HDE := Lib.hid (show S.deed k x = (0, zeroS, S.put k ((S.at k).tear x.n x.m)) from by unfold Sy.deed; rw [if_neg (show ¬ x.kind = 0 by omega), if_neg (show ¬ x.kind = 1 by omega), if_neg (show ¬ x.kind = 2 by omega), if_pos hk3])
    rw [hk3] at d1
    clear hk3 hk0 hk1 hk2
    go_wp2_with fail
    have hc := rtear_sys H.out k HK.out x.n x.m
    rw [← HGG.out] at hc
    refine hc.mono ?_
    rintro e2 w2 ⟨rfl, F2, h, hs, hb⟩
    have H2 := Lib.hid h
    have HS2 := Lib.hid hs
    have HT2 := Lib.hid hb
    have X72 := Lib.hid (X7.out.step hs hb)
    clear h hs hb hc d0 d1 d2 d3 d4
    go_wp2_with (show wpList _ _ _ ({ dst := some 93, op := .build 38 #[], type := _, pos := _, after := _, guard := _ } :: _) _ _; apply Classical.byContradiction; intro hneg)
    refine hneg ?_
    clear hneg
    refine wpList_build rfl 38 #[] rfl (v := .agg (bva z)) ?hbld ?_
    case hbld => (first | exact HBZ.out _ | (rw [Array.map_empty]; exact HBZ.out _) | (simp only [List.map_toArray, List.map_nil]; exact HBZ.out _))
    go_wp2_with (show wpList _ _ _ ({ dst := none, op := .store 38 (.tmp 7) (.tmp 93), type := _, pos := _, after := _, guard := _ } :: _) _ _; apply Classical.byContradiction; intro hneg)
    refine hneg ?_
    clear hneg
    refine wpList_store_row rfl 38 (.tmp 7) (.tmp 93) rfl b7 (bva z) rfl rfl 38 (bva z) X72.out.1 HI.out rfl (bva_one _) ?_
    obtain ⟨w9, hw9⟩ : ∃ w9, w9 = w2.setRow b7 (bva z) := ⟨_, rfl⟩
    have B9 := Lib.hid (show Blk w9 b7 (bva z) 38 from by rw [hw9]; exact setRow_heap _ _ _ _ _ _ X72.out.1)
    have T9 := Lib.hid (show But (fun q => q = b7) w2 w9 from by rw [hw9]; exact (But.refl _).setRow (S := fun q => q = b7) (.inl rfl) _)
    rw [← hw9]
    clear hw9
    go_wp2_with (refine wpList_build rfl 38 #[] rfl (v := .agg (bva z)) ?hbld ?_; case hbld => (first | exact HBZ.out _ | (rw [Array.map_empty]; exact HBZ.out _) | (simp only [List.map_toArray, List.map_nil]; exact HBZ.out _)))
    refine bodyPost_ret (v := .tuple #[.int .i64 0, .agg (bva z)]) (results_tc8 Try.results17 _ _ b7 38 (bva z) _ rfl B9.out Try.underlying38 rfl HI.out) rfl ?_
    rw [HDE.out]
    exact ⟨by rw [← HZ.out], fin_told H0.out BB.out H2.out HS2.out HT2.out T9.out (by have := HB7.out; omega) (by have := HB2.out; have := HB7.out; omega)⟩
  by_cases hk4 : x.kind = 4
  ·
    have HDE := Lib.hid (show S.deed k x = (0, zeroS, S.put k ((S.at k).lie ((x.c.toNat : Int) % 2 == 1))) from by unfold Sy.deed; rw [if_neg (show ¬ x.kind = 0 by omega), if_neg (show ¬ x.kind = 1 by omega), if_neg (show ¬ x.kind = 2 by omega), if_neg (show ¬ x.kind = 3 by omega), if_pos hk4])
    rw [hk4] at d1
    clear hk4 hk0 hk1 hk2 hk3
    obtain ⟨Fs, FA, fc, hR, hF, hl⟩ := H.out
    obtain ⟨A, n, c, W, m, e, hd, hDF⟩ := hR.dev k HK.out
    rw [← HGG.out] at hd
    have e4 : wb.cell? ⟨g, 4, none⟩ = some (.bool (S.at k).lies) := hd.blk.cell 4
    have e5 : wb.frozen? ⟨g, 4, none⟩ = false := hd.blk.free 4
    obtain ⟨w2, hw2⟩ : ∃ w2, w2 = wb.setCell ⟨g, 4, none⟩ (.bool ((x.c.toNat : Int) % 2 == 1)) := ⟨_, rfl⟩
    have hret : ∃ F2, RSys w2 p gs (S.put k ((S.at k).lie ((x.c.toNat : Int) % 2 == 1))) F2 ∧ (∀ q, F2 q → F q ∨ wb.heap.size ≤ q) ∧ But F wb w2 := by
      rw [hw2]
      have h := hR.lie hF hl k HK.out ((x.c.toNat : Int) % 2 == 1)
      rw [← HGG.out] at h
      exact h
    obtain ⟨F2, h, hs, hb⟩ := hret
    have H2 := Lib.hid h
    have HS2 := Lib.hid hs
    have HT2 := Lib.hid hb
    have X72 := Lib.hid (X7.out.step hs hb)
    clear h hs hb hR hF hl
    go_upto_region 22 with fail
    rw [← hw2]
    clear hw2 d0 d1 d2 d3 d4
    go_wp2_with (show wpList _ _ _ ({ dst := some 93, op := .build 38 #[], type := _, pos := _, after := _, guard := _ } :: _) _ _; apply Classical.byContradiction; intro hneg)
    refine hneg ?_
    clear hneg
    refine wpList_build rfl 38 #[] rfl (v := .agg (bva z)) ?hbld ?_
    case hbld => (first | exact HBZ.out _ | (rw [Array.map_empty]; exact HBZ.out _) | (simp only [List.map_toArray, List.map_nil]; exact HBZ.out _))
    go_wp2_with (show wpList _ _ _ ({ dst := none, op := .store 38 (.tmp 7) (.tmp 93), type := _, pos := _, after := _, guard := _ } :: _) _ _; apply Classical.byContradiction; intro hneg)
    refine hneg ?_
    clear hneg
    refine wpList_store_row rfl 38 (.tmp 7) (.tmp 93) rfl b7 (bva z) rfl rfl 38 (bva z) X72.out.1 HI.out rfl (bva_one _) ?_
    obtain ⟨w9, hw9⟩ : ∃ w9, w9 = w2.setRow b7 (bva z) := ⟨_, rfl⟩
    have B9 := Lib.hid (show Blk w9 b7 (bva z) 38 from by rw [hw9]; exact setRow_heap _ _ _ _ _ _ X72.out.1)
    have T9 := Lib.hid (show But (fun q => q = b7) w2 w9 from by rw [hw9]; exact (But.refl _).setRow (S := fun q => q = b7) (.inl rfl) _)
    rw [← hw9]
    clear hw9
    go_wp2_with (refine wpList_build rfl 38 #[] rfl (v := .agg (bva z)) ?hbld ?_; case hbld => (first | exact HBZ.out _ | (rw [Array.map_empty]; exact HBZ.out _) | (simp only [List.map_toArray, List.map_nil]; exact HBZ.out _)))
    refine bodyPost_ret (v := .tuple #[.int .i64 0, .agg (bva z)]) (results_tc8 Try.results17 _ _ b7 38 (bva z) _ rfl B9.out Try.underlying38 rfl HI.out) rfl ?_
    rw [HDE.out]
    exact ⟨by rw [← HZ.out], fin_told H0.out BB.out H2.out HS2.out HT2.out T9.out (by have := HB7.out; omega) (by have := HB2.out; have := HB7.out; omega)⟩
  by_cases hk5 : x.kind = 5
  ·
    have HDE := Lib.hid (show S.deed k x = (0, zeroS, S.put k ((S.at k).out ((x.c.toNat : Int) % 2 == 1))) from by unfold Sy.deed; rw [if_neg (show ¬ x.kind = 0 by omega), if_neg (show ¬ x.kind = 1 by omega), if_neg (show ¬ x.kind = 2 by omega), if_neg (show ¬ x.kind = 3 by omega), if_neg (show ¬ x.kind = 4 by omega), if_pos hk5])
    rw [hk5] at d1
    clear hk5 hk0 hk1 hk2 hk3 hk4
    go_wp2_with fail
    have hc : ∀ on, Calls Try.prog 57 #[.pointer (some ⟨g, 0, none⟩), .bool on] wb (RetR (.tuple #[]) p gs (S.put k ((S.at k).out on)) F wb) := fun on => by rw [HGG.out]; exact rout_sys H.out k HK.out on
    refine (hc _).mono ?_
    rintro e2 w2 ⟨rfl, F2, h, hs, hb⟩
    have H2 := Lib.hid h
    have HS2 := Lib.hid hs
    have HT2 := Lib.hid hb
    have X72 := Lib.hid (X7.out.step hs hb)
    clear h hs hb hc d0 d1 d2 d3 d4
    go_wp2_with (show wpList _ _ _ ({ dst := some 93, op := .build 38 #[], type := _, pos := _, after := _, guard := _ } :: _) _ _; apply Classical.byContradiction; intro hneg)
    refine hneg ?_
    clear hneg
    refine wpList_build rfl 38 #[] rfl (v := .agg (bva z)) ?hbld ?_
    case hbld => (first | exact HBZ.out _ | (rw [Array.map_empty]; exact HBZ.out _) | (simp only [List.map_toArray, List.map_nil]; exact HBZ.out _))
    go_wp2_with (show wpList _ _ _ ({ dst := none, op := .store 38 (.tmp 7) (.tmp 93), type := _, pos := _, after := _, guard := _ } :: _) _ _; apply Classical.byContradiction; intro hneg)
    refine hneg ?_
    clear hneg
    refine wpList_store_row rfl 38 (.tmp 7) (.tmp 93) rfl b7 (bva z) rfl rfl 38 (bva z) X72.out.1 HI.out rfl (bva_one _) ?_
    obtain ⟨w9, hw9⟩ : ∃ w9, w9 = w2.setRow b7 (bva z) := ⟨_, rfl⟩
    have B9 := Lib.hid (show Blk w9 b7 (bva z) 38 from by rw [hw9]; exact setRow_heap _ _ _ _ _ _ X72.out.1)
    have T9 := Lib.hid (show But (fun q => q = b7) w2 w9 from by rw [hw9]; exact (But.refl _).setRow (S := fun q => q = b7) (.inl rfl) _)
    rw [← hw9]
    clear hw9
    go_wp2_with (refine wpList_build rfl 38 #[] rfl (v := .agg (bva z)) ?hbld ?_; case hbld => (first | exact HBZ.out _ | (rw [Array.map_empty]; exact HBZ.out _) | (simp only [List.map_toArray, List.map_nil]; exact HBZ.out _)))
    refine bodyPost_ret (v := .tuple #[.int .i64 0, .agg (bva z)]) (results_tc8 Try.results17 _ _ b7 38 (bva z) _ rfl B9.out Try.underlying38 rfl HI.out) rfl ?_
    rw [HDE.out]
    exact ⟨by rw [← HZ.out], fin_told H0.out BB.out H2.out HS2.out HT2.out T9.out (by have := HB7.out; omega) (by have := HB2.out; have := HB7.out; omega)⟩
  by_cases hk6 : x.kind = 6
  ·
    have HDE := Lib.hid (show S.deed k x = (if hasByte (S.at k).st.length x.n x.m then 1 else 0, zeroS, S.rot k x.n x.m x.c) from by unfold Sy.deed; rw [if_neg (show ¬ x.kind = 0 by omega), if_neg (show ¬ x.kind = 1 by omega), if_neg (show ¬ x.kind = 2 by omega), if_neg (show ¬ x.kind = 3 by omega), if_neg (show ¬ x.kind = 4 by omega), if_neg (show ¬ x.kind = 5 by omega), if_pos hk6])
    rw [hk6] at d1
    clear hk6 hk0 hk1 hk2 hk3 hk4 hk5
    go_wp2_with fail
    have hc := rrot_sys H.out k HK.out x.n x.m x.c
    rw [← HGG.out] at hc
    refine hc.mono ?_
    rintro e2 w2 ⟨rfl, F2, h, hs, hb⟩
    have H2 := Lib.hid h
    have HS2 := Lib.hid hs
    have HT2 := Lib.hid hb
    have X72 := Lib.hid (X7.out.step hs hb)
    clear h hs hb hc d0 d1 d2 d3 d4
    cases hbt : hasByte (S.at k).st.length x.n x.m with
    | true =>
      rw [hbt, if_pos rfl] at HDE
      clear hbt
      go_wp2_with (show wpList _ _ _ ({ dst := some 76, op := .build 38 #[], type := _, pos := _, after := _, guard := _ } :: _) _ _; apply Classical.byContradiction; intro hneg)
      refine hneg ?_
      clear hneg
      refine wpList_build rfl 38 #[] rfl (v := .agg (bva z)) ?hbld ?_
      case hbld => (first | exact HBZ.out _ | (rw [Array.map_empty]; exact HBZ.out _) | (simp only [List.map_toArray, List.map_nil]; exact HBZ.out _))
      go_wp2_with (show wpList _ _ _ ({ dst := none, op := .store 38 (.tmp 7) (.tmp 76), type := _, pos := _, after := _, guard := _ } :: _) _ _; apply Classical.byContradiction; intro hneg)
      refine hneg ?_
      clear hneg
      refine wpList_store_row rfl 38 (.tmp 7) (.tmp 76) rfl b7 (bva z) rfl rfl 38 (bva z) X72.out.1 HI.out rfl (bva_one _) ?_
      obtain ⟨w9, hw9⟩ : ∃ w9, w9 = w2.setRow b7 (bva z) := ⟨_, rfl⟩
      have B9 := Lib.hid (show Blk w9 b7 (bva z) 38 from by rw [hw9]; exact setRow_heap _ _ _ _ _ _ X72.out.1)
      have T9 := Lib.hid (show But (fun q => q = b7) w2 w9 from by rw [hw9]; exact (But.refl _).setRow (S := fun q => q = b7) (.inl rfl) _)
      rw [← hw9]
      clear hw9
      go_wp2_with (refine wpList_build rfl 38 #[] rfl (v := .agg (bva z)) ?hbld ?_; case hbld => (first | exact HBZ.out _ | (rw [Array.map_empty]; exact HBZ.out _) | (simp only [List.map_toArray, List.map_nil]; exact HBZ.out _)))
      refine bodyPost_ret (v := .tuple #[.int .i64 1, .agg (bva z)]) (results_tc8 Try.results17 _ _ b7 38 (bva z) _ rfl B9.out Try.underlying38 rfl HI.out) rfl ?_
      rw [HDE.out]
      exact ⟨by rw [← HZ.out], fin_told H0.out BB.out H2.out HS2.out HT2.out T9.out (by have := HB7.out; omega) (by have := HB2.out; have := HB7.out; omega)⟩
    | false =>
      rw [hbt, if_neg (by decide)] at HDE
      clear hbt
      go_wp2_with (show wpList _ _ _ ({ dst := some 93, op := .build 38 #[], type := _, pos := _, after := _, guard := _ } :: _) _ _; apply Classical.byContradiction; intro hneg)
      refine hneg ?_
      clear hneg
      refine wpList_build rfl 38 #[] rfl (v := .agg (bva z)) ?hbld ?_
      case hbld => (first | exact HBZ.out _ | (rw [Array.map_empty]; exact HBZ.out _) | (simp only [List.map_toArray, List.map_nil]; exact HBZ.out _))
      go_wp2_with (show wpList _ _ _ ({ dst := none, op := .store 38 (.tmp 7) (.tmp 93), type := _, pos := _, after := _, guard := _ } :: _) _ _; apply Classical.byContradiction; intro hneg)
      refine hneg ?_
      clear hneg
      refine wpList_store_row rfl 38 (.tmp 7) (.tmp 93) rfl b7 (bva z) rfl rfl 38 (bva z) X72.out.1 HI.out rfl (bva_one _) ?_
      obtain ⟨w9, hw9⟩ : ∃ w9, w9 = w2.setRow b7 (bva z) := ⟨_, rfl⟩
      have B9 := Lib.hid (show Blk w9 b7 (bva z) 38 from by rw [hw9]; exact setRow_heap _ _ _ _ _ _ X72.out.1)
      have T9 := Lib.hid (show But (fun q => q = b7) w2 w9 from by rw [hw9]; exact (But.refl _).setRow (S := fun q => q = b7) (.inl rfl) _)
      rw [← hw9]
      clear hw9
      go_wp2_with (refine wpList_build rfl 38 #[] rfl (v := .agg (bva z)) ?hbld ?_; case hbld => (first | exact HBZ.out _ | (rw [Array.map_empty]; exact HBZ.out _) | (simp only [List.map_toArray, List.map_nil]; exact HBZ.out _)))
      refine bodyPost_ret (v := .tuple #[.int .i64 0, .agg (bva z)]) (results_tc8 Try.results17 _ _ b7 38 (bva z) _ rfl B9.out Try.underlying38 rfl HI.out) rfl ?_
      rw [HDE.out]
      exact ⟨by rw [← HZ.out], fin_told H0.out BB.out H2.out HS2.out HT2.out T9.out (by have := HB7.out; omega) (by have := HB2.out; have := HB7.out; omega)⟩
  by_cases hk7 : x.kind = 7
  ·
    have HDE := Lib.hid (show S.deed k x = (0, zeroS, S.fail x.n) from by unfold Sy.deed; rw [if_neg (show ¬ x.kind = 0 by omega), if_neg (show ¬ x.kind = 1 by omega), if_neg (show ¬ x.kind = 2 by omega), if_neg (show ¬ x.kind = 3 by omega), if_neg (show ¬ x.kind = 4 by omega), if_neg (show ¬ x.kind = 5 by omega), if_neg (show ¬ x.kind = 6 by omega), if_pos hk7])
    rw [hk7] at d1
    clear hk7 hk0 hk1 hk2 hk3 hk4 hk5 hk6
    obtain ⟨Fs, FA, fc, hR, hF, hl⟩ := H.out
    have e1 : wb.cell? ⟨p, 1, none⟩ = some (.bool S.p.off) := hR.pow.blk.cell 1
    have e2 : wb.cell? ⟨p, 2, none⟩ = some (.int .i64 S.p.left) := hR.pow.blk.cell 2
    have e3 : wb.frozen? ⟨p, 1, none⟩ = false := hR.pow.blk.free 1
    have e4 : wb.frozen? ⟨p, 2, none⟩ = false := hR.pow.blk.free 2
    have hif : (if x.n < -1 then -1 else x.n) = failN x.n := by unfold failN; split <;> omega
    obtain ⟨w2, hw2⟩ : ∃ w2, w2 = wb.setCell ⟨p, 2, none⟩ (.int .i64 (failN x.n)) := ⟨_, rfl⟩
    have hret : ∃ F2, RSys w2 p gs (S.fail x.n) F2 ∧ (∀ q, F2 q → F q ∨ wb.heap.size ≤ q) ∧ But F wb w2 := by
      rw [hw2]
      have hbt : But (fun q => q = p) wb (wb.setCell ⟨p, 2, none⟩ (.int .i64 (failN x.n))) := but_one _
      have h1 := hR.power (P := ⟨S.p.off, failN x.n⟩) hbt (blk_setN8 hR.pow.blk 2 _) (by have := HXO.out.2.2.1.2; show -1 ≤ failN x.n ∧ failN x.n ≤ _; unfold failN; omega)
      exact h1.fin (N := S.ds.length) (Fs := Fs) hF hl rfl (fun _ _ _ hq => .inl hq) (hbt.mono (fun q e => hF q (.inl e)))
    obtain ⟨F2, h, hs, hb⟩ := hret
    have H2 := Lib.hid h
    have HS2 := Lib.hid hs
    have HT2 := Lib.hid hb
    have X72 := Lib.hid (X7.out.step hs hb)
    clear h hs hb hR hF hl
    go_upto_region 22 with fail
    rw [← hw2]
    clear hw2 d0 d1 d2 d3 d4
    go_wp2_with (show wpList _ _ _ ({ dst := some 93, op := .build 38 #[], type := _, pos := _, after := _, guard := _ } :: _) _ _; apply Classical.byContradiction; intro hneg)
    refine hneg ?_
    clear hneg
    refine wpList_build rfl 38 #[] rfl (v := .agg (bva z)) ?hbld ?_
    case hbld => (first | exact HBZ.out _ | (rw [Array.map_empty]; exact HBZ.out _) | (simp only [List.map_toArray, List.map_nil]; exact HBZ.out _))
    go_wp2_with (show wpList _ _ _ ({ dst := none, op := .store 38 (.tmp 7) (.tmp 93), type := _, pos := _, after := _, guard := _ } :: _) _ _; apply Classical.byContradiction; intro hneg)
    refine hneg ?_
    clear hneg
    refine wpList_store_row rfl 38 (.tmp 7) (.tmp 93) rfl b7 (bva z) rfl rfl 38 (bva z) X72.out.1 HI.out rfl (bva_one _) ?_
    obtain ⟨w9, hw9⟩ : ∃ w9, w9 = w2.setRow b7 (bva z) := ⟨_, rfl⟩
    have B9 := Lib.hid (show Blk w9 b7 (bva z) 38 from by rw [hw9]; exact setRow_heap _ _ _ _ _ _ X72.out.1)
    have T9 := Lib.hid (show But (fun q => q = b7) w2 w9 from by rw [hw9]; exact (But.refl _).setRow (S := fun q => q = b7) (.inl rfl) _)
    rw [← hw9]
    clear hw9
    go_wp2_with (refine wpList_build rfl 38 #[] rfl (v := .agg (bva z)) ?hbld ?_; case hbld => (first | exact HBZ.out _ | (rw [Array.map_empty]; exact HBZ.out _) | (simp only [List.map_toArray, List.map_nil]; exact HBZ.out _)))
    refine bodyPost_ret (v := .tuple #[.int .i64 0, .agg (bva z)]) (results_tc8 Try.results17 _ _ b7 38 (bva z) _ rfl B9.out Try.underlying38 rfl HI.out) rfl ?_
    rw [HDE.out]
    exact ⟨by rw [← HZ.out], fin_told H0.out BB.out H2.out HS2.out HT2.out T9.out (by have := HB7.out; omega) (by have := HB2.out; have := HB7.out; omega)⟩
  by_cases hk8 : x.kind = 8
  ·
    have HDE := Lib.hid (show S.deed k x = (0, zeroS, S.restart) from by unfold Sy.deed; rw [if_neg (show ¬ x.kind = 0 by omega), if_neg (show ¬ x.kind = 1 by omega), if_neg (show ¬ x.kind = 2 by omega), if_neg (show ¬ x.kind = 3 by omega), if_neg (show ¬ x.kind = 4 by omega), if_neg (show ¬ x.kind = 5 by omega), if_neg (show ¬ x.kind = 6 by omega), if_neg (show ¬ x.kind = 7 by omega), if_pos hk8])
    rw [hk8] at d1
    clear hk8 hk0 hk1 hk2 hk3 hk4 hk5 hk6 hk7
    obtain ⟨Fs, FA, fc, hR, hF, hl⟩ := H.out
    have e1 : wb.cell? ⟨p, 1, none⟩ = some (.bool S.p.off) := hR.pow.blk.cell 1
    have e2 : wb.cell? ⟨p, 2, none⟩ = some (.int .i64 S.p.left) := hR.pow.blk.cell 2
    have e3 : wb.frozen? ⟨p, 1, none⟩ = false := hR.pow.blk.free 1
    have e4 : wb.frozen? ⟨p, 2, none⟩ = false := hR.pow.blk.free 2

    obtain ⟨w2, hw2⟩ : ∃ w2, w2 = (wb.setCell ⟨p, 1, none⟩ (.bool false)).setCell ⟨p, 2, none⟩ (.int .i64 (-1)) := ⟨_, rfl⟩
    have hret : ∃ F2, RSys w2 p gs (S.restart) F2 ∧ (∀ q, F2 q → F q ∨ wb.heap.size ≤ q) ∧ But F wb w2 := by
      rw [hw2]
      have hbt : But (fun q => q = p) wb ((wb.setCell ⟨p, 1, none⟩ (.bool false)).setCell ⟨p, 2, none⟩ (.int .i64 (-1))) := (but_one _).trans (but_one _)
      have h1 := hR.power (P := ⟨false, -1⟩) hbt (blk_setN8 (blk_setN8 hR.pow.blk 1 _) 2 _) (by show -1 ≤ (-1 : Int) ∧ (-1 : Int) ≤ _; omega)
      exact h1.fin (N := S.ds.length) (Fs := Fs) hF hl rfl (fun _ _ _ hq => .inl hq) (hbt.mono (fun q e => hF q (.inl e)))
    obtain ⟨F2, h, hs, hb⟩ := hret
    have H2 := Lib.hid h
    have HS2 := Lib.hid hs
    have HT2 := Lib.hid hb
    have X72 := Lib.hid (X7.out.step hs hb)
    clear h hs hb hR hF hl
    go_upto_region 22 with fail
    rw [← hw2]
    clear hw2 d0 d1 d2 d3 d4
    go_wp2_with (show wpList _ _ _ ({ dst := some 93, op := .build 38 #[], type := _, pos := _, after := _, guard := _ } :: _) _ _; apply Classical.byContradiction; intro hneg)
    refine hneg ?_
    clear hneg
    refine wpList_build rfl 38 #[] rfl (v := .agg (bva z)) ?hbld ?_
    case hbld => (first | exact HBZ.out _ | (rw [Array.map_empty]; exact HBZ.out _) | (simp only [List.map_toArray, List.map_nil]; exact HBZ.out _))
    go_wp2_with (show wpList _ _ _ ({ dst := none, op := .store 38 (.tmp 7) (.tmp 93), type := _, pos := _, after := _, guard := _ } :: _) _ _; apply Classical.byContradiction; intro hneg)
    refine hneg ?_
    clear hneg
    refine wpList_store_row rfl 38 (.tmp 7) (.tmp 93) rfl b7 (bva z) rfl rfl 38 (bva z) X72.out.1 HI.out rfl (bva_one _) ?_
    obtain ⟨w9, hw9⟩ : ∃ w9, w9 = w2.setRow b7 (bva z) := ⟨_, rfl⟩
    have B9 := Lib.hid (show Blk w9 b7 (bva z) 38 from by rw [hw9]; exact setRow_heap _ _ _ _ _ _ X72.out.1)
    have T9 := Lib.hid (show But (fun q => q = b7) w2 w9 from by rw [hw9]; exact (But.refl _).setRow (S := fun q => q = b7) (.inl rfl) _)
    rw [← hw9]
    clear hw9
    go_wp2_with (refine wpList_build rfl 38 #[] rfl (v := .agg (bva z)) ?hbld ?_; case hbld => (first | exact HBZ.out _ | (rw [Array.map_empty]; exact HBZ.out _) | (simp only [List.map_toArray, List.map_nil]; exact HBZ.out _)))
    refine bodyPost_ret (v := .tuple #[.int .i64 0, .agg (bva z)]) (results_tc8 Try.results17 _ _ b7 38 (bva z) _ rfl B9.out Try.underlying38 rfl HI.out) rfl ?_
    rw [HDE.out]
    exact ⟨by rw [← HZ.out], fin_told H0.out BB.out H2.out HS2.out HT2.out T9.out (by have := HB7.out; omega) (by have := HB2.out; have := HB7.out; omega)⟩
  have HDE := Lib.hid (show S.deed k x = (0, zeroS, S) from by unfold Sy.deed; rw [if_neg hk0, if_neg hk1, if_neg hk2, if_neg hk3, if_neg hk4, if_neg hk5, if_neg hk6, if_neg hk7, if_neg hk8])
  have Hb := Lib.hid H.out
  have HSb := Lib.hid ((fun q hq => .inl hq) : ∀ q, F q → F q ∨ wb.heap.size ≤ q)
  have HTb := Lib.hid (But.refl wb : But F wb wb)
  have X7b := Lib.hid X7.out
  go_wp2_with (show wpList _ _ _ ({ dst := some 93, op := .build 38 #[], type := _, pos := _, after := _, guard := _ } :: _) _ _; apply Classical.byContradiction; intro hneg)
  refine hneg ?_
  clear hneg
  refine wpList_build rfl 38 #[] rfl (v := .agg (bva z)) ?hbld ?_
  case hbld => (first | exact HBZ.out _ | (rw [Array.map_empty]; exact HBZ.out _) | (simp only [List.map_toArray, List.map_nil]; exact HBZ.out _))
  go_wp2_with (show wpList _ _ _ ({ dst := none, op := .store 38 (.tmp 7) (.tmp 93), type := _, pos := _, after := _, guard := _ } :: _) _ _; apply Classical.byContradiction; intro hneg)
  refine hneg ?_
  clear hneg
  refine wpList_store_row rfl 38 (.tmp 7) (.tmp 93) rfl b7 (bva z) rfl rfl 38 (bva z) X7b.out.1 HI.out rfl (bva_one _) ?_
  obtain ⟨w9, hw9⟩ : ∃ w9, w9 = wb.setRow b7 (bva z) := ⟨_, rfl⟩
  have B9 := Lib.hid (show Blk w9 b7 (bva z) 38 from by rw [hw9]; exact setRow_heap _ _ _ _ _ _ X7b.out.1)
  have T9 := Lib.hid (show But (fun q => q = b7) wb w9 from by rw [hw9]; exact (But.refl _).setRow (S := fun q => q = b7) (.inl rfl) _)
  rw [← hw9]
  clear hw9
  go_wp2_with (refine wpList_build rfl 38 #[] rfl (v := .agg (bva z)) ?hbld ?_; case hbld => (first | exact HBZ.out _ | (rw [Array.map_empty]; exact HBZ.out _) | (simp only [List.map_toArray, List.map_nil]; exact HBZ.out _)))
  refine bodyPost_ret (v := .tuple #[.int .i64 0, .agg (bva z)]) (results_tc8 Try.results17 _ _ b7 38 (bva z) _ rfl B9.out Try.underlying38 rfl HI.out) rfl ?_
  rw [HDE.out]
  exact ⟨by rw [← HZ.out], fin_told H0.out BB.out Hb.out HSb.out HTb.out T9.out (by have := HB7.out; omega) (by have := HB2.out; have := HB7.out; omega)⟩
end Go.Proofs.Ytfofkjcdohmkpaa.Kd
/-
  The contract of the reference's New, and of the power that the law begins with.
-/
namespace Go.Proofs.Ytfofkjcdohmkpaa.Kd
open Go.RowKit Go.Maps
attribute [local go_sem ↓] Go.wp_at_zero Go.wp_at_succ
/-- A device more. -/
theorem rsys_grow {w w' : World} {p : Nat} {xs : List Nat} {S : Sy} {Fs : Nat → Nat → Prop} {F G : Nat → Prop} {FA FA' : Option Addr} {fc fc' g : Nat} {d : Dv} (h : RSysR w p xs S Fs FA fc) (hF : ∀ q, RSysF p xs Fs FA fc S.ds.length q → F q) (hl : ∀ q, F q → q < w.heap.size)
    (hT : But (fun q => q = p ∨ (Value.slice FA xs.length fc).ownBlock = some q) w w') (hP : RPowR w' p S.p (xs ++ [g]) FA' fc') (hd : RdAt w' g d G)
    (hG : ∀ q, G q → w.heap.size ≤ q ∧ q < w'.heap.size ∧ ∀ k, (Value.slice FA' (xs ++ [g]).length fc').ownBlock = some k → q ≠ k)
    (hr : ∀ q, (Value.slice FA' (xs ++ [g]).length fc').ownBlock = some q → (Value.slice FA xs.length fc).ownBlock = some q ∨ w.heap.size ≤ q) :
    ∃ F', RSys w' p (xs ++ [g]) ⟨S.p, S.ds ++ [d]⟩ F' ∧ (∀ q, F' q → F q ∨ w.heap.size ≤ q) ∧ But F w w' := by
  have hN : (S.ds ++ [d]).length = S.ds.length + 1 := by simp
  have hpl := h.pow.blk.lt
  have hgl : ∀ j, j < S.ds.length → (xs ++ [g]).getD j 0 = xs.getD j 0 := fun j hj => getD_left8 (by rw [h.xl]; exact hj)
  have hgN : (xs ++ [g]).getD S.ds.length 0 = g := by rw [← h.xl]; exact getD_last8
  have hat : ∀ j, j < S.ds.length → (Sy.mk S.p (S.ds ++ [d])).at j = S.at j := fun j hj => getD_left8 hj
  have hatN : (Sy.mk S.p (S.ds ++ [d])).at S.ds.length = d := getD_last8
  have hS : ∀ i, i < S.ds.length → ∀ q, Fs i q → ¬ (q = p ∨ (Value.slice FA xs.length fc).ownBlock = some q) := fun i hi q hq => by
    have := h.other i q hi hq
    rintro (e | e)
    · exact this.1 e
    · exact this.2 q e rfl
  refine ⟨grow F w w', ⟨fun i => if i < S.ds.length then Fs i else G, FA', fc', ⟨hP, by simp [h.xl], ?_, ?_, ?_, ?_⟩, ?_, ?_⟩, ?_, ?_⟩
  · intro i hi
    by_cases e : i < S.ds.length
    · show RdAt w' ((xs ++ [g]).getD i 0) _ (if i < S.ds.length then Fs i else G)
      rw [if_pos e, hgl i e, hat i e]
      exact (h.dev i e).but hT (fun q h1 h2 => hS i e q h1 h2)
    · have : i = S.ds.length := by have : i < S.ds.length + 1 := by rw [← hN]; exact hi
                                   omega
      subst this
      show RdAt w' ((xs ++ [g]).getD S.ds.length 0) _ (if S.ds.length < S.ds.length then _ else G)
      rw [if_neg e, hgN, hatN]
      exact hd
  · intro i j q hi hj hne h1 h2
    have hi' : i < S.ds.length + 1 := by rw [← hN]; exact hi
    have hj' : j < S.ds.length + 1 := by rw [← hN]; exact hj
    by_cases ei : i < S.ds.length
    · replace h1 : Fs i q := by have h := h1; simp only [if_pos ei] at h; exact h
      by_cases ej : j < S.ds.length
      · replace h2 : Fs j q := by have h := h2; simp only [if_pos ej] at h; exact h
        exact h.apart i j q ei ej hne h1 h2
      · replace h2 : G q := by have h := h2; simp only [if_neg ej] at h; exact h
        have := h.lt i q ei h1; have := (hG q h2).1; omega
    · replace h1 : G q := by have h := h1; simp only [if_neg ei] at h; exact h
      by_cases ej : j < S.ds.length
      · replace h2 : Fs j q := by have h := h2; simp only [if_pos ej] at h; exact h
        have := h.lt j q ej h2; have := (hG q h1).1; omega
      · omega
  · intro i q hi hq
    by_cases ei : i < S.ds.length
    · replace hq : Fs i q := by have h := hq; simp only [if_pos ei] at h; exact h
      exact Nat.lt_of_lt_of_le (h.lt i q ei hq) hT.size
    · replace hq : G q := by have h := hq; simp only [if_neg ei] at h; exact h
      exact (hG q hq).2.1
  · intro i q hi hq
    by_cases ei : i < S.ds.length
    · replace hq : Fs i q := by have h := hq; simp only [if_pos ei] at h; exact h
      have ho := h.other i q ei hq
      have hlt := h.lt i q ei hq
      refine ⟨ho.1, fun k hk => ?_⟩
      rcases hr k hk with h1 | h1
      · exact ho.2 k h1
      · omega
    · replace hq : G q := by have h := hq; simp only [if_neg ei] at h; exact h
      have hg := hG q hq
      exact ⟨by omega, hg.2.2⟩
  · rintro q (hq | hq | ⟨i, hi, hq⟩)
    · exact .inl (hF q (.inl hq))
    · rcases hr q hq with h1 | h1
      · exact .inl (hF q (.inr (.inl h1)))
      · exact .inr ⟨h1, (hP.row.lt q hq).2⟩
    · by_cases ei : i < S.ds.length
      · replace hq : Fs i q := by have h := hq; simp only [if_pos ei] at h; exact h
        exact .inl (hF q (.inr (.inr ⟨i, ei, hq⟩)))
      · replace hq : G q := by have h := hq; simp only [if_neg ei] at h; exact h
        exact .inr ⟨(hG q hq).1, (hG q hq).2.1⟩
  · rintro q (hq | hq)
    · exact Nat.lt_of_lt_of_le (hl q hq) hT.size
    · exact hq.2
  · rintro q (hq | hq)
    · exact .inl hq
    · exact .inr hq.1
  · refine hT.mono (fun q hq => ?_)
    rcases hq with hq | hq
    · exact hF q (.inl hq)
    · exact hF q (.inr (.inl hq))
theorem info_ptrR : (Try.prog.info? 33).map (fun i => (i.zero, i.size, i.bytes)) = some (some (.pointer none), 1, 8) := by kernel_rfl
theorem ptrsElt : EltN Try.prog 27 33 (.pointer none) 1 8 := ⟨Try.underlying27, info_ptrR, rfl, by omega, by omega⟩
def rcells (A : Option Addr) (n c : Nat) : Array Value := #[.slice A n c, .slice none 0 0, .int .i64 0, .int .i64 0, .bool false, .bool false]
set_option maxRecDepth 100000 in
set_option maxHeartbeats 6400000 in
theorem rnew_sys {w : World} {p : Nat} {xs : List Nat} {S : Sy} {F : Nat → Prop} (h : RSys w p xs S F) (hds : S.ds.length < 1000) (x : Int) :
    Calls Try.prog 15 #[.int .i64 x, .pointer (some ⟨p, 0, none⟩)] w (fun e w' => ∃ g, e = .returned (.pointer (some ⟨g, 0, none⟩)) ∧ ∃ F', RSys w' p (xs ++ [g]) (S.new x) F' ∧ (∀ q, F' q → F q ∨ w.heap.size ≤ q) ∧ But F w w') := by
  obtain ⟨Fs, FA, fc, h, hF, hl⟩ := h
  obtain ⟨n, hn⟩ : ∃ n, n = clampN x := ⟨_, rfl⟩
  have hnb : n ≤ 4096 := by rw [hn]; unfold clampN; omega
  have hif : (if 0 < (if 4096 < x then 4096 else x) then (if 4096 < x then 4096 else x) else 0) = (n : Int) := by rw [hn]; unfold clampN; split <;> split <;> omega
  obtain ⟨i0, hi, hz0, hz1, hz2⟩ := info_parts info_secW
  have HN := Lib.hid hn
  have HNB := Lib.hid hnb
  have H := Lib.hid h
  have HF := Lib.hid hF
  have HL := Lib.hid hl
  have HXN := Lib.hid (show xs.length < 1000 by rw [h.xl]; exact hds)
  have HBD := Lib.hid (show ∀ (A : Option Addr) (W : World), (Instr.build 46 #[(0, .slice A n n)]).run Try.prog W = .ok (.agg (rcells A n n)) W from fun A W => by kernel_rfl)
  clear h hF hl hn hds hnb
  go_enter Try.func15, Try.ntmps15
  go_wp2_with (show wpList _ _ _ ({ dst := some 9, op := .makeSlice 43 (.tmp 8) (.tmp 8), type := _, pos := _, after := _, guard := _ } :: _) _ _; apply Classical.byContradiction; intro hneg)
  refine hneg ?_
  clear hneg
  clear hif
  generalize (if (4096 : Int) < x then (4096 : Int) else x) = y7
  refine wpList_make_full _ rfl _ _ _ rfl 0 38 i0 _ 128 Try.underlying43 hi hz0 hz1 .i64 .i64 _ _ n rfl rfl rfl rfl ?_ ?_ ?_ ?_
  · rw [hz2]; have := HNB.out; omega
  · unfold maxLen; have := HNB.out; omega
  · exact Nat.zero_le _
  intro w1 hown hg
  have HO1 := Lib.hid (show w1.ownsRow 0 38 128 (.slice (some ⟨w.heap.size, 0, none⟩) n n) n (svs (List.replicate n zeroS)) from by rw [← made_svs]; exact hown)
  have HG1 := Lib.hid (below_of_grown8 hg)
  clear hown hg
  go_wp2_with (show wpList _ _ _ ({ dst := some 10, op := .build 46 #[(0, .tmp 9)], type := _, pos := _, after := _, guard := _ } :: _) _ _; apply Classical.byContradiction; intro hneg)
  refine hneg ?_
  clear hneg
  refine wpList_build rfl 46 #[(0, .tmp 9)] rfl (v := .agg (rcells (some ⟨w.heap.size, 0, none⟩) n n)) ?hbld ?_
  case hbld => (simp only [List.map_toArray, List.map_cons, List.map_nil]; exact HBD.out _ _)
  have HW1 := Lib.hid (show w.heap.size < w1.heap.size from (HO1.out.lt _ rfl).2)
  obtain ⟨w2, hw2⟩ : ∃ w2, w2 = w1.alloc (.cells (rcells (some ⟨w.heap.size, 0, none⟩) n n) 46) := ⟨_, rfl⟩
  have B2 := Lib.hid (show Blk w2 w1.heap.size (rcells (some ⟨w.heap.size, 0, none⟩) n n) 46 from by rw [hw2]; exact heap_alloc_new _ _)
  have L2 := Lib.hid (show Below w1.heap.size w1 w2 from by rw [hw2]; exact (Below.refl _ _).alloc (Nat.le_refl _) _)
  have Z2 := Lib.hid (show w2.heap.size = w1.heap.size + 1 from by rw [hw2]; simp)
  go_upto_region 2 with fail
  rw [← hw2]
  clear hw2
  have P2 := Lib.hid ((H.out.pow.below HG1.out).below L2.out)
  have cp : w2.cell? ⟨p, 0, none⟩ = some (.slice FA xs.length fc) := P2.out.blk.cell 0
  obtain ⟨w3, hw3⟩ : ∃ w3, w3 = w2.alloc (.cells #[.pointer (some ⟨w1.heap.size, 0, none⟩)] 33) := ⟨_, rfl⟩
  have L3 := Lib.hid (show Below w2.heap.size w2 w3 from by rw [hw3]; exact (Below.refl _ _).alloc (Nat.le_refl _) _)
  have P3 := Lib.hid (P2.out.below L3.out)
  have R3 := Lib.hid (show Rd w3.heap.size w3 (some ⟨w2.heap.size, 0, none⟩) [ptrR w1.heap.size] from by
    rw [hw3]
    have hb5 : Blk (w2.alloc (.cells #[.pointer (some ⟨w1.heap.size, 0, none⟩)] 33)) w2.heap.size #[ptrR w1.heap.size] 33 := heap_alloc_new _ _
    intro q v hv
    exact ⟨_, rfl, hb5.lt, by rw [Addr.add_mid, hb5.cell, Nat.zero_add]; simpa using hv⟩)
  go_wp2_with (at_builtin; apply Classical.byContradiction; intro hneg)
  refine hneg ?_
  clear hneg
  rw [← hw3]
  clear hw3
  refine wpList_appN _ rfl (.tmp 16) (.tmp 18) 27 rfl ptrsElt (base := 0) (v := .slice FA xs.length fc) rfl P3.out.row (m := 1) rfl R3.out rfl (by intro v hv; rw [List.mem_singleton] at hv; subst hv; rfl) (by have := HXN.out; omega) (Nat.zero_le _) ?_
  intro A6 c6 w6 ho6 hg6 hl6
  have HO6 := Lib.hid ho6
  have T6 := Lib.hid (show But (fun q => (Value.slice FA xs.length fc).ownBlock = some q) w3 w6 from (But.refl w3).grown hg6 (fun q hq => .inl hq))
  have HL6 := Lib.hid (show ∀ q, (Value.slice A6 (xs.length + 1) c6).ownBlock = some q → (Value.slice FA xs.length fc).ownBlock = some q ∨ w3.heap.size ≤ q from fun q hq => by
    rcases hl6 with h1 | h1
    · exact .inl (h1.symm.trans hq)
    · rw [hq] at h1; injection h1 with h1; exact .inr (by omega))
  have hrp : ∀ q, (Value.slice FA xs.length fc).ownBlock = some q → q ≠ p := fun q hq e => by
    obtain ⟨cs, hc⟩ := row_cells H.out.pow.row q hq
    have hp' : w.heap[p]? = some (.cells _ 29 (0, 0)) := H.out.pow.blk
    subst e; exact absurd (cells_ne hc hp') (by decide)
  have HRP := Lib.hid hrp
  have B6 := Lib.hid (P3.out.blk.but T6.out (fun hq => HRP.out p hq rfl))
  have cf6 : w6.cell? ⟨p, 0, none⟩ = some (.slice FA xs.length fc) := B6.out.cell 0
  have ff6 : w6.frozen? ⟨p, 0, none⟩ = false := B6.out.free 0
  clear ho6 hg6 hl6 hrp cp
  go_wp2_with fail
  go_ret
  have hz3 := L3.out.size
  have hz6 := T6.out.size
  have hp0 := H.out.pow.blk.lt
  have hg1 := HG1.out.size
  have hw1 := HW1.out
  have hz2 := Z2.out
  have hrow : ∀ q, (Value.slice FA xs.length fc).ownBlock = some q → q < w.heap.size := fun q hq => (H.out.pow.row.lt q hq).2
  have hlen : (xs ++ [w1.heap.size]).length = xs.length + 1 := by simp
  obtain ⟨w7, hw7⟩ : ∃ w7, w7 = w6.setCell ⟨p, 0, none⟩ (.slice A6 (xs.length + 1) c6) := ⟨_, rfl⟩
  rw [← hw7]
  have T7 : But (fun q => q = p) w6 w7 := by rw [hw7]; exact but_one _
  have hz7 := T7.size
  have t3 : But (fun q => q = p ∨ (Value.slice FA xs.length fc).ownBlock = some q) w w3 := But.of_below (B := w.heap.size) ((HG1.out.trans (L2.out.mono (by omega))).trans (L3.out.mono (by omega))) (fun k h1 h2 => by omega)
  have t7 := (t3.trans (T6.out.mono (T := fun q => q = p ∨ (Value.slice FA xs.length fc).ownBlock = some q) (fun q hq => .inr hq))).trans (T7.mono (T := fun q => q = p ∨ (Value.slice FA xs.length fc).ownBlock = some q) (fun q hq => .inl hq))
  have hnew : ∀ q, (Value.slice A6 (xs.length + 1) c6).ownBlock = some q → q ≠ p := fun q hq e => by
    rcases HL6.out q hq with h1 | h1
    · exact HRP.out q h1 e
    · omega
  have G7 : Blk w7 w1.heap.size (rcells (some ⟨w.heap.size, 0, none⟩) n n) 46 := ((B2.out.below L3.out).but T6.out (fun hq => by have := hrow _ hq; omega)).but T7 (by omega)
  have O7 : w7.ownsRow 0 38 128 (.slice (some ⟨w.heap.size, 0, none⟩) n n) n (svs (List.replicate n zeroS)) :=
    Own.but (Own.but (own_belowN (own_belowN HO1.out L2.out) L3.out) T6.out (fun q hq hq' => by injection hq with hq; replace hq : w.heap.size = q := hq; have := hrow q hq'; omega)) T7 (fun q hq => by injection hq with hq; replace hq : w.heap.size = q := hq; omega)
  have hdv : RdO w7 w1.heap.size (newDv n) (some ⟨w.heap.size, 0, none⟩) n n none 0 0 :=
    ⟨G7, O7, ⟨rfl, .inl ⟨rfl, rfl⟩⟩, by show (List.replicate n zeroS).length = n; simp, rfl, ⟨fun s hs => by rw [List.eq_of_mem_replicate hs]; exact zeroS_length, fun x hx => absurd hx List.not_mem_nil, by show (0 : Int) ≤ 0; omega, by show (0 : Int) ≤ 0 ∧ (0 : Int) ≤ 128; omega, by show (List.replicate n zeroS).length ≤ 4096; have := HNB.out; simpa using this⟩, fun e => by cases e⟩
  have hPn : RPowR w7 p S.p (xs ++ [w1.heap.size]) A6 c6 :=
    ⟨by rw [hlen, hw7]; exact blk_setN8 B6.out 0 _, by rw [hlen, List.map_append]; exact Own.but HO6.out T7 (fun q hq => hnew q hq), H.out.pow.lo, H.out.pow.hi⟩
  have hfin := rsys_grow H.out HF.out HL.out t7 hPn ⟨_, _, _, _, _, _, hdv, fun q hq => hq⟩ (fun q hq => ?hG) (fun q hq => by rw [hlen] at hq; rcases HL6.out q hq with h1 | h1; exact .inl h1; exact .inr (by omega))
  case hG =>
    have hq2 : q = w1.heap.size ∨ q = w.heap.size := by
      rcases hq with h1 | h1 | h1
      · exact .inl h1
      · injection h1 with h1; exact .inr h1.symm
      · cases h1
    refine ⟨by omega, by omega, fun k hk => ?_⟩
    rw [hlen] at hk
    rcases HL6.out k hk with h1 | h1
    · have := hrow k h1; omega
    · omega
  refine ⟨w1.heap.size, rfl, ?_⟩
  rw [Sy.new, ← HN.out]
  exact hfin
end Go.Proofs.Ytfofkjcdohmkpaa.Kd
/-
  The code's devices and the reference's, side by side.
-/
namespace Go.Proofs.Ytfofkjcdohmkpaa.Kd
open Go.RowKit Go.Maps
/-- The code's devices S in blocks of F, the reference's T in blocks of G, apart, and all new behind w1. -/
structure Both (w1 w : World) (p : Nat) (gs : List Nat) (S : Sy) (F : Nat → Prop) (q : Nat) (xs : List Nat) (T : Sy) (G : Nat → Prop) : Prop where
  live : Live w1 w p gs S F
  rsys : RSys w q xs T G
  apart : ∀ r, F r → G r → False
  new : ∀ r, G r → w1.heap.size ≤ r
section
variable {w1 w w' : World} {p q : Nat} {gs gs' xs xs' : List Nat} {S S' T T' : Sy} {F F' G G' : Nat → Prop}
theorem Both.below (h : Both w1 w p gs S F q xs T G) (hb : Below w.heap.size w w') : Both w1 w' p gs S F q xs T G := ⟨h.live.below hb, h.rsys.below hb, h.apart, h.new⟩
theorem Both.code (h : Both w1 w p gs S F q xs T G) (h2 : Live w1 w' p gs' S' F') (hs : ∀ r, F' r → F r ∨ w.heap.size ≤ r) (hb : But F w w') : Both w1 w' p gs' S' F' q xs T G :=
  ⟨h2, h.rsys.but hb (fun r hg hf => h.apart r hf hg), fun r hf hg => by
    rcases hs r hf with h3 | h3
    · exact h.apart r h3 hg
    · have := h.rsys.lt r hg; omega, h.new⟩
theorem Both.ref (h : Both w1 w p gs S F q xs T G) (h2 : RSys w' q xs' T' G') (hs : ∀ r, G' r → G r ∨ w.heap.size ≤ r) (hb : But G w w') : Both w1 w' p gs S F q xs' T' G' :=
  ⟨h.live.but8 hb (fun r hf hg => h.apart r hf hg) h.new, h2, fun r hf hg => by
    rcases hs r hg with h3 | h3
    · exact h.apart r hf h3
    · have := h.live.lt r hf; omega, fun r hg => by
    rcases hs r hg with h3 | h3
    · exact h.new r h3
    · exact Nat.le_trans h.live.bel.size h3⟩
/-- A row or a box that is none of either's. -/
def BoxB (w : World) (F G : Nat → Prop) (r : Nat) (cs : Array Value) (t : TypeId) : Prop := Blk w r cs t ∧ ¬ F r ∧ ¬ G r
theorem BoxB.below {r : Nat} {cs : Array Value} {t : TypeId} (h : BoxB w F G r cs t) (hb : Below w.heap.size w w') : BoxB w' F G r cs t := ⟨h.1.below hb, h.2⟩
theorem BoxB.code {r : Nat} {cs : Array Value} {t : TypeId} (h : BoxB w F G r cs t) (hs : ∀ r, F' r → F r ∨ w.heap.size ≤ r) (hb : But F w w') : BoxB w' F' G r cs t :=
  ⟨h.1.but hb h.2.1, fun hf => by
    rcases hs r hf with h3 | h3
    · exact h.2.1 h3
    · have := h.1.lt; omega, h.2.2⟩
theorem BoxB.ref {r : Nat} {cs : Array Value} {t : TypeId} (h : BoxB w F G r cs t) (hs : ∀ r, G' r → G r ∨ w.heap.size ≤ r) (hb : But G w w') : BoxB w' F G' r cs t :=
  ⟨h.1.but hb h.2.2, h.2.1, fun hf => by
    rcases hs r hf with h3 | h3
    · exact h.2.2 h3
    · have := h.1.lt; omega⟩
end
/-- A power of the reference without devices. -/
theorem rsys_zero {w : World} {q : Nat} (hb : Blk w q #[.slice none 0 0, .bool false, .int .i64 (-1)] 29) : RSys w q [] S0 (fun r => r = q) :=
  ⟨fun _ _ => False, none, 0, ⟨⟨hb, ⟨rfl, .inl ⟨rfl, rfl⟩⟩, by show -1 ≤ (-1 : Int); omega, by show (-1 : Int) ≤ _; omega⟩, rfl, fun i hi => (by cases hi), fun i j r hi => (by cases hi), fun i r hi => (by cases hi), fun i r hi => (by cases hi)⟩, fun r h => (by
    rcases h with h | h | ⟨i, hi, _⟩
    · exact h
    · cases h
    · cases hi), fun r e => by rw [e]; exact hb.lt⟩
/-! ### How many a deed leaves -/
theorem deed_len (S : Sy) (k : Nat) (x : Dd) : (S.deed k x).2.2.ds.length = S.ds.length := by
  unfold Sy.deed
  repeat' split
  all_goals first
    | rfl
    | (show (S.write k x.n (secC x.c)).2.ds.length = _; unfold Sy.write; dsimp only; split; rfl; rw [count_length, len_put])
    | (show (S.flush k).2.ds.length = _; unfold Sy.flush; dsimp only; split; rfl; split; exact count_length S; split; exact count_length S; rw [len_put, count_length])
    | (show (S.put k _).ds.length = _; exact len_put _)
    | exact rot_len
theorem count_wt (S : Sy) (j : Nat) : (S.count.at j).wt.length ≤ (S.at j).wt.length := by
  unfold Sy.count
  split
  · by_cases hj : j < S.ds.length
    · rw [at_map hj]; unfold Dv.fall; split
      · exact Nat.le_refl _
      · exact Nat.zero_le _
    · have h1 : (Sy.mk S.p.step (S.ds.map Dv.fall)).at j = noDv := by show (S.ds.map Dv.fall).getD j noDv = _; rw [List.getD_eq_getElem?_getD, List.getElem?_eq_none (by simp; omega)]; rfl
      rw [h1]; exact Nat.zero_le _
  · exact Nat.le_refl _
theorem put_wt {S : Sy} {k : Nat} {d : Dv} {m : Nat} (hk : k < S.ds.length) (h : d.wt.length ≤ m) (hS : ∀ j, (S.at j).wt.length ≤ m) (j : Nat) : ((S.put k d).at j).wt.length ≤ m := by
  rw [at_put _ hk]; split
  · exact h
  · exact hS j
theorem deed_wt {S : Sy} {k : Nat} {x : Dd} {m : Nat} (hk : k < S.ds.length) (hS : ∀ j, (S.at j).wt.length ≤ m) (j : Nat) : ((S.deed k x).2.2.at j).wt.length ≤ m + 1 := by
  have hS1 : ∀ j, (S.at j).wt.length ≤ m + 1 := fun j => Nat.le_succ_of_le (hS j)
  unfold Sy.deed
  repeat' split
  all_goals first
    | exact hS1 j
    | (show ((S.write k x.n (secC x.c)).2.at j).wt.length ≤ _; unfold Sy.write; dsimp only; split; exact hS1 j; exact Nat.le_trans (count_wt _ j) (put_wt hk (by show ((S.at k).wt ++ _).length ≤ _; rw [List.length_append]; have := hS k; simp; omega) hS1 j))
    | (show ((S.flush k).2.at j).wt.length ≤ _; unfold Sy.flush; dsimp only; split; exact hS1 j; split; exact Nat.le_trans (count_wt S j) (hS1 j); split; exact Nat.le_trans (count_wt S j) (hS1 j); exact put_wt (by rw [count_length]; exact hk) (Nat.zero_le _) (fun j => Nat.le_trans (count_wt S j) (hS1 j)) j)
    | (refine put_wt hk ?_ hS1 j; first | exact hS1 k | (show (if _ then [] else _).length ≤ _; split; exact Nat.zero_le _; exact hS1 k))
    | (show ((S.rot k x.n x.m x.c).at j).wt.length ≤ _; unfold Sy.rot; split <;> first | exact put_wt (d := (S.at k).rot x.n.toNat x.m.toNat x.c) hk (hS1 k) hS1 j | exact hS1 j)
end Go.Proofs.Ytfofkjcdohmkpaa.Kd
/-
  Both sides, and boxes beside them: what is stored in a box of its own. What a deed reads is a sector.
-/
namespace Go.Proofs.Ytfofkjcdohmkpaa.Kd
open Go.RowKit Go.Maps
section
variable {w1 w w' : World} {p q : Nat} {gs xs : List Nat} {S T : Sy} {F G : Nat → Prop}
theorem Both.own (h : Both w1 w p gs S F q xs T G) {b : Nat} (hb : But (fun r => r = b) w w') (h1 : ¬ F b) (h2 : ¬ G b) (h3 : w1.heap.size ≤ b) : Both w1 w' p gs S F q xs T G :=
  ⟨h.live.but8 hb (fun r hf e => h1 (e ▸ hf)) (fun r e => by rw [e]; exact h3), h.rsys.but hb (fun r hg e => h2 (e ▸ hg)), h.apart, h.new⟩
theorem BoxB.own {r b : Nat} {cs : Array Value} {t : TypeId} (h : BoxB w F G r cs t) (hb : But (fun r => r = b) w w') (hne : r ≠ b) : BoxB w' F G r cs t := ⟨h.1.but hb hne, h.2⟩
theorem BoxB.ne {r b : Nat} {cs cs' : Array Value} {t t' : TypeId} (h : BoxB w F G r cs t) (h' : Blk w b cs' t') (ht : t ≠ t') : r ≠ b := fun e => by
  subst e
  have h1 : w.heap[r]? = some (.cells cs t (0, 0)) := h.1
  have h2 : w.heap[r]? = some (.cells cs' t' (0, 0)) := h'
  rw [h1] at h2; injection h2 with h2; injection h2 with _ h2; exact ht h2
theorem Both.fresh (h : Both w1 w p gs S F q xs T G) {cs : Array Value} {t : TypeId} (hb : Blk w' w.heap.size cs t) : BoxB w' F G w.heap.size cs t :=
  ⟨hb, fun hf => by have := h.live.lt _ hf; omega, fun hg => by have := h.rsys.lt _ hg; omega⟩
theorem deed_sec {k : Nat} {x : Dd} (h : (S.at k).ok) : (S.deed k x).2.1.length = 128 := by
  unfold Sy.deed
  repeat' split
  all_goals first
    | exact zeroS_length
    | exact readS_length h _
theorem ptr_cell {w : World} {r a b i : Nat} {t : TypeId} (h : Blk w r #[.pointer (some ⟨a, 0, none⟩), .pointer (some ⟨b, 0, none⟩)] t) (hi : i < 2) : w.cell? ⟨r, i, none⟩ = some (.pointer (some ⟨[a, b].getD i 0, 0, none⟩)) := by
  obtain rfl | rfl : i = 0 ∨ i = 1 := by omega
  · exact h.cell 0
  · exact h.cell 1
end
end Go.Proofs.Ytfofkjcdohmkpaa.Kd
/-
  How an array of numbers that came in by value is opened: its numbers, as a list.
-/
namespace Go.Proofs.Ytfofkjcdohmkpaa
open Go.RowKit Go.ChangeShapes Go.WideShapes

section
variable {H : Type} {enc : TypeId × Value → H} {P : Program} {w : World} {r : Reach} {b0 base : Nat} {spare : Nat → Bool} {held : Bool}

theorem open_arr {t e n : Nat} {k : IntKind} {v : Value} {d : DataW H} {ps : List MemPlace} (ht : P.underlying t = some (.array n e)) (he : P.underlying e = some (.int k)) (hc : P.cellsOf e = 1) (hn : P.cellsOf t = n)
    (hval : Value.okWide P w r b0 t v) (h : DataW.Trod enc P w base spare held t v d ps) :
    ∃ zs : List Int, zs.length = n ∧ v = .agg (zs.map (Value.int k)).toArray ∧ ∀ z ∈ zs, (Lit.int k z).wf = true := by
  obtain ⟨cs, rfl, hsz⟩ : ∃ cs, v = .agg cs ∧ cs.size = n := by
    have h1 := hval
    simp only [Value.okWide, ht] at h1
    obtain ⟨cs, e1, e2, _⟩ := h1
    exact ⟨cs, e1, by rw [e2, hn]⟩
  obtain ⟨fuel, hf⟩ := h
  obtain ⟨xs, m, _, _, hl, hx, hel⟩ := DataW.trod_array ht hf
  have each : ∀ i (hi : i < cs.size), ∃ z, cs[i] = .int k z ∧ (Lit.int k z).wf = true := by
    intro i hi
    have h1 := hel i (by omega)
    have hxi : i < xs.length := by omega
    rw [List.getElem?_eq_getElem hxi, hc, Nat.mul_one] at h1
    obtain ⟨z, e1, _, hw⟩ := DataW.trod_int he h1
    have e2 : ((Value.agg cs).cells.toList.drop i).take 1 = [cs[i]] := by
      show (cs.toList.drop i).take 1 = [cs[i]]
      rw [List.drop_eq_getElem_cons (by simpa using hi)]
      simp
    rw [e2] at e1
    injection e1 with e1
    exact ⟨z, e1, hw⟩
  refine ⟨cs.toList.map (fun v => match v with | .int _ z => z | _ => 0), by simpa using hsz, ?_, ?_⟩
  · congr 1
    apply Array.ext
    · simp
    · intro i h1 h2
      obtain ⟨z, hz, _⟩ := each i h1
      simp [hz]
  · intro z hz
    simp only [List.mem_map] at hz
    obtain ⟨v, hv, rfl⟩ := hz
    obtain ⟨i, hi, rfl⟩ := List.getElem_of_mem hv
    obtain ⟨z, hz, hw⟩ := each i (by simpa using hi)
    have : cs.toList[i] = .int k z := by simpa using hz
    rw [this]
    exact hw

theorem open_u32s {t e n : Nat} {v : Value} {d : DataW H} {ps : List MemPlace} (ht : P.underlying t = some (.array n e)) (he : P.underlying e = some (.int .u32)) (hc : P.cellsOf e = 1) (hn : P.cellsOf t = n)
    (hval : Value.okWide P w r b0 t v) (h : DataW.Trod enc P w base spare held t v d ps) : ∃ s : List UInt32, s.length = n ∧ v = .agg (uv s) := by
  obtain ⟨zs, hl, rfl, hw⟩ := open_arr ht he hc hn hval h
  refine ⟨zs.map fun z => UInt32.ofNat z.toNat, by simpa using hl, ?_⟩
  unfold uv
  rw [List.map_map]
  congr 2
  apply List.map_congr_left
  intro z hz
  have hb := bounds_u32 (hw z hz)
  simp only [Function.comp]
  exact int_eq (by rw [UInt32.toNat_ofNat']; omega)
theorem open_u8s {t e n : Nat} {v : Value} {d : DataW H} {ps : List MemPlace} (ht : P.underlying t = some (.array n e)) (he : P.underlying e = some (.int .u8)) (hc : P.cellsOf e = 1) (hn : P.cellsOf t = n)
    (hval : Value.okWide P w r b0 t v) (h : DataW.Trod enc P w base spare held t v d ps) : ∃ l : List UInt8, l.length = n ∧ v = .agg (bva l) := by
  obtain ⟨zs, hl, rfl, hw⟩ := open_arr ht he hc hn hval h
  refine ⟨zs.map fun z => UInt8.ofNat z.toNat, by simpa using hl, ?_⟩
  unfold bva bv
  rw [List.map_map]
  congr 2
  apply List.map_congr_left
  intro z hz
  have hb := bounds_u8 (hw z hz)
  simp only [Function.comp]
  exact int_eq (by rw [UInt8.toNat_ofNat']; omega)
end
end Go.Proofs.Ytfofkjcdohmkpaa
