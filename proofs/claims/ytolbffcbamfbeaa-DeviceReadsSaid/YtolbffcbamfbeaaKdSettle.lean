/-
  The contract of the device's settle.
-/
import Derived.Test.YtolbffcbamfbeaaKdMid
import Derived.Test.YtolbffcbamfbeaaKdLittle
import Derived.Test.YtolbffcbamfbeaaKdStill
namespace Go.Proofs.Ytolbffcbamfbeaa.Kd
open Go.RowKit Go.Maps
attribute [local go_sem ↓] Go.wp_at_zero Go.wp_at_succ
theorem info_dwait : (Try.prog.info? 82).map (·.size) = some 129 := by kernel_rfl
def wva (x : Nat × List UInt8) : Array Value := (wv x).toArray
theorem wva_size {x : Nat × List UInt8} (h : x.2.length = 128) : (wva x).size = 129 := by rw [wva, List.size_toArray, wv_length h]
theorem wva_one (x : Nat × List UInt8) : (wva x).all (·.oneCell') = true := by
  refine Array.all_eq_true_iff_forall_mem.2 (fun v hv => ?_)
  rw [wva, List.mem_toArray, wv, List.mem_cons] at hv
  rcases hv with rfl | hv
  · rfl
  · exact bv_one _ v hv
/-- A wait's own sector, where the wait lies in a block. -/
theorem wva_sec {w : World} {g : Nat} {x : Nat × List UInt8} (h : Blk w g (wva x) 82) : w.cell? ⟨g, 0, none⟩ = some (.int .i64 (x.1 : Int)) ∧ ∀ j v, (bv x.2)[j]? = some v → w.cell? ((⟨g, 1, none⟩ : Addr).add j) = some v := by
  refine ⟨by rw [h.cell]; rfl, fun j v hv => ?_⟩
  rw [Addr.add_mid, h.cell, wva, List.getElem?_toArray, wv, Nat.add_comm, List.getElem?_cons_succ]
  exact hv
/-- A wait of a row. -/
theorem rd_wait' {B : Nat} {w : World} {A : Option Addr} {l : List (Nat × List UInt8)} (h : Rd B w A (wvs l)) (hl : ∀ x ∈ l, x.2.length = 128) {k : Nat} (hk : k < l.length) :
    ∃ ad, A = some ad ∧ ad.block < B ∧ ∀ j v, (wv l[k])[j]? = some v → w.cell? ((ad.add (k * 129)).add j) = some v := by
  have h0 : (wv l[k])[0]? = some (.int .i64 (l[k].1 : Int)) := rfl
  obtain ⟨ad, hA, hb, _⟩ := h (129 * k + 0) _ (wvs_get hl hk h0)
  refine ⟨ad, hA, hb, fun j v hv => ?_⟩
  obtain ⟨ad', hA', _, hc⟩ := h (129 * k + j) v (wvs_get hl hk hv)
  rw [hA] at hA'
  injection hA' with hA'
  rw [hA', add_twice8, Nat.mul_comm k 129]
  exact hc
set_option maxRecDepth 100000 in
set_option maxHeartbeats 6400000 in
theorem settle_any {w : World} {p g : Nat} {d : Dv} {A : Option Addr} {n c : Nat} {W : Option Addr} {m e M : Nat} {D : DataW Unit} (h : DevR w p g d A n c W m e M D) (x b : Int) (hx : 0 ≤ x) (hb0 : 0 ≤ b) (hb1 : b ≤ 128) :
    Calls Try.prog 35 #[.pointer (some ⟨g, 0, none⟩), .int .i64 x, .int .i64 b] w (fun e' w' => e' = .returned (.tuple #[]) ∧ ∃ M', DevR w' p g (d.settle x.toNat b) A n c none 0 0 M' (.map []) ∧ w.heap.size ≤ M' ∧ But (fun q => q = g ∨ (Value.slice A n c).ownBlock = some q) w w') := by
  obtain ⟨zw, hzw0⟩ : ∃ zw, zw = wva (0, zeroS) := ⟨_, rfl⟩
  have hzw : ∀ W, (zeroValue 82).run Try.prog W = .ok (.agg zw) W := fun _ => by rw [hzw0]; kernel_rfl
  have ZW : Hid (zw.size = 129) := by show _ = _; rw [hzw0, wva_size zeroS_length]
  have H := Lib.hid h
  have hme : m ≤ e := by
    rcases h.wt.2 with ⟨h0, h1⟩ | ⟨_, _, _, hv, _, _, h1, _⟩
    · omega
    · injection hv with _ _ hv; omega
  have c1 : w.cell? ⟨g, 2, none⟩ = some (.slice W m e) := h.blk.cell 2
  have OS := Lib.hid h.st
  clear h hzw0
  by_cases hxm : (m : Int) < x
  · have dxm : decide ((m : Int) < x) = true := decide_eq_true hxm
    have HX := Lib.hid (show settleL x.toNat b d.wt d.st = flushL d.st (d.wt.take m) by rw [settle_all (by rw [H.out.wtn]; omega), List.take_of_length_le (by rw [H.out.wtn]; omega)])
    have dxm2 : decide (x < (m : Int)) = false := decide_eq_false (by omega)
    have dxm3 : decide (x ≤ (m : Int)) = false := decide_eq_false (by omega)
    have dxm4 : decide ((m : Int) ≤ x) = true := decide_eq_true (by omega)
    go_enter Try.func35, Try.ntmps35
    go_wp2_with fail
    go_loopw [23] (fun i wr => ∃ k, k ≤ m ∧ i = .int .i64 (k : Nat) ∧ wr.ownsRow 0 38 128 (.slice A n c) n (svs (flushL d.st (d.wt.take k))) ∧ But (fun q => (Value.slice A n c).ownBlock = some q) w wr) (fun i _ => m - (intOf i).toNat)
    case atStart => exact ⟨0, by omega, rfl, by rw [List.take_zero]; exact OS.out, But.refl _⟩
    case round =>
      clear OS c1
      obtain ⟨k, hk, rfl, ho, hbt⟩ := hrel
      have HB := Lib.hid hbt
      have OS := Lib.hid ho
      have hWB := Own.but H.out.wt hbt (fun q hq hq' => H.out.apart.2.2.2 q hq' hq)
      have HGB := Lib.hid (H.out.blk.but hbt (fun hq => (H.out.apart.2.1 g hq).1 rfl))
      have HWB := Lib.hid hWB
      clear ho hbt hWB
      by_cases hlt : k < m
      · have hkl : k < d.wt.length := by rw [H.out.wtn]; omega
        obtain ⟨bd, hW, _, hcw⟩ := rd_wait' (Rd.ownN HWB.out) (fun v hv => (H.out.ok.wt v hv).2) hkl
        subst hW
        obtain ⟨y, hy⟩ : ∃ y, y = d.wt[k] := ⟨_, rfl⟩
        rw [← hy] at hcw
        have hyo := H.out.ok.wt _ (List.getElem_mem hkl)
        rw [← hy] at hyo
        have HY3 := Lib.hid hyo.2
        have hyn : y.1 < n := by rw [← H.out.stn]; exact hyo.1
        have HST := Lib.hid (show flushL d.st (d.wt.take (k + 1)) = (flushL d.st (d.wt.take k)).set y.1 y.2 by rw [flush_take_succ hkl, hy])
        obtain ⟨G, hA⟩ : ∃ G, A = some ⟨G, 0, none⟩ := by
          rcases own_addr8 OS.out with ⟨_, h2, _⟩ | h1
          · omega
          · exact h1
        subst hA
        have HCW := Lib.hid hcw
        have HIW : Hid ((Try.prog.info? 82).map (·.size) = some (wv y).length) := by show _ = _; rw [wv_length HY3.out]; exact info_dwait
        have HIWA : Hid ((Try.prog.info? 82).map (·.size) = some (wva y).size) := by show _ = _; rw [wva_size HY3.out]; exact info_dwait
        have HIS : Hid ((Try.prog.info? 38).map (·.size) = some (bv y.2).length) := by show _ = _; rw [bv_length, HY3.out]; exact info_sec
        have HISA : Hid ((Try.prog.info? 38).map (·.size) = some (bva y.2).size) := by show _ = _; rw [bva_size, HY3.out]; exact info_sec
        have k0 : (0 : Int) ≤ (k : Int) := by omega
        have k1 : (k : Int) < (m : Int) := by omega
        have y0 : (0 : Int) ≤ (y.1 : Int) := by omega
        have y1 : (y.1 : Int) < (n : Int) := by omega
        have ek : IntKind.i64.wrap ((k : Int) + 1) = ((k + 1 : Nat) : Int) := by have := own_max8 H.out.wt; rw [IntWalk.i64_in _ (by omega)]; omega
        obtain ⟨u, hu⟩ : ∃ u, u = y.1 := ⟨_, rfl⟩
        rw [← hu] at y0 y1 hyn
        have HU := Lib.hid hu
        have hFL : (flushL d.st (d.wt.take k)).length = n := by rw [flush_length, H.out.stn]
        have HFL := Lib.hid hFL
        have HFO := Lib.hid (show ∀ s ∈ flushL d.st (d.wt.take k), s.length = 128 from flush_ok _ _ H.out.ok.st (fun v hv => (H.out.ok.wt v (List.mem_of_mem_take hv)).2))
        have HYN := Lib.hid hyn
        clear hcw hkl hy hyo hu hFL hyn
        go_wp2_with (first
          | (refine wpList_load_at rfl 82 (.tmp 25) rfl (bd.add (k * 129)) rfl HCW.out Try.underlying82 rfl HIW.out ?_
             change wpList _ _ _ _ (Act.put _ _ (.agg (wva y))) _)
          | (refine wpList_store_row rfl 82 (.tmp 7) (.tmp 26) rfl wr.heap.size (wva y) rfl rfl 82 zw (heap_alloc_new _ _) HIWA.out (by rw [wva_size HY3.out, ZW.out]) (wva_one _) ?_
             generalize hwx : World.setRow _ _ _ = wx
             have x1 : Blk wx wr.heap.size (wva y) 82 := by rw [← hwx]; exact setRow_heap _ _ _ _ _ _ (heap_alloc_new _ _)
             have x2 : Below wr.heap.size wr wx := by rw [← hwx]; exact below_setRow ((Below.refl _ _).alloc (Nat.le_refl _) _) (Nat.le_refl _) _
             have cg := (HGB.out.below x2).cell 1
             obtain ⟨cn, cs⟩ := wva_sec x1
             rw [← HU.out] at cn
             have CS := Lib.hid cs
             have XB := Lib.hid x2
             have OX := Lib.hid (own_belowN OS.out x2)
             clear hwx x1 x2 cs OS HGB))
        refine wp_region_still_tail 9 (by kernel_rfl) (by kernel_rfl) ?_
        simp only [List.take_succ_cons, List.take_zero, List.drop_succ_cons, List.drop_zero]
        iterate 7 still_step
        refine wpStill_load_at (by rfl) 38 (.tmp 33) rfl ⟨wr.heap.size, 1, none⟩ rfl CS.out Try.underlying38 rfl HIS.out ?_
        change wpStill _ _ _ _ _ (Act.put _ _ (.agg (bva y.2)))
        still_step
        refine wpStill_nil ?_
        change wpList _ _ _ _ _ wx.drew
        have HOM := Lib.hid (own_setMid (o := u * 128) (vs := bv y.2) (w := wx.drew) OX.out (by have := HYN.out; have := HY3.out; rw [bv_length]; omega))
        refine wpList_store_mid rfl 38 (.tmp 35) (.tmp 34) rfl G (u * 128) (bva y.2) rfl rfl (by have h := HOM.out.2; rwa [show (bv y.2).length = (bva y.2).size by rw [bv_length, bva_size]] at h) HISA.out (bva_one _) ?_
        generalize hwv : World.setCells _ _ _ _ = wv
        have HBV := Lib.hid (show But (fun q => (Value.slice (some ⟨G, 0, none⟩) n c).ownBlock = some q) w wv by
          rw [← hwv]
          exact (HB.out.trans (But.of_below XB.out (fun q h1 h2 => absurd h1 (by omega)))).drew.grown (grown_setCells _ _ _ _) (fun q hq => .inl hq))
        have HOV := Lib.hid (show wv.ownsRow 0 38 128 (.slice (some ⟨G, 0, none⟩) n c) n (svs (flushL d.st (d.wt.take (k + 1)))) by
          rw [← hwv, HST.out, svs_splice HFO.out HY3.out (by rw [HFL.out, ← HU.out]; exact HYN.out), ← HU.out]
          exact HOM.out.1)
        clear hwv cg cn CS XB OX HOM HB
        go_wp2_with fail
        go_roundw
        case rel => exact ⟨k + 1, by omega, by go_num, HOV.out, HBV.out⟩
        case measure => simp [intOf]; omega
      · obtain rfl : k = m := by omega
        have OF := OS
        clear OS
        have cg := HGB.out.cell 2
        go_wp2_with fail
        refine (empty_any _ _ _ _ _ _ _ _ HGB.out).mono ?_
        rintro e2 w2 ⟨rfl, hb2, hm2, ht2⟩
        have E1 := Lib.hid hb2
        have E2 := Lib.hid hm2
        have E3 := Lib.hid (Own.but OF.out ht2 (fun q hq hq' => (H.out.apart.2.1 q hq).1 hq'))
        have E4 := Lib.hid ((HB.out.mono (fun q hq => (Or.inr hq : q = g ∨ (Value.slice A n c).ownBlock = some q))).trans (ht2.mono (fun q hq => Or.inl hq)))
        have E5 := Lib.hid HB.out.size
        clear hb2 hm2 ht2 OF HB HGB HWB
        go_wp2_with fail
        refine bodyPost_end (results_none Try.results35 _ _ _) rfl ⟨rfl, _, ⟨E1.out, ?_, ⟨rfl, .inl ⟨rfl, rfl⟩⟩, E2.out, last_empty, by rw [settle_len]; exact H.out.stn, rfl, settle_ok H.out.ok _ ⟨hb0, hb1⟩, fun _ => rfl⟩, E5.out, E4.out⟩
        show World.ownsRow _ 0 38 128 _ n (svs (settleL x.toNat b d.wt d.st))
        rw [HX.out]; exact E3.out
  · obtain ⟨K, rfl⟩ := Int.eq_ofNat_of_zero_le hx
    have hKm : K ≤ m := by omega
    have hKe : (K : Int) ≤ (e : Int) := by omega
    have dxm : decide ((m : Int) < (K : Int)) = false := decide_eq_false hxm
    have dxm' : decide (m < K) = false := decide_eq_false (by omega)
    have hK0 : (0 : Int) ≤ (K : Int) := by omega
    clear hxm hx
    go_enter Try.func35, Try.ntmps35
    go_wp2_with fail
    go_loopw [23] (fun i wr => ∃ k, k ≤ K ∧ i = .int .i64 (k : Nat) ∧ wr.ownsRow 0 38 128 (.slice A n c) n (svs (flushL d.st (d.wt.take k))) ∧ But (fun q => (Value.slice A n c).ownBlock = some q) w wr) (fun i _ => K - (intOf i).toNat)
    case atStart => exact ⟨0, by omega, rfl, by rw [List.take_zero]; exact OS.out, But.refl _⟩
    case round =>
      clear OS c1
      obtain ⟨k, hk, rfl, ho, hbt⟩ := hrel
      have HB := Lib.hid hbt
      have OS := Lib.hid ho
      have hWB := Own.but H.out.wt hbt (fun q hq hq' => H.out.apart.2.2.2 q hq' hq)
      have HGB := Lib.hid (H.out.blk.but hbt (fun hq => (H.out.apart.2.1 g hq).1 rfl))
      have HWB := Lib.hid hWB
      clear ho hbt hWB
      by_cases hlt : k < K
      · have hkl : k < d.wt.length := by rw [H.out.wtn]; omega
        obtain ⟨bd, hW, _, hcw⟩ := rd_wait' (Rd.ownN HWB.out) (fun v hv => (H.out.ok.wt v hv).2) hkl
        subst hW
        obtain ⟨y, hy⟩ : ∃ y, y = d.wt[k] := ⟨_, rfl⟩
        rw [← hy] at hcw
        have hyo := H.out.ok.wt _ (List.getElem_mem hkl)
        rw [← hy] at hyo
        have HY3 := Lib.hid hyo.2
        have hyn : y.1 < n := by rw [← H.out.stn]; exact hyo.1
        have HST := Lib.hid (show flushL d.st (d.wt.take (k + 1)) = (flushL d.st (d.wt.take k)).set y.1 y.2 by rw [flush_take_succ hkl, hy])
        obtain ⟨G, hA⟩ : ∃ G, A = some ⟨G, 0, none⟩ := by
          rcases own_addr8 OS.out with ⟨_, h2, _⟩ | h1
          · omega
          · exact h1
        subst hA
        have HCW := Lib.hid hcw
        have HIW : Hid ((Try.prog.info? 82).map (·.size) = some (wv y).length) := by show _ = _; rw [wv_length HY3.out]; exact info_dwait
        have HIWA : Hid ((Try.prog.info? 82).map (·.size) = some (wva y).size) := by show _ = _; rw [wva_size HY3.out]; exact info_dwait
        have HIS : Hid ((Try.prog.info? 38).map (·.size) = some (bv y.2).length) := by show _ = _; rw [bv_length, HY3.out]; exact info_sec
        have HISA : Hid ((Try.prog.info? 38).map (·.size) = some (bva y.2).size) := by show _ = _; rw [bva_size, HY3.out]; exact info_sec
        have k0 : (0 : Int) ≤ (k : Int) := by omega
        have k1 : (k : Int) < (K : Int) := by omega
        have y0 : (0 : Int) ≤ (y.1 : Int) := by omega
        have y1 : (y.1 : Int) < (n : Int) := by omega
        have ek : IntKind.i64.wrap ((k : Int) + 1) = ((k + 1 : Nat) : Int) := by have := own_max8 H.out.wt; rw [IntWalk.i64_in _ (by omega)]; omega
        obtain ⟨u, hu⟩ : ∃ u, u = y.1 := ⟨_, rfl⟩
        rw [← hu] at y0 y1 hyn
        have HU := Lib.hid hu
        have hFL : (flushL d.st (d.wt.take k)).length = n := by rw [flush_length, H.out.stn]
        have HFL := Lib.hid hFL
        have HFO := Lib.hid (show ∀ s ∈ flushL d.st (d.wt.take k), s.length = 128 from flush_ok _ _ H.out.ok.st (fun v hv => (H.out.ok.wt v (List.mem_of_mem_take hv)).2))
        have HYN := Lib.hid hyn
        clear hcw hkl hy hyo hu hFL hyn
        go_wp2_with (first
          | (refine wpList_load_at rfl 82 (.tmp 25) rfl (bd.add (k * 129)) rfl HCW.out Try.underlying82 rfl HIW.out ?_
             change wpList _ _ _ _ (Act.put _ _ (.agg (wva y))) _)
          | (refine wpList_store_row rfl 82 (.tmp 7) (.tmp 26) rfl wr.heap.size (wva y) rfl rfl 82 zw (heap_alloc_new _ _) HIWA.out (by rw [wva_size HY3.out, ZW.out]) (wva_one _) ?_
             generalize hwx : World.setRow _ _ _ = wx
             have x1 : Blk wx wr.heap.size (wva y) 82 := by rw [← hwx]; exact setRow_heap _ _ _ _ _ _ (heap_alloc_new _ _)
             have x2 : Below wr.heap.size wr wx := by rw [← hwx]; exact below_setRow ((Below.refl _ _).alloc (Nat.le_refl _) _) (Nat.le_refl _) _
             have cg := (HGB.out.below x2).cell 1
             obtain ⟨cn, cs⟩ := wva_sec x1
             rw [← HU.out] at cn
             have CS := Lib.hid cs
             have XB := Lib.hid x2
             have OX := Lib.hid (own_belowN OS.out x2)
             clear hwx x1 x2 cs OS HGB))
        refine wp_region_still_tail 9 (by kernel_rfl) (by kernel_rfl) ?_
        simp only [List.take_succ_cons, List.take_zero, List.drop_succ_cons, List.drop_zero]
        iterate 7 still_step
        refine wpStill_load_at (by rfl) 38 (.tmp 33) rfl ⟨wr.heap.size, 1, none⟩ rfl CS.out Try.underlying38 rfl HIS.out ?_
        change wpStill _ _ _ _ _ (Act.put _ _ (.agg (bva y.2)))
        still_step
        refine wpStill_nil ?_
        change wpList _ _ _ _ _ wx.drew
        have HOM := Lib.hid (own_setMid (o := u * 128) (vs := bv y.2) (w := wx.drew) OX.out (by have := HYN.out; have := HY3.out; rw [bv_length]; omega))
        refine wpList_store_mid rfl 38 (.tmp 35) (.tmp 34) rfl G (u * 128) (bva y.2) rfl rfl (by have h := HOM.out.2; rwa [show (bv y.2).length = (bva y.2).size by rw [bv_length, bva_size]] at h) HISA.out (bva_one _) ?_
        generalize hwv : World.setCells _ _ _ _ = wv
        have HBV := Lib.hid (show But (fun q => (Value.slice (some ⟨G, 0, none⟩) n c).ownBlock = some q) w wv by
          rw [← hwv]
          exact (HB.out.trans (But.of_below XB.out (fun q h1 h2 => absurd h1 (by omega)))).drew.grown (grown_setCells _ _ _ _) (fun q hq => .inl hq))
        have HOV := Lib.hid (show wv.ownsRow 0 38 128 (.slice (some ⟨G, 0, none⟩) n c) n (svs (flushL d.st (d.wt.take (k + 1)))) by
          rw [← hwv, HST.out, svs_splice HFO.out HY3.out (by rw [HFL.out, ← HU.out]; exact HYN.out), ← HU.out]
          exact HOM.out.1)
        clear hwv cg cn CS XB OX HOM HB
        go_wp2_with fail
        go_roundw
        case rel => exact ⟨k + 1, by omega, by go_num, HOV.out, HBV.out⟩
        case measure => simp [intOf]; omega
      · obtain rfl : k = K := by omega
        have OF := OS
        clear OS
        have cg := HGB.out.cell 2
        by_cases hKlt : k < m
        · have hkl : k < d.wt.length := by rw [H.out.wtn]; omega
          obtain ⟨bd, hW, _, hcw⟩ := rd_wait' (Rd.ownN HWB.out) (fun v hv => (H.out.ok.wt v hv).2) hkl
          subst hW
          obtain ⟨y, hy⟩ : ∃ y, y = d.wt[k] := ⟨_, rfl⟩
          rw [← hy] at hcw
          have hyo := H.out.ok.wt _ (List.getElem_mem hkl)
          rw [← hy] at hyo
          have HY3 := Lib.hid hyo.2
          have hyn : y.1 < n := by rw [← H.out.stn]; exact hyo.1
          have HX := Lib.hid (show settleL (k : Int).toNat b d.wt d.st = (flushL d.st (d.wt.take k)).set y.1 (tornL b y.2 ((flushL d.st (d.wt.take k)).getD y.1 zeroS)) by rw [Int.toNat_natCast, settle_torn hkl, hy])
          obtain ⟨G, hA⟩ : ∃ G, A = some ⟨G, 0, none⟩ := by
            rcases own_addr8 OF.out with ⟨_, h2, _⟩ | h1
            · omega
            · exact h1
          subst hA
          obtain ⟨b', hb'⟩ := Int.eq_ofNat_of_zero_le hb0
          subst hb'
          have HCW := Lib.hid hcw
          have HIW : Hid ((Try.prog.info? 82).map (·.size) = some (wv y).length) := by show _ = _; rw [wv_length HY3.out]; exact info_dwait
          have HIWA : Hid ((Try.prog.info? 82).map (·.size) = some (wva y).size) := by show _ = _; rw [wva_size HY3.out]; exact info_dwait
          have k0 : (0 : Int) ≤ (k : Int) := by omega
          have k1 : (k : Int) < (m : Int) := by omega
          have dk : decide ((k : Int) < (m : Int)) = true := decide_eq_true k1
          have dk' : decide (k < m) = true := decide_eq_true hKlt
          have y0 : (0 : Int) ≤ (y.1 : Int) := by omega
          have y1 : (y.1 : Int) < (n : Int) := by omega
          have b0 : (0 : Int) ≤ (b' : Int) := by omega
          obtain ⟨u, hu⟩ : ∃ u, u = y.1 := ⟨_, rfl⟩
          rw [← hu] at y0 y1 hyn
          have HU := Lib.hid hu
          have hFL : (flushL d.st (d.wt.take k)).length = n := by rw [flush_length, H.out.stn]
          have HFL := Lib.hid hFL
          have HFO := Lib.hid (show ∀ s ∈ flushL d.st (d.wt.take k), s.length = 128 from flush_ok _ _ H.out.ok.st (fun v hv => (H.out.ok.wt v (List.mem_of_mem_take hv)).2))
          have HYN := Lib.hid hyn
          have HB1 := Lib.hid hb1
          clear hcw hkl hy hyo hu hFL hyn hb1
          go_wp2_with (first
            | (refine wpList_load_at rfl 82 (.tmp 49) rfl (bd.add (k * 129)) rfl HCW.out Try.underlying82 rfl HIW.out ?_
               change wpList _ _ _ _ (Act.put _ _ (.agg (wva y))) _)
            | (refine wpList_store_row rfl 82 (.tmp 8) (.tmp 50) rfl wr.heap.size (wva y) rfl rfl 82 zw (heap_alloc_new _ _) HIWA.out (by rw [wva_size HY3.out, ZW.out]) (wva_one _) ?_
               generalize hwx : World.setRow _ _ _ = wx
               have x1 : Blk wx wr.heap.size (wva y) 82 := by rw [← hwx]; exact setRow_heap _ _ _ _ _ _ (heap_alloc_new _ _)
               have x2 : Below wr.heap.size wr wx := by rw [← hwx]; exact below_setRow ((Below.refl _ _).alloc (Nat.le_refl _) _) (Nat.le_refl _) _
               have cg1 := (HGB.out.below x2).cell 1
               obtain ⟨cn, cs⟩ := wva_sec x1
               rw [← HU.out] at cn
               have CS := Lib.hid cs
               have XB := Lib.hid x2
               have HGX := Lib.hid (HGB.out.below x2)
               have OX := Lib.hid (own_belowN OF.out x2)
               clear hwx x1 x2 cs OF HGB))
          have hb1 := HB1.out
          have hb2 : (b' : Int) ≤ 128 := hb1
          refine wp_region_still_tail 11 (by kernel_rfl) (by kernel_rfl) ?_
          simp only [List.take_succ_cons, List.take_zero, List.drop_succ_cons, List.drop_zero]
          iterate 11 still_step
          refine wpStill_nil ?_
          change wpList _ _ _ _ _ wx.drew
          obtain ⟨Z, hZ, _, _, hZl, hZx, _⟩ := own_cur (w := wx.drew) OX.out
          have hfit : u * 128 + (bv (y.2.take b')).length ≤ n * 128 := by have := HYN.out; have := HY3.out; rw [bv_length, List.length_take]; omega
          have HOM := Lib.hid (own_setRow (w := wx.drew) OX.out hfit hZ)
          have HCP := Lib.hid (run_copyN (P := Try.prog) wx.drew 85 85 3 5 1 Try.underlying85 (by kernel_rfl) G (u * 128) b' 128 ⟨wr.heap.size, 1, none⟩ 128 128 _ 38 (bv (y.2.take b')) hZ
            (by rw [bv_length, List.length_take, HY3.out, Nat.mul_one, Nat.min_comm])
            (fun j v hv => by
              rw [show bv (y.2.take b') = (bv y.2).take b' from by unfold bv; rw [List.map_take]] at hv
              exact CS.out j v (by
                rw [List.getElem?_take] at hv
                split at hv
                · exact hv
                · cases hv))
            (by rw [List.size_toArray, List.length_append]; omega) (bv_one _))
          refine wpList_copyR wx.drew rfl (.tmp 59) (.tmp 61) 85 85 rfl _ _ rfl rfl HCP.out ?_
          generalize hwv : World.setRow _ _ _ = wv
          have HB2 := Lib.hid (show But (fun q => (Value.slice (some ⟨G, 0, none⟩) n c).ownBlock = some q) w wv by
            rw [← hwv]
            exact (HB.out.trans (But.of_below XB.out (fun q h1 h2 => absurd h1 (by omega)))).drew.grown (grown_setRow _ _ _) (fun q hq => .inl hq))
          have OF := Lib.hid (show wv.ownsRow 0 38 128 (.slice (some ⟨G, 0, none⟩) n c) n (svs (settleL (k : Int).toNat (b' : Int) d.wt d.st)) by
            rw [← hwv, HX.out]
            have e1 := svs_torn (b := b') HFO.out HY3.out (k := y.1) (by rw [HFL.out, ← HU.out]; exact HYN.out) (by omega)
            rw [show (tornL (b' : Int) y.2 ((flushL d.st (d.wt.take k)).getD y.1 zeroS)) = tornL ((b' : Nat) : Int) y.2 ((flushL d.st (d.wt.take k)).getD y.1 zeroS) from rfl, e1, ← HU.out]
            exact HOM.out)
          have HGB := Lib.hid (H.out.blk.but HB2.out (fun hq => (H.out.apart.2.1 g hq).1 rfl))
          clear hwv cg cg1 cn CS XB OX HOM HB HCP hZ hfit HGX
          have HB := HB2
          clear HB2
          go_wp2_with fail
          refine (empty_any _ _ _ _ _ _ _ _ HGB.out).mono ?_
          rintro e2 w2 ⟨rfl, hb2, hm2, ht2⟩
          have E1 := Lib.hid hb2
          have E2 := Lib.hid hm2
          have E3 := Lib.hid (Own.but OF.out ht2 (fun q hq hq' => (H.out.apart.2.1 q hq).1 hq'))
          have E4 := Lib.hid ((HB.out.mono (fun q hq => (Or.inr hq : q = g ∨ (Value.slice (some ⟨G, 0, none⟩) n c).ownBlock = some q))).trans (ht2.mono (fun q hq => Or.inl hq)))
          have E5 := Lib.hid HB.out.size
          clear hb2 hm2 ht2 OF HB HGB HWB
          go_wp2_with fail
          refine bodyPost_end (results_none Try.results35 _ _ _) rfl ⟨rfl, _, ⟨E1.out, ?_, ⟨rfl, .inl ⟨rfl, rfl⟩⟩, E2.out, last_empty, by rw [settle_len]; exact H.out.stn, rfl, settle_ok H.out.ok _ ⟨hb0, hb1⟩, fun _ => rfl⟩, E5.out, E4.out⟩
          show World.ownsRow _ 0 38 128 _ n (svs (settleL (k : Int).toNat (b' : Int) d.wt d.st))
          exact E3.out
        · obtain rfl : k = m := by omega
          have HX := Lib.hid (show settleL (k : Int).toNat b d.wt d.st = flushL d.st (d.wt.take k) by rw [Int.toNat_natCast, settle_all (by rw [H.out.wtn]; exact Nat.le_refl _), List.take_of_length_le (by rw [H.out.wtn]; exact Nat.le_refl _)])
          have dk : decide ((k : Int) < (k : Int)) = false := decide_eq_false (by omega)
          have dk' : decide (k < k) = false := decide_eq_false (by omega)
          go_wp2_with fail
          refine (empty_any _ _ _ _ _ _ _ _ HGB.out).mono ?_
          rintro e2 w2 ⟨rfl, hb2, hm2, ht2⟩
          have E1 := Lib.hid hb2
          have E2 := Lib.hid hm2
          have E3 := Lib.hid (Own.but OF.out ht2 (fun q hq hq' => (H.out.apart.2.1 q hq).1 hq'))
          have E4 := Lib.hid ((HB.out.mono (fun q hq => (Or.inr hq : q = g ∨ (Value.slice A n c).ownBlock = some q))).trans (ht2.mono (fun q hq => Or.inl hq)))
          have E5 := Lib.hid HB.out.size
          clear hb2 hm2 ht2 OF HB HGB HWB
          go_wp2_with fail
          refine bodyPost_end (results_none Try.results35 _ _ _) rfl ⟨rfl, _, ⟨E1.out, ?_, ⟨rfl, .inl ⟨rfl, rfl⟩⟩, E2.out, last_empty, by rw [settle_len]; exact H.out.stn, rfl, settle_ok H.out.ok _ ⟨hb0, hb1⟩, fun _ => rfl⟩, E5.out, E4.out⟩
          show World.ownsRow _ 0 38 128 _ n (svs (settleL (k : Int).toNat b d.wt d.st))
          rw [HX.out]; exact E3.out
end Go.Proofs.Ytolbffcbamfbeaa.Kd
