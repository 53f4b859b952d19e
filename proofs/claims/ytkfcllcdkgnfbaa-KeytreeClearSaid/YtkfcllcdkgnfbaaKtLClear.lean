/-
  Nothing that is held leads to a punctured leaf: no held node has one; held nodes rise, have no leaf in common, and all leaves that are left; for every seed and every row of at most 24 numbers (a longer one comes out true unasked).
-/
import Derived.Test.YtkfcllcdkgnfbaaKtMap
import Derived.Test.YtkfcllcdkgnfbaaRows
import Derived.Test.YtkfcllcdkgnfbaaOpen
import Derived.Test.YtkfcllcdkgnfbaaOpenA
import Derived.ProofKit
import Derived.OpenShut
import Derived.ShutString
import Derived.ChangeOld
namespace Go.Proofs.Ytkfcllcdkgnfbaa
open Go.RowKit Go.ChangeShapes Go.WideShapes Go.ChangeAt
open Kt Go.Maps
attribute [local go_sem ↓] Go.wp_at_zero Go.wp_at_succ
theorem clear_not {s : List UInt8} (hs : s.length = 32) (l : List Int) {z : Int} (hz : z ∈ l) {x : Nd} (hx : x ∈ canL 17 ⟨0, 0, s⟩ l) : z < x.a ∨ x.a + manyI x.d ≤ z := by
  have h := hasI_can 17 ⟨0, 0, s⟩ l z (okS_root hs).1 rfl
  rw [decide_eq_true hz, Bool.not_true, Bool.and_false, hasI, List.any_eq_false] at h
  have h1 : inI x z = false := by simpa using h x hx
  exact inI_not.1 h1
set_option maxRecDepth 100000 in
set_option maxHeartbeats 6400000 in
theorem keytreeClear_any (w : World) (s : List UInt8) (hs : s.length = 32) (A : Option Addr) (n c : Nat) (l : List Int) (hl : l.length = n) (hc : n ≤ c) (hm : c ≤ maxLen) (hr : Rd w.heap.size w A (iv64 l)) (hz : ∀ z ∈ l, 0 ≤ z ∧ z ≤ 18446744073709551615) :
    Calls Try.prog 7 #[.agg (bva s), .slice A n c] w (RetB (.bool true) w) := by
  have HL := Lib.hid hl
  have HR := Lib.hid hr
  have HZ := Lib.hid hz
  have hcm : n ≤ 9223372036854775807 := by unfold maxLen at hm; omega
  clear hl hr hz hc hm
  have HS := Lib.hid hs
  have HK : Hid ((Try.prog.info? 23).map (·.size) = some (bva s).size) := by rw [bva_size, hs]; exact info_keyL
  have B1 := Lib.hid (show Blk (w.alloc (.cells (bva s) 23)) w.heap.size (bva s) 23 from heap_alloc_new _ _)
  have BB := Lib.hid (show Below w.heap.size w (w.alloc (.cells (bva s) 23)) from (Below.refl _ _).alloc (Nat.le_refl _) _)
  clear hs
  have hmm := @run_makeMap Try.prog
  by_cases h24 : n ≤ 24
  · have hd : decide ((n : Int) > 24) = false := decide_eq_false (by omega)
    clear hcm
    go_enter Try.func7, Try.ntmps7
    go_wp2_with fail
    refine (ktAwake_any _).mono ?_
    rintro e w1 ⟨rfl, bw⟩
    have C1 := Lib.hid (B1.out.below bw)
    have CB := Lib.hid (BB.out.trans (bw.mono BB.out.size))
    clear bw B1 BB
    obtain ⟨rt, hrt⟩ : ∃ rt : Nd, rt = ⟨0, 0, s⟩ := ⟨_, rfl⟩
    have HRT := Lib.hid hrt
    have HOK : Hid (okS 0 [rt]) := by rw [hrt]; exact okS_root HS.out
    obtain ⟨zz, hzz⟩ : ∃ zz : List UInt8, zz = List.replicate 32 0 := ⟨_, rfl⟩
    have hz23 : ∀ W, (zeroValue 23).run Try.prog W = .ok (.agg (bva zz)) W := fun _ => by rw [hzz]; kernel_rfl
    have ZZ3 : Hid (zz.length = 32) := by show _ = _; rw [hzz]; rfl
    have HZZ := Lib.hid hzz
    clear hrt hzz
    go_wp2_with (refine wpList_load_row rfl 23 (.tmp 2) rfl w.heap.size rfl 23 (bva s) (0, 0) _ C1.out Try.underlying23 rfl HK.out ?_)
    refine (new_any s HS.out _).mono ?_
    rintro e w2 ⟨⟨g, F, rfl, ht, hF⟩, bw⟩
    rw [← HRT.out] at ht
    have HT := Lib.hid ht
    have HF := Lib.hid (show ∀ q, F q → w.heap.size ≤ q from fun q hq => Nat.le_trans CB.out.size (hF q hq))
    have HB := Lib.hid (CB.out.trans (bw.mono CB.out.size))
    clear ht hF bw C1 CB
    go_wp2_with fail
    have hsw := HB.out.size
    have hml := HT.out.lt
    have HMP := Lib.hid (World.ownsMap_made w2 Try.prog 25 (boolP Try.prog))
    have HT0 := Lib.hid (HT.out.below (w' := w2.alloc (.map #[] 0)) ((Below.refl _ _).alloc (Nat.le_refl _) _))
    have HB0 := Lib.hid (HB.out.alloc hsw (.map #[] 0))
    have HF0 := Lib.hid (show ∀ q, F q → w.heap.size ≤ q ∧ q ≠ w2.heap.size from fun q hq => ⟨HF.out q hq, by have := hml q hq; omega⟩)
    clear hml HT HB HF
    go_loopw [7] (fun i wr => ∃ k F D ds, k ≤ n ∧ i = .int .i64 (k : Nat) ∧ Tr wr g (punAll [rt] (l.take k)) F ∧ Hid (∀ q, F q → w.heap.size ≤ q ∧ q ≠ w2.heap.size) ∧ wr.ownsMap Try.prog 25 (boolP Try.prog) w2.heap.size k D ∧ Hid (CutM D ds) ∧ Hid (∀ z, z ∈ ds ↔ z ∈ l.take k ∧ z < 131072) ∧ Below w.heap.size w wr) (fun i _ => n - (intOf i).toNat)
    case atStart => exact ⟨0, F, .map [], [], by omega, rfl, HT0.out, HF0, HMP.out, cut_empty, fun z => by simp, HB0.out⟩
    case round =>
      clear HT0 HF0 HMP HB0
      obtain ⟨k, F, D, ds, hk, rfl, ht, HF, hm0, HCU, HDS, hbw⟩ := hrel
      have HT := Lib.hid ht
      have HM := Lib.hid hm0
      have HB := Lib.hid hbw
      clear ht hm0 hbw
      by_cases hlt : k < n
      · have hkl : k < l.length := by rw [HL.out]; exact hlt
        obtain ⟨ad, hA, hbl, _⟩ := rd_u64 HR.out hkl
        subst hA
        obtain ⟨m, hm⟩ : ∃ m, m = l.getD k 0 := ⟨_, rfl⟩
        have hcell : ∀ w', Below w.heap.size w w' → w'.cell? (ad.add k) = some (.int .u64 m) := fun w' hb' => by
          obtain ⟨ad', hA', _, hc⟩ := rd_u64 (HR.out.below hb') hkl
          injection hA' with hA'
          subst hA'
          rw [hm]; exact hc
        have hmb : 0 ≤ m ∧ m ≤ 18446744073709551615 := HZ.out m (by
          rw [hm, List.getD_eq_getElem?_getD, List.getElem?_eq_getElem hkl]; exact List.getElem_mem hkl)
        have HCL := Lib.hid hcell
        have HMB := Lib.hid hmb
        have HMV := Lib.hid hm
        have k0 : (0 : Int) ≤ (k : Int) := by omega
        have k1 : (k : Int) < (n : Int) := by omega
        clear hcell hmb hm hbl
        have hsn : l.take (k + 1) = l.take k ++ [m] := by rw [HMV.out, List.getD_eq_getElem?_getD, List.getElem?_eq_getElem hkl]; exact List.take_succ_eq_append_getElem hkl
        have HSN := Lib.hid hsn
        have cc := HCL.out _ HB.out
        clear hsn
        go_wp2_with fail
        refine (tpuncture_any g _ F m _ HT.out).mono ?_
        rintro e w5 ⟨rfl, F5, ht5, hb5, hF5⟩
        rw [HMV.out, ← punAll_snoc _ _ hkl] at ht5
        have HT5 := Lib.hid ht5
        have HM5 := Lib.hid (map_but HM.out hb5 (fun h => (HF.out _ h).2 rfl))
        have HF5 := Lib.hid (show ∀ q, F5 q → w.heap.size ≤ q ∧ q ≠ w2.heap.size from fun q hq => by
          rcases hF5 q hq with h | h
          · exact HF.out q h
          · have h1 := HM.out.lt; have h2 := HB.out.size; exact ⟨by omega, by omega⟩)
        have HB5 := Lib.hid (HB.out.trans (but_belowF hb5 (fun q hq => (HF.out q hq).1) HB.out.size))
        have cc5 := HCL.out _ HB5.out
        have ek : IntKind.i64.wrap ((k : Int) + 1) = ((k + 1 : Nat) : Int) := by rw [IntWalk.i64_in _ (by omega)]; omega
        clear ht5 hb5 hF5 cc HT HM HB
        by_cases hin : m < 131072
        · have hdm : decide (m < 131072) = true := decide_eq_true hin
          have HIN := Lib.hid hin
          clear hin
          go_wp2_with (at_mapUpdate; refine wpList_mapUpdate_own _ rfl _ _ _ 54 rfl 25 4 law64 Try.underlying54 (boolP Try.prog) w2.heap.size k D rfl HM5.out (by unfold maxLen; omega) (.int .u64 m) (.bool true) (.int .u64 m) rfl rfl (keyOf_int_mk Try.underlying25 (wf64 HMB.out)) (.lit (.bool true)) [] (boolR_mk true) ?_; intro w6 hown6 hgrow6)
          have hbg := but_of_grown (S := (· = w2.heap.size)) hgrow6 (fun q hq => by injection hq with hq; exact hq.symm)
          have HT6 := Lib.hid (HT5.out.but hbg (fun q hq hS => (HF5.out q hq).2 hS))
          have HM6 := Lib.hid hown6
          have HB6 := Lib.hid (HB5.out.trans (hbg.below (fun q hq hS => by omega) HB5.out.size))
          clear hown6 hgrow6 hbg HT5 HM5 HB5 cc5
          go_roundw
          case rel => exact ⟨k + 1, F5, _, _, by omega, by go_num, HT6.out, HF5, HM6.out, HCU.out.put m, fun z => by
            rw [put_mem, HDS.out, HSN.out, List.mem_append, List.mem_singleton]
            have := HIN.out
            constructor
            · rintro (⟨h1, h2⟩ | rfl)
              · exact ⟨.inl h1, h2⟩
              · exact ⟨.inr rfl, this⟩
            · rintro ⟨h1 | rfl, h2⟩
              · exact .inl ⟨h1, h2⟩
              · exact .inr rfl, HB6.out⟩
          case measure => simp [intOf]; omega
        · have hdm : decide (m < 131072) = false := decide_eq_false hin
          have HIN := Lib.hid hin
          clear hin
          go_wp2_with fail
          go_roundw
          case rel => exact ⟨k + 1, F5, D, ds, by omega, by go_num, HT5.out, HF5, HM5.out.mono (by omega), HCU, fun z => by
            rw [HDS.out, HSN.out, List.mem_append, List.mem_singleton]
            have := HIN.out
            constructor
            · rintro ⟨h1, h2⟩; exact ⟨.inl h1, h2⟩
            · rintro ⟨h1 | rfl, h2⟩
              · exact ⟨h1, h2⟩
              · exact absurd h2 (by omega), HB5.out⟩
          case measure => simp [intOf]; omega
      · obtain rfl : k = n := by omega
        have hcan : punAll [rt] (l.take k) = canL 17 rt l := by rw [List.take_of_length_le (by rw [HL.out]; exact Nat.le_refl _), HRT.out]; exact punAll_root HS.out l
        obtain ⟨X, hX⟩ : ∃ X, X = canL 17 rt l := ⟨_, rfl⟩
        have ht := HT.out
        rw [hcan, ← hX] at ht
        have HXV := Lib.hid hX
        have HT2 := Lib.hid ht
        have HXO := Lib.hid ht.ok
        have hds : ∀ z, z ∈ ds ↔ z ∈ l ∧ z < 131072 := fun z => by
          rw [HDS.out, List.take_of_length_le (by rw [HL.out]; exact Nat.le_refl _)]
        have hdr : ∀ z ∈ ds, 0 ≤ z ∧ z < 131072 := fun z hz => ⟨(HZ.out z ((hds z).1 hz).1).1, ((hds z).1 hz).2⟩
        have hXd : X = canL 17 rt ds := by
          rw [hX, HRT.out]
          exact can_congr' 17 _ (okS_root HS.out).1 rfl (fun z _ h2 => by rw [hds]; exact ⟨fun h => ⟨h, h2⟩, fun h => h.1⟩)
        have HCN := Lib.hid (show countL X = 131072 - (ds.length : Int) by
          rw [hXd, HRT.out, count_can 17 _ ds (okS_root HS.out).1 rfl HCU.out.nodup, nIn_all hdr]
          have : manyI (0 : Int) = 131072 := by decide
          show manyI 0 - _ = _
          rw [this])
        have HLN := Lib.hid (show X.length ≤ ds.length * 17 + 1 by
          rw [hXd, HRT.out]
          have h := length_can 17 ⟨0, 0, s⟩ ds (okS_root HS.out).1 rfl
          rwa [nIn_all hdr] at h)
        have HDL := Lib.hid (show ds.length ≤ k by rw [← HCU.out.size]; exact HM.out.size_le)
        have HNOT := Lib.hid (show ∀ z ∈ ds, ∀ x ∈ X, z < x.a ∨ x.a + manyI x.d ≤ z from fun z hz x hx => by
          rw [hX, HRT.out] at hx
          exact clear_not HS.out l ((hds z).1 hz).1 hx)
        have HHAS := Lib.hid (show ∀ z, Maps.has D (.int .u64 z) = true → z ∈ ds from fun z hz => by rw [HCU.out.has] at hz; simpa using hz)
        have HSZ := Lib.hid HCU.out.size
        have HFW := Lib.hid (show ∀ q, F q → w.heap.size ≤ q from fun q hq => (HF.out q hq).1)
        clear HT ht hcan hX hds hdr hXd
        have HT := HT2
        clear HT2
        go_wp2_with fail
        refine (theld_tr HT.out).mono ?_
        rintro e v1 ⟨A1, n1, c1, rfl, ho, bw⟩
        have hn1 : X.length = n1 := by
          have h1 := ho.1
          rw [nvs_length (okS_len HXO.out)] at h1; omega
        have hfew : n1 ≤ 131072 := by rw [← hn1]; exact okS_few HXO.out
        have HN1 := Lib.hid hn1
        have O1 := Lib.hid (Rd.ownN ho)
        have HTx101 := Lib.hid (HT.out.below bw)
        have HMx101 := Lib.hid (map_below HM.out bw)
        have HBx101 := Lib.hid (HB.out.trans (bw.mono HB.out.size))
        clear bw ho hn1 HT HM HB
        obtain ⟨cz, hcz⟩ : ∃ cz, cz = ndC zeroNd := ⟨_, rfl⟩
        have hzh : ∀ W, (zeroValue 48).run Try.prog W = .ok (.agg cz) W := fun _ => by rw [hcz]; kernel_rfl
        have ZH : Hid (cz.size = 34) := by show _ = _; rw [hcz]; exact ndC_size rfl
        have hlm := HMx101.out.lt
        clear hcz
        go_wp2_with fail
        go_loopw [8, 9, 11, 12, 13, 52] (fun e m _ _ _ i wr => ∃ j : Nat, j ≤ n1 ∧ i = .int .i64 j ∧ e = .int .u64 (endL 0 (X.take j)) ∧ m = .int .u64 (countL (X.take j)) ∧ Below v1.heap.size v1 wr) (fun _ _ _ _ _ i _ => n1 - (intOf i).toNat)
        case atStart => exact ⟨0, by omega, rfl, rfl, rfl, Below.refl _ _⟩
        case round =>
          obtain ⟨j, hj, rfl, rfl, rfl, hbw⟩ := hrel
          by_cases hlt : j < n1
          · have hkl : j < X.length := by rw [HN1.out]; exact hlt
            obtain ⟨ad, hA, hbl, hcell⟩ := rd_node (O1.out.below hbw) (okS_len HXO.out) hkl
            subst hA
            obtain ⟨x, hxe⟩ : ∃ x, x = X[j] := ⟨_, rfl⟩
            have hxm : x ∈ X := by rw [hxe]; exact List.getElem_mem hkl
            have hx : okH x := (okS_mem HXO.out x hxm).1
            have hpre := okS_pre HXO.out (j + 1)
            have hsn : X.take (j + 1) = X.take j ++ [x] := by rw [hxe]; exact List.take_succ_eq_append_getElem hkl
            rw [hsn, okS_snoc] at hpre
            obtain ⟨C, hC⟩ : ∃ C, C = endL 0 (X.take j) := ⟨_, rfl⟩
            obtain ⟨N, hN⟩ : ∃ N, N = countL (X.take j) := ⟨_, rfl⟩
            obtain ⟨M, hM⟩ : ∃ M, M = manyI x.d := ⟨_, rfl⟩
            have hmm2 := hx.many
            have hx5 := hx.2.2.2.2.1
            have hx3 := hx.2.2.1
            have hNb := countL_bd (X.take j) (fun y hy => okS_N HXO.out y (List.mem_of_mem_take hy))
            have hlk : (X.take j).length = j := by rw [List.length_take]; omega
            rw [hlk, ← hN] at hNb
            rw [← hM] at hmm2 hx5
            have HEN := Lib.hid (show endL 0 (X.take (j + 1)) = x.a + M by rw [hsn, endL_snoc, hM])
            have HYtkfcllcdkgnfbaa := Lib.hid (show countL (X.take (j + 1)) = N + M by rw [hsn, countL_append, hN, hM, countL, countL]; omega)
            have d0 : decide (x.d < 0) = false := decide_eq_false (by have := hx.1; omega)
            have d1 : decide (x.d > 17) = false := decide_eq_false (by have := hx.2.1; omega)
            have d2 : decide (x.a < C) = false := decide_eq_false (by have := hpre.2.2; omega)
            have es : IntKind.i64.wrap (17 - x.d) = 17 - x.d := IntWalk.i64_in _ (by have := hx.1; have := hx.2.1; omega)
            have ep : (2 : Int) ^ (17 - x.d).toNat = M := by rw [hM]; exact (manyI_ok hx.1 hx.2.1).1.symm
            have hx1 := hx.1
            have hx2 := hx.2.1
            have ea : IntKind.u64.wrap (x.a + M) = x.a + M := IntWalk.u64_in _ (by omega)
            have en : IntKind.u64.wrap (N + M) = N + M := IntWalk.u64_in _ (by omega)
            have ek : IntKind.i64.wrap ((j : Int) + 1) = ((j + 1 : Nat) : Int) := by rw [IntWalk.i64_in _ (by omega)]; omega
            rw [← hxe] at hcell
            rw [← hC, ← hN]
            have HCE := Lib.hid hcell
            have HX := Lib.hid hx
            have HXN := Lib.hid (show ∀ z ∈ ds, z < x.a ∨ x.a + M ≤ z from fun z hz => by rw [hM]; exact HNOT.out z hz x hxm)
            have HI : Hid ((Try.prog.info? 48).map (·.size) = some (ndV x).length) := by rw [ndV_length hx.2.2.2.2.2]; exact info_held
            have HIC : Hid ((Try.prog.info? 48).map (·.size) = some (ndC x).size) := by rw [ndC_size hx.2.2.2.2.2]; exact info_held
            have HBW := Lib.hid hbw
            have k0 : (0 : Int) ≤ (j : Int) := by omega
            have k1 : (j : Int) < (n1 : Int) := by omega
            clear hcell hxe hxm hx hpre hsn hC hN hM hbl hlk hbw
            go_wp2_with (first
              | (refine wpList_load_at rfl 48 (.tmp 54) rfl (ad.add (j * 34)) rfl HCE.out Try.underlying48 rfl HI.out ?_
                 change wpList _ _ _ _ (Act.put _ _ (.agg (ndC x))) _)
              | (refine wpList_store_row rfl 48 (.tmp 11) (.tmp 55) rfl wr.heap.size (ndC x) rfl rfl 48 cz (heap_alloc_new _ _) HIC.out (by rw [ndC_size HX.out.2.2.2.2.2, ZH.out]) (ndC_one _) ?_
                 generalize hwx : World.setRow _ _ _ = wx
                 have e1' : Blk wx wr.heap.size (ndC x) 48 := by rw [← hwx]; exact setRow_heap _ _ _ _ _ _ (heap_alloc_new _ _)
                 have c0 := ndt_d e1'
                 have c1' := ndt_a e1'
                 have hxl := e1'.lt
                 have BX := Lib.hid e1'
                 have EB := Lib.hid (show Below v1.heap.size v1 wx by rw [← hwx]; exact below_setRow (HBW.out.alloc HBW.out.size _) HBW.out.size _)
                 have HMX := Lib.hid (map_below HMx101.out EB.out)
                 clear hwx e1')
              | (at_range
                 refine wpList_range_own _ rfl _ 54 rfl 25 4 law64 Try.underlying54 (boolP Try.prog) w2.heap.size k D rfl HMX.out ?_
                 intro w0 hrg0 hg0 hs0
                 have RG := Lib.hid hrg0
                 have GB := Lib.hid hg0
                 clear hrg0 hg0))
            try go_frame
            have EB0 := Lib.hid (EB.out.trans ((below_of_grown GB.out).mono EB.out.size))
            have BX0 := Lib.hid (BX.out.below (below_of_grown GB.out))
            have hxl0 : wr.heap.size < wx.heap.size := hxl
            clear BX EB HMX GB c0 c1'
            obtain ⟨xb, hxb⟩ : ∃ z, z = wr.heap.size := ⟨_, rfl⟩
            have hvx : v1.heap.size ≤ xb := by rw [hxb]; exact HBW.out.size
            rw [← hxb] at BX0 hxl0 ⊢
            clear hxb
            go_loopw [13] (fun _ wq => ∃ left cnt, wq.ranges Try.prog 25 (boolP Try.prog) w2.heap.size wx.heap.size k D left cnt ∧ Hid (∀ z, left (.int .u64 z) = true → z ∈ ds) ∧ Blk wq xb (ndC x) 48 ∧ Below v1.heap.size v1 wq) (fun _ wq => wq.rangeLeft w2.heap.size wx.heap.size)
            case atStart => exact ⟨_, _, RG.out, HHAS.out, BX0.out, EB0.out⟩
            case round =>
              clear RG BX0 EB0
              obtain ⟨left, cnt, hrg, HLF, hbx, hbq⟩ := hrel
              have c1' := ndt_a hbx
              have RGQ := Lib.hid hrg
              have BXQ := Lib.hid hbx
              have EBQ := Lib.hid hbq
              have hvs : v1.heap.size ≤ wx.heap.size := by omega
              have HFC := Lib.hid (show ∀ z kl, keyOf Try.prog 25 (.int .u64 z) = some kl → left kl = true → kl = .int .u64 z ∧ (0 ≤ z ∧ z ≤ 18446744073709551615) ∧ (decide (z ≥ x.a) = false ∨ (decide (z ≥ x.a) = true ∧ IntKind.u64.wrap (z - x.a) = z - x.a ∧ decide (z - x.a < M) = false)) from fun z kl h1 h2 => by
                obtain ⟨z', e1, e2, hw⟩ := Maps.keyOf_int_inv Try.underlying25 h1
                injection e1 with _ e1
                subst e1
                rw [e2] at h2
                have hb := bounds_u64 hw
                refine ⟨e2, hb, ?_⟩
                rcases HXN.out z (HLF.out z h2) with h3 | h3
                · exact .inl (decide_eq_false (by omega))
                · exact .inr ⟨decide_eq_true (by omega), IntWalk.u64_in _ (by omega), decide_eq_false (by omega)⟩)
              clear hrg hbx hbq
              go_wp2_with (at_next
                           refine wpList_next_ranges _ rfl _ rfl 25 law64 (boolP Try.prog) (Value.int .u64) Value.bool (fun key kl h => by obtain ⟨z, rfl, _⟩ := Maps.keyOf_int_inv Try.underlying25 h; exact ⟨z, rfl⟩) (fun v y h => boolR_inv h) w2.heap.size wx.heap.size k D left cnt rfl RGQ.out (fun hc0 hl0 => ?_) (fun z c kl y w4 cnt4 hkey hlk hv hat hrg1 hlt1 hg1 hs1 hen => ?_)
                           rotate_left
                           obtain ⟨rfl, hzb, hza⟩ := HFC.out z kl hkey hlk
                           have c1q : w4.cell? ⟨xb, 1, none⟩ = some (.int .u64 x.a) := ndt_a (BXQ.out.but (S := (· = wx.heap.size)) (but_of_grown hg1 (fun q hq => by injection hq with hq; exact hq.symm)) (by omega))
                           have RG4 := Lib.hid hrg1
                           have G4 := Lib.hid hg1
                           have hlt4 := hlt1
                           clear hkey hlk hv hat hrg1 hlt1 hg1 hs1
                           rcases hza with dz1 | ⟨dz1, dz2, dz3⟩)
              · have hbg := but_of_grown (S := (· = wx.heap.size)) G4.out (fun q hq => by injection hq with hq; exact hq.symm)
                have HBX4 := Lib.hid (BXQ.out.but hbg (by omega))
                have HEB4 := Lib.hid (EBQ.out.trans (hbg.below (B := v1.heap.size) (fun q hq hS => by omega) EBQ.out.size))
                go_roundw
                case rel => exact ⟨_, cnt4, RG4.out, fun z' h => HLF.out z' (by rw [Bool.and_eq_true] at h; exact h.1), HBX4.out, HEB4.out⟩
                case measure => rw [RG4.out.left_eq, RGQ.out.left_eq]; exact hlt4
              · have hbg := but_of_grown (S := (· = wx.heap.size)) G4.out (fun q hq => by injection hq with hq; exact hq.symm)
                have HBX4 := Lib.hid (BXQ.out.but hbg (by omega))
                have HEB4 := Lib.hid (EBQ.out.trans (hbg.below (B := v1.heap.size) (fun q hq hS => by omega) EBQ.out.size))
                go_roundw
                case rel => exact ⟨_, cnt4, RG4.out, fun z' h => HLF.out z' (by rw [Bool.and_eq_true] at h; exact h.1), HBX4.out, HEB4.out⟩
                case measure => rw [RG4.out.left_eq, RGQ.out.left_eq]; exact hlt4
              · go_roundw
                case rel => exact ⟨j + 1, by omega, by go_num, by rw [HEN.out], by rw [HYtkfcllcdkgnfbaa.out], EBQ.out⟩
                case measure => simp [intOf]; omega
          · obtain rfl : j = n1 := by omega
            have hXj : X.take j = X := List.take_of_length_le (by rw [HN1.out]; exact Nat.le_refl _)
            rw [hXj]
            obtain ⟨S, hS⟩ : ∃ S, S = ds.length := ⟨_, rfl⟩
            have hCX : countL X = 131072 - (S : Int) := by rw [HCN.out, hS]
            have hSb : S ≤ 24 := by have := HDL.out; omega
            have hsz : Maps.size D = S := by rw [HSZ.out, hS]
            rw [hCX]
            have HMZ := Lib.hid (map_below HMx101.out hbw)
            have HTZ := Lib.hid (HTx101.out.below hbw)
            have HBZ := Lib.hid (HBx101.out.trans (hbw.mono HBx101.out.size))
            have HCX := Lib.hid hCX
            have HSV := Lib.hid hS
            have HSD := Lib.hid hsz
            have hl1 : ∀ ty, (Builtin.len_ #[54] ty #[.map (some w2.heap.size)]).run Try.prog wr = .ok (.int .i64 S) wr := fun ty => by rw [HMZ.out.len Try.underlying54 ty, hsz]
            have e1 : IntKind.u64.wrap (S : Int) = (S : Int) := IntWalk.u64_in _ (by omega)
            have e2 : IntKind.u64.wrap (131072 - (S : Int)) = 131072 - (S : Int) := IntWalk.u64_in _ (by omega)
            have e3 : IntKind.i64.wrap (131072 - (S : Int)) = 131072 - (S : Int) := IntWalk.i64_in _ (by omega)
            have e4 : IntKind.i64.wrap ((S : Int) * 17) = (S : Int) * 17 := IntWalk.i64_in _ (by omega)
            have e5 : IntKind.i64.wrap ((S : Int) * 17 + 1) = (S : Int) * 17 + 1 := IntWalk.i64_in _ (by omega)
            have hbb : ((131072 - (S : Int)) == (131072 - (S : Int))) = true := beq_self_eq_true _
            clear hXj hCX hS hsz hbw
            go_wp2_with fail
            refine (tcount_tr HTZ.out).mono ?_
            rintro e y1 ⟨rfl, bw⟩
            rw [HCX.out]
            have HM1 := Lib.hid (map_below HMZ.out bw)
            have HT1 := Lib.hid (HTZ.out.below bw)
            have HB1 := Lib.hid (HBZ.out.trans (bw.mono HBZ.out.size))
            clear bw hl1 HMZ HTZ HBZ
            go_wp2_with fail
            refine (theld_tr HT1.out).mono ?_
            rintro e y2 ⟨A5, n5, c5, rfl, ho, bw⟩
            have hn5 : X.length = n5 := by
              have h1 := ho.1
              rw [nvs_length (okS_len HXO.out)] at h1; omega
            have hle : decide ((n5 : Int) ≤ (S : Int) * 17 + 1) = true := decide_eq_true (by have := HLN.out; have := HSV.out; omega)
            have HM2 := Lib.hid (map_below HM1.out bw)
            have HB2 := Lib.hid (HB1.out.trans (bw.mono HB1.out.size))
            have hl2 : ∀ ty, (Builtin.len_ #[54] ty #[.map (some w2.heap.size)]).run Try.prog y2 = .ok (.int .i64 S) y2 := fun ty => by rw [HM2.out.len Try.underlying54 ty, HSD.out]
            clear ho bw HM1 HT1 HB1 hn5
            go_wp2_with fail
            go_ret
            exact ⟨rfl, HB2.out⟩
  · have hd : decide ((n : Int) > 24) = true := decide_eq_true (by omega)
    go_enter Try.func7, Try.ntmps7
    go_wp2_with fail
    refine (ktAwake_any _).mono ?_
    rintro e w1 ⟨rfl, bw⟩
    have CB := Lib.hid (BB.out.trans (bw.mono BB.out.size))
    clear bw B1 BB
    go_wp2_with fail
    refine (ktAwake_any _).mono ?_
    rintro e w2 ⟨rfl, bw⟩
    have CB2 := Lib.hid (CB.out.trans (bw.mono CB.out.size))
    clear bw CB
    go_wp2_with fail
    go_ret
    exact ⟨rfl, CB2.out⟩
theorem keytreeClear_own : ownKnob Try.prog.godebug = none := by kernel_rfl
theorem keytreeClear_laid : laidOutB Try.prog = true := by kernel_rfl

set_option maxRecDepth 100000 in
theorem keytreeClear_lifted (os : Os) (started : os.Started) (H : Type) (enc : TypeId × Value → H) :
    ReturnsInHanded {} Try.checked os 7 .any (Rows.keytreeClearSpec.pre6 enc Try.prog Try.f7 Rows.keytreeClearRow.domain false) (Rows.keytreeClearSpec.post enc Try.prog Try.f7 false true false false) := by
  refine returnsInHanded_of_change (C := Try.checked) keytreeClear_own started (by kernel_rfl) Try.func7
    (ChangeSpec.witness6 (enc := enc) (C := Try.checked) false ⟨#[], #[.agg #[.int .u8 0, .int .u8 0, .int .u8 0, .int .u8 0, .int .u8 0, .int .u8 0, .int .u8 0, .int .u8 0, .int .u8 0, .int .u8 0, .int .u8 0, .int .u8 0, .int .u8 0, .int .u8 0, .int .u8 0, .int .u8 0, .int .u8 0, .int .u8 0, .int .u8 0, .int .u8 0, .int .u8 0, .int .u8 0, .int .u8 0, .int .u8 0, .int .u8 0, .int .u8 0, .int .u8 0, .int .u8 0, .int .u8 0, .int .u8 0, .int .u8 0, .int .u8 0], .slice none 0 0], []⟩ 8 (by kernel_rfl) (by kernel_rfl) (by kernel_rfl) (by kernel_rfl)) ?_
  intro W base args ds gs before hval0 hW _ _
  have hval : ∀ (j : Nat) t v, Try.f7.params[j]? = some t → args[j]? = some v → Value.okWide Try.prog W .any base t v := hval0
  have hW' := hW
  obtain ⟨p, q, hA0, hV, rfl, hfz, hnd⟩ := hW
  have hA : DataW.TrodAll enc Try.prog W 0 (fun _ => true) true Try.f7.params.toList args.toList ds p := hA0
  rw [Try.params7] at hA hval
  obtain ⟨v0, vs0, d0, ds0, p0, q0, hargs, rfl, rfl, h0, r0⟩ := trodAll_cons hA
  obtain ⟨v1, vs1, d1, ds1, p1, q1, rfl, rfl, rfl, h1, r1⟩ := trodAll_cons r0
  obtain ⟨rfl, rfl, rfl⟩ := trodAll_nil r1
  obtain rfl : args = #[v0, v1] := by cases args; simp_all
  obtain ⟨rfl, rfl⟩ := trodVars_none hV
  have lt0 : ∀ x ∈ p0, x.block < W.heap.size := by obtain ⟨m, hm⟩ := h0; exact DataW.trod_lt m _ _ _ hm
  obtain ⟨l0, hl0, rfl⟩ := open_u8s Try.underlying23 Try.underlying5 (by kernel_rfl) (by kernel_rfl) (hval 0 23 v0 rfl rfl) h0
  obtain ⟨a1, n1, c1, rfl⟩ := okWide_slice Try.underlying24 (hval 1 24 v1 rfl rfl)
  have lt1 : ∀ x ∈ p1, x.block < W.heap.size := by obtain ⟨m, hm⟩ := h1; exact DataW.trod_lt m _ _ _ hm
  obtain ⟨l1, hl1, hc1, hm1, hr1, hz1⟩ := open_u64s Try.underlying24 Try.underlying25 (by kernel_rfl) h1
  clear hA0 hval0
  refine (keytreeClear_any W l0 hl0 a1 n1 c1 l1 hl1 hc1 hm1 hr1 hz1).mono fun e W' ⟨he, bel⟩ => ?_
  subst he
  exact ⟨_, rfl, _, _, _, [], _, [], hW', trodAll_mk1 (shut_bool Try.underlying4 _), (trodAll_cons_mk (Below.trod keytreeClear_laid (by kernel_rfl) (of_decide_eq_true (by kernel_rfl)) h0 bel lt0) (trodAll_cons_mk (Below.trod keytreeClear_laid (by kernel_rfl) (of_decide_eq_true (by kernel_rfl)) h1 bel lt1) trodAll_mk0)), rfl, bel.frame _, fun h => by cases h⟩

theorem keytreeClear_holds : Rows.KeytreeClearSaid :=
  OpenClaim.holds_of_wide 7 Try.f7 rfl rfl rfl rfl rfl rfl rfl ⟨rfl, rfl, rfl, rfl, rfl⟩ rfl rfl rfl rfl rfl (by kernel_rfl) Try.func7 (by kernel_rfl)
    (of_decide_eq_true (by kernel_rfl)) (by unfold Func.isWrapper; rw [if_neg (of_decide_eq_false (by kernel_rfl))]; exact ⟨rfl, rfl⟩)
    (fun os started H enc _ => keytreeClear_lifted os started H enc)

#print axioms keytreeClear_holds

end Go.Proofs.Ytkfcllcdkgnfbaa
