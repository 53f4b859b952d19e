/-
  Texts of this seat, one behind the other: KcWKp, KcWKpL, KcWKpF.
-/
import Derived.Test.YtippbjpodnnhiaaDoorRows
import Derived.ProofKit
import Derived.LaidMore
import Derived.OpenShut
import Derived.Stop.Joined
import Derived.Test.YtippbjpodnnhiaaDoorCards
import Derived.Test.YtippbjpodnnhiaaDoorTie
import Derived.ShutString
import Derived.ChangeOld
import Derived.SevenTiedAt
import Derived.Test.YtippbjpodnnhiaaDoorDk11
/-
  WholeKept holds: a tree of keys is its bytes: written and read again, what is left of it has the same leaves with the same keys, none that was punctured, and no more than so many nodes; a row of more than 20 numbers comes out true unasked.
-/
namespace Go.Proofs.YtippbjpodnnhiaaDoor
open Go.RowKit
open Kg Kc Go.Maps
attribute [local go_sem ↓] Go.wp_at_zero Go.wp_at_succ
theorem zl_len : zeroLit.toList.length = 65 := by decide
theorem info_lit65 : (Tryd.prog.info? 31).map (·.size) = some zeroLit.toList.length := by rw [zl_len]; kernel_rfl
theorem kept_has {s : List UInt8} (hs : s.length = 32) (l : List Int) (m : Int) : hasI (canL litC 17 ⟨0, 0, s⟩ l) m = ((decide (0 ≤ m) && decide (m < 131072)) && !decide (m ∈ l)) := by
  rw [hasI_can 17 _ l m (okS_root hs).1 rfl, root_in]
set_option maxRecDepth 100000 in
set_option maxHeartbeats 6400000 in
theorem wholeKept_any (w : World) (hg : Rd w.heap.size w (some ⟨0, 0, none⟩) zeroLit.toList) (s : List UInt8) (hs : s.length = 32) (A : Option Addr) (n c : Nat) (l : List Int) (hl : l.length = n) (_hc : n ≤ c) (_hm : c ≤ maxLen) (hr : Rd w.heap.size w A (iv64 l)) (hz : ∀ z ∈ l, 0 ≤ z ∧ z ≤ 18446744073709551615) (q : Int) (hq : 0 ≤ q ∧ q ≤ 18446744073709551615) :
    Calls Tryd.prog 3 #[.agg (bva s), .slice A n c, .int .u64 q] w (RetB (.bool true) w) := by
  have HL := Lib.hid hl
  have HR := Lib.hid hr
  have HZ := Lib.hid hz
  have HGL := Lib.hid hg
  have HQ := Lib.hid hq
  have q0 : 0 ≤ q := hq.1
  clear hl hr hz _hc _hm hg hq
  have HS := Lib.hid hs
  have HK : Hid ((Tryd.prog.info? 23).map (·.size) = some (bva s).size) := by rw [bva_size, hs]; exact info_keyL
  have B1 := Lib.hid (show Blk (w.alloc (.cells (bva s) 23)) w.heap.size (bva s) 23 from heap_alloc_new _ _)
  have BB := Lib.hid (show Below w.heap.size w (w.alloc (.cells (bva s) 23)) from (Below.refl _ _).alloc (Nat.le_refl _) _)
  have HIL := Lib.hid info_lit65
  have hmm := @run_makeMap Tryd.prog
  clear hs
  by_cases h24 : n ≤ 20
  · have hd : decide ((n : Int) > 20) = false := decide_eq_false (by omega)
    go_enter Tryd.func3, Tryd.ntmps3
    go_wp2_with fail
    refine (topAwake_any _).mono ?_
    rintro e w1 ⟨rfl, bw⟩
    have C1 := Lib.hid (B1.out.below bw)
    have CB := Lib.hid (BB.out.trans (bw.mono BB.out.size))
    have HG1 := Lib.hid (show ∀ j v, zeroLit.toList[j]? = some v → w1.cell? ((⟨0, 0, none⟩ : Addr).add j) = some v from fun j v hv => by
      obtain ⟨ad, e, _, hc⟩ := (HGL.out.below CB.out) j v hv
      injection e with e; subst e; exact hc)
    clear bw B1 BB
    obtain ⟨rt, hrt⟩ : ∃ rt : Nd, rt = ⟨0, 0, s⟩ := ⟨_, rfl⟩
    have HRT := Lib.hid hrt
    have HOK : Hid (okS 0 [rt]) := by rw [hrt]; exact okS_root HS.out
    obtain ⟨zz, hzz⟩ : ∃ zz : List UInt8, zz = List.replicate 32 0 := ⟨_, rfl⟩
    have hz23 : ∀ W, (zeroValue 23).run Tryd.prog W = .ok (.agg (bva zz)) W := fun _ => by rw [hzz]; kernel_rfl
    have ZZ3 : Hid (zz.length = 32) := by show _ = _; rw [hzz]; rfl
    have HZZ := Lib.hid hzz
    clear hrt hzz
    go_wp2_with (first
      | (refine wpList_load_at rfl 31 (.global 0) rfl (⟨0, 0, none⟩ : Addr) rfl HG1.out Tryd.underlying31 rfl HIL.out ?_
         change wpList _ _ _ _ (Act.put _ _ (.agg zeroLit)) _)
      | (refine wpList_load_row rfl 23 (.tmp 3) rfl w.heap.size rfl 23 (bva s) (0, 0) _ C1.out Tryd.underlying23 rfl HK.out ?_))
    refine (new_any (ci := litC) s HS.out _).mono ?_
    rintro e w2 ⟨⟨g, F, rfl, ht, hF⟩, bw⟩
    rw [← HRT.out] at ht
    have HT := Lib.hid ht
    have HF := Lib.hid (show ∀ q, F q → w.heap.size ≤ q from fun q hq => Nat.le_trans CB.out.size (hF q hq))
    have HB := Lib.hid (CB.out.trans (bw.mono CB.out.size))
    clear ht hF bw C1 CB HG1
    go_wp2_with fail
    have hsw := HB.out.size
    have hml := HT.out.lt
    have HMP := Lib.hid (World.ownsMap_made w2 Tryd.prog 25 (boolP Tryd.prog))
    have HT0 := Lib.hid (HT.out.below (w' := w2.alloc (.map #[] 0)) ((Below.refl _ _).alloc (Nat.le_refl _) _))
    have HB0 := Lib.hid (HB.out.alloc hsw (.map #[] 0))
    have HF0 := Lib.hid (show ∀ q, F q → w.heap.size ≤ q ∧ q ≠ w2.heap.size from fun q hq => ⟨HF.out q hq, by have := hml q hq; omega⟩)
    clear hml HT HB HF
    go_loopw [9] (fun i wr => ∃ k F D ds, k ≤ n ∧ i = .int .i64 (k : Nat) ∧ Tr litC wr g (punAll litC [rt] (l.take k)) F ∧ Hid (∀ q, F q → w.heap.size ≤ q ∧ q ≠ w2.heap.size) ∧ wr.ownsMap Tryd.prog 25 (boolP Tryd.prog) w2.heap.size k D ∧ Hid (CutM D ds) ∧ Hid (∀ z, z ∈ ds ↔ z ∈ l.take k ∧ z < 131072) ∧ Below w.heap.size w wr) (fun i _ => n - (intOf i).toNat)
    case atStart => exact ⟨0, F, .map [], [], by omega, rfl, HT0.out, HF0, HMP.out, cut_empty, fun z => by simp, HB0.out⟩
    case round =>
      clear HT0 HF0 HMP HB0
      obtain ⟨k, F, D, ds, hk, rfl, ht, HF, hm0, HCU, HDS, hbw⟩ := hrel
      have HT := Lib.hid ht
      have HM := Lib.hid hm0
      have HB := Lib.hid hbw
      clear ht hm0 hbw
      by_cases hlt : k < n
      · have hkl : k < l.length := by rw [HL.out]; exact hlt
        obtain ⟨ad, hA, hbl, _⟩ := rd_u64 HR.out hkl
        subst hA
        obtain ⟨m, hm⟩ : ∃ m, m = l.getD k 0 := ⟨_, rfl⟩
        have hcell : ∀ w', Below w.heap.size w w' → w'.cell? (ad.add k) = some (.int .u64 m) := fun w' hb' => by
          obtain ⟨ad', hA', _, hc⟩ := rd_u64 (HR.out.below hb') hkl
          injection hA' with hA'
          subst hA'
          rw [hm]; exact hc
        have hmb : 0 ≤ m ∧ m ≤ 18446744073709551615 := HZ.out m (by
          rw [hm, List.getD_eq_getElem?_getD, List.getElem?_eq_getElem hkl]; exact List.getElem_mem hkl)
        have HCL := Lib.hid hcell
        have HMB := Lib.hid hmb
        have HMV := Lib.hid hm
        have m0 : 0 ≤ m := hmb.1
        have k0 : (0 : Int) ≤ (k : Int) := by omega
        have k1 : (k : Int) < (n : Int) := by omega
        clear hcell hmb hm hbl
        have hsn : l.take (k + 1) = l.take k ++ [m] := by rw [HMV.out, List.getD_eq_getElem?_getD, List.getElem?_eq_getElem hkl]; exact List.take_succ_eq_append_getElem hkl
        have HSN := Lib.hid hsn
        have HAS := Lib.hid (show hasI (punAll litC [rt] (l.take k)) m = ((decide (0 ≤ m) && decide (m < 131072)) && !decide (m ∈ l.take k)) by rw [HRT.out, punAll_root HS.out]; exact kept_has HS.out _ _)
        have cc := HCL.out _ HB.out
        clear hsn
        go_wp2_with fail
        refine (tpuncture_any g _ F m _ HT.out).mono ?_
        rintro e w5 ⟨rfl, F5, ht5, hb5, hF5⟩
        rw [HAS.out, decide_eq_true HMB.out.1]
        rw [HMV.out, ← punAll_snoc _ _ hkl] at ht5
        have HT5 := Lib.hid ht5
        have HM5 := Lib.hid (map_but HM.out hb5 (fun h => (HF.out _ h).2 rfl))
        have HF5 := Lib.hid (show ∀ q, F5 q → w.heap.size ≤ q ∧ q ≠ w2.heap.size from fun q hq => by
          rcases hF5 q hq with h | h
          · exact HF.out q h
          · have h1 := HM.out.lt; have h2 := HB.out.size; exact ⟨by omega, by omega⟩)
        have HB5 := Lib.hid (HB.out.trans (but_belowF hb5 (fun q hq => (HF.out q hq).1) HB.out.size))
        have cc5 := HCL.out _ HB5.out
        have ek : IntKind.i64.wrap ((k : Int) + 1) = ((k + 1 : Nat) : Int) := by rw [IntWalk.i64_in _ (by omega)]; omega
        clear ht5 hb5 hF5 cc HT HM HB HAS
        by_cases hin : m < 131072 ∧ m ∉ l.take k
        · rw [decide_eq_true hin.1, decide_eq_false hin.2]
          have HIN := Lib.hid hin
          clear hin
          go_wp2_with (at_mapUpdate; refine wpList_mapUpdate_own _ rfl _ _ _ 32 rfl 25 4 law64 Tryd.underlying32 (boolP Tryd.prog) w2.heap.size k D rfl HM5.out (by unfold maxLen; omega) (.int .u64 m) (.bool true) (.int .u64 m) rfl rfl (keyOf_int_mk Tryd.underlying25 (wf64 HMB.out)) (.lit (.bool true)) [] (boolR_mk true) ?_; intro w6 hown6 hgrow6)
          have hbg := but_of_grown (S := (· = w2.heap.size)) hgrow6 (fun q hq => by injection hq with hq; exact hq.symm)
          have HT6 := Lib.hid (HT5.out.but hbg (fun q hq hS => (HF5.out q hq).2 hS))
          have HM6 := Lib.hid hown6
          have HB6 := Lib.hid (HB5.out.trans (hbg.below (fun q hq hS => by omega) HB5.out.size))
          clear hown6 hgrow6 hbg HT5 HM5 HB5 cc5
          go_roundw
          case rel => exact ⟨k + 1, F5, _, _, by omega, by go_num, HT6.out, HF5, HM6.out, HCU.out.put m, fun z => by
            rw [put_mem, HDS.out, HSN.out, List.mem_append, List.mem_singleton]
            have := HIN.out.1
            constructor
            · rintro (⟨h1, h2⟩ | rfl)
              · exact ⟨.inl h1, h2⟩
              · exact ⟨.inr rfl, this⟩
            · rintro ⟨h1 | rfl, h2⟩
              · exact .inl ⟨h1, h2⟩
              · exact .inr rfl, HB6.out⟩
          case measure => simp [intOf]; omega
        · have hno : ((true && decide (m < 131072)) && !decide (m ∈ l.take k)) = false := by
            rw [Bool.true_and]
            by_cases h1 : m < 131072
            · have h2 : m ∈ l.take k := by
                by_cases h3 : m ∈ l.take k
                · exact h3
                · exact absurd ⟨h1, h3⟩ hin
              rw [decide_eq_true h2, Bool.not_true, Bool.and_false]
            · rw [decide_eq_false h1]; rfl
          rw [hno]
          have HIN := Lib.hid (show m < 131072 → m ∈ l.take k from fun h1 => by
            by_cases h3 : m ∈ l.take k
            · exact h3
            · exact absurd ⟨h1, h3⟩ hin)
          clear hin hno
          go_wp2_with fail
          go_roundw
          case rel => exact ⟨k + 1, F5, D, ds, by omega, by go_num, HT5.out, HF5, HM5.out.mono (by omega), HCU, fun z => by
            rw [HDS.out, HSN.out, List.mem_append, List.mem_singleton]
            have := HIN.out
            constructor
            · rintro ⟨h1, h2⟩; exact ⟨.inl h1, h2⟩
            · rintro ⟨h1 | rfl, h2⟩
              · exact ⟨h1, h2⟩
              · exact ⟨this h2, h2⟩, HB5.out⟩
          case measure => simp [intOf]; omega
      · obtain rfl : k = n := by omega
        have hcan : punAll litC [rt] (l.take k) = canL litC 17 rt l := by rw [List.take_of_length_le (by rw [HL.out]; exact Nat.le_refl _), HRT.out]; exact punAll_root HS.out l
        obtain ⟨X, hX⟩ : ∃ X, X = canL litC 17 rt l := ⟨_, rfl⟩
        have ht := HT.out
        rw [hcan, ← hX] at ht
        have HXV := Lib.hid hX
        have HT2 := Lib.hid ht
        have HXO := Lib.hid ht.ok
        have hds : ∀ z, z ∈ ds ↔ z ∈ l ∧ z < 131072 := fun z => by
          rw [HDS.out, List.take_of_length_le (by rw [HL.out]; exact Nat.le_refl _)]
        have hdr : ∀ z ∈ ds, 0 ≤ z ∧ z < 131072 := fun z hz => ⟨(HZ.out z ((hds z).1 hz).1).1, ((hds z).1 hz).2⟩
        have hXd : X = canL litC 17 rt ds := by
          rw [hX, HRT.out]
          exact can_congr' 17 _ (okS_root HS.out).1 rfl (fun z _ h2 => by rw [hds]; exact ⟨fun h => ⟨h, h2⟩, fun h => h.1⟩)
        have HCN := Lib.hid (show countL X = 131072 - (ds.length : Int) by
          rw [hXd, HRT.out, count_can 17 _ ds (okS_root HS.out).1 rfl HCU.out.nodup, nIn_all hdr]
          have : manyI (0 : Int) = 131072 := by decide
          show manyI 0 - _ = _
          rw [this])
        have HLN := Lib.hid (show X.length ≤ ds.length * 17 + 1 by
          rw [hXd, HRT.out]
          have h := length_can (ci := litC) 17 ⟨0, 0, s⟩ ds (okS_root HS.out).1 rfl
          rwa [nIn_all hdr] at h)
        have HDL := Lib.hid (show ds.length ≤ k by rw [← HCU.out.size]; exact HM.out.size_le)
        have HXN := Lib.hid (show X.length ≤ 65535 by have h1 := HLN.out; have h2 := HDL.out; omega)
        have HHAS := Lib.hid (show ∀ z, Maps.has D (.int .u64 z) = true → z ∈ ds from fun z hz => by rw [HCU.out.has] at hz; simpa using hz)
        have HXH := Lib.hid (show ∀ z, 0 ≤ z → hasI X z = (decide (z < 131072) && !decide (z ∈ ds)) from fun z h0 => by
          rw [hXd, HRT.out, kept_has HS.out, decide_eq_true h0, Bool.true_and])
        have HSZ := Lib.hid HCU.out.size
        have HFW := Lib.hid (show ∀ q, F q → w.heap.size ≤ q from fun q hq => (HF.out q hq).1)
        clear HT ht hcan hX hds hdr hXd HDS HF
        have HT := HT2
        clear HT2
        go_wp2_with fail
        refine (theld_tr HT.out).mono ?_
        rintro e v1 ⟨A1, nA1, cA1, rfl, ho, bw⟩
        have HNA1 := Lib.hid (show X.length = nA1 by have h1 := ho.1; rw [nvs_length (okS_len HXO.out)] at h1; omega)
        have O1 := Lib.hid ho
        have HTx101 := Lib.hid (HT.out.below bw)
        have HMx101 := Lib.hid (map_below HM.out bw)
        have HBx101 := Lib.hid (HB.out.trans (bw.mono HB.out.size))
        clear bw ho HT HM HB
        go_wp2_with fail
        refine (kenc_any A1 nA1 cA1 X _ HNA1.out (okS_len HXO.out) (fun y hy => (okS_mem HXO.out y hy).1.2.2.1) (Nat.le_refl _) (Rd.ownN O1.out) (by have h1 := HXN.out; have h2 := HNA1.out; omega)).mono ?_
        rintro e v2 ⟨bw, ⟨_, Y1, mY1, cY1, rfl, ho⟩ | ⟨hno, _⟩ | ⟨⟨_, hno⟩, _⟩⟩
        rotate_left
        · exact absurd HXO.out hno
        · exact absurd hno (by have h1 := HXN.out; omega)
        have hm := own_blen ho
        have HMY1 := Lib.hid (show mY1 = 2 + 36 * X.length by rw [← hm]; exact encB_length (okS_len HXO.out))
        have HCY1 := Lib.hid (cap_own ho)
        have E1 := Lib.hid ho
        have HTx102 := Lib.hid (HTx101.out.below bw)
        have HMx102 := Lib.hid (map_below HMx101.out bw)
        have HBx102 := Lib.hid (HBx101.out.trans (bw.mono HBx101.out.size))
        have O1x102 := Lib.hid (own_belowN O1.out bw)
        clear bw ho hm HTx101 HMx101 HBx101 O1
        obtain ⟨b, hb⟩ : ∃ b, b = encB X := ⟨_, rfl⟩
        have HOY := Lib.hid (show okY b by rw [hb]; exact okY_encB HXO.out HXN.out)
        have HBL2 := Lib.hid (show b.length = mY1 by rw [hb]; exact own_blen E1.out)
        have E2 := Lib.hid (show v2.ownsRow _ 5 1 (.slice Y1 mY1 cY1) mY1 (bv b) by rw [hb]; exact E1.out)
        have HDB := Lib.hid (show decN (manyY b) (b.drop 2) = X by rw [hb]; exact (dec_encB HXO.out HXN.out).2)
        have hfew : mY1 ≤ 2400000 := by have h1 := HMY1.out; have h2 := HXN.out; omega
        clear hb E1
        go_wp2_with fail
        refine (kdec_any Y1 mY1 cY1 b _ HBL2.out HCY1.out.1 (Nat.le_refl _) (Rd.own E2.out) (by omega)).mono ?_
        rintro e v3 ⟨bw, ⟨_, A3, m3, c3, rfl, ho⟩ | ⟨hno, _⟩⟩
        rotate_left
        · exact absurd HOY.out hno
        rw [HDB.out] at ho
        have HN3 := Lib.hid (show X.length = m3 by have h1 := ho.1; rw [nvs_length (okS_len HXO.out)] at h1; omega)
        have O3 := Lib.hid ho
        have HTx103 := Lib.hid (HTx102.out.below bw)
        have HMx103 := Lib.hid (map_below HMx102.out bw)
        have HBx103 := Lib.hid (HBx102.out.trans (bw.mono HBx102.out.size))
        clear bw ho E2 hfew HTx102 HMx102 HBx102
        obtain ⟨S, hS⟩ : ∃ S, S = ds.length := ⟨_, rfl⟩
        have hSb : S ≤ 20 := by have := HDL.out; omega
        have hm3 : m3 ≤ S * 17 + 1 := by have h1 := HLN.out; have h2 := HN3.out; omega
        have HSD := Lib.hid (show Maps.size D = S by rw [HSZ.out, hS])
        have HCX := Lib.hid (show countL X = 131072 - (S : Int) by rw [HCN.out, hS])
        have HSV := Lib.hid hS
        have hl1 : ∀ ty, (Builtin.len_ #[32] ty #[.map (some w2.heap.size)]).run Tryd.prog v3 = .ok (.int .i64 S) v3 := fun ty => by rw [HMx103.out.len Tryd.underlying32 ty, HSD.out]
        have e4 : IntKind.i64.wrap ((S : Int) * 17) = (S : Int) * 17 := IntWalk.i64_in _ (by omega)
        have e5 : IntKind.i64.wrap ((S : Int) * 17 + 1) = (S : Int) * 17 + 1 := IntWalk.i64_in _ (by omega)
        have e6 : IntKind.i64.wrap (131072 - (S : Int)) = 131072 - (S : Int) := IntWalk.i64_in _ (by omega)
        have hgt : decide ((m3 : Int) > (S : Int) * 17 + 1) = false := decide_eq_false (by omega)
        have hbb : ((131072 - (S : Int)) == (131072 - (S : Int))) = true := beq_self_eq_true _
        have HG3 := Lib.hid (show ∀ j v, zeroLit.toList[j]? = some v → v3.cell? ((⟨0, 0, none⟩ : Addr).add j) = some v from fun j v hv => by
          obtain ⟨ad, e, _, hc⟩ := (HGL.out.below HBx103.out) j v hv
          injection e with e; subst e; exact hc)
        clear hS
        go_wp2_with (first
          | (refine wpList_load_at rfl 31 (.global 0) rfl (⟨0, 0, none⟩ : Addr) rfl HG3.out Tryd.underlying31 rfl HIL.out ?_
             change wpList _ _ _ _ (Act.put _ _ (.agg zeroLit)) _))
        refine (from_any (ci := litC) A3 m3 c3 X _ HN3.out (okS_len HXO.out) (fun y hy => (okS_mem HXO.out y hy).1.2.2.1) (Nat.le_refl _) (Rd.ownN O3.out) (by have h1 := HXN.out; have h2 := HN3.out; omega)).mono ?_
        rintro e v4 ⟨⟨_, g2, F2, rfl, ht2, hF2⟩ | ⟨hnot, _⟩, bw⟩
        rotate_left
        · exact absurd HXO.out hnot
        have HT2 := Lib.hid ht2
        have HTx104 := Lib.hid (HTx103.out.below bw)
        have HMx104 := Lib.hid (map_below HMx103.out bw)
        have HBx104 := Lib.hid (HBx103.out.trans (bw.mono HBx103.out.size))
        have O3x104 := Lib.hid (own_belowN O3.out bw)
        clear bw ht2 hF2 hl1 HG3 HTx103 HMx103 HBx103 O3
        go_wp2_with fail
        refine (tcount_tr HT2.out).mono ?_
        rintro e v5 ⟨rfl, bw⟩
        rw [HCX.out]
        have HTx105 := Lib.hid (HTx104.out.below bw)
        have HMx105 := Lib.hid (map_below HMx104.out bw)
        have HBx105 := Lib.hid (HBx104.out.trans (bw.mono HBx104.out.size))
        have HT2x105 := Lib.hid (HT2.out.below bw)
        clear bw HTx104 HMx104 HBx104 HT2
        have hl2 : ∀ ty, (Builtin.len_ #[32] ty #[.map (some w2.heap.size)]).run Tryd.prog v5 = .ok (.int .i64 S) v5 := fun ty => by rw [HMx105.out.len Tryd.underlying32 ty, HSD.out]
        obtain ⟨ok, hok⟩ : ∃ ok, ok = hasI X q := ⟨_, rfl⟩
        obtain ⟨ka, hka⟩ : ∃ ka, ka = keyK litC X q := ⟨_, rfl⟩
        have ha3 : ka.length = 32 := by rw [hka]; exact keyK_length (okS_len HXO.out) q
        have HA3 := Lib.hid ha3
        have HIA : Hid ((Tryd.prog.info? 23).map (·.size) = some (bva ka).size) := by rw [bva_size, ha3]; exact info_keyL
        have HQC := Lib.hid (show (decide (q < 131072) = false ∧ ok = false) ∨ (decide (q < 131072) = true ∧ decide (q ∈ ds) = true ∧ ok = false) ∨ (decide (q < 131072) = true ∧ decide (q ∈ ds) = false ∧ ok = true) by
          rw [hok, HXH.out q q0]
          cases decide (q < 131072) <;> cases decide (q ∈ ds) <;> simp)
        have HOKV := Lib.hid hok
        have HKA := Lib.hid hka
        have heq : ∀ W, (Op.equalIn 10000 23 (.agg (bva ka)) (.agg (bva ka))).run Tryd.prog W = .ok true W := fun W => by rw [eq_key ka ka ha3 ha3 W, decide_eq_true rfl]
        have hob : (ok == ok) = true := beq_self_eq_true ok
        clear hok hka ha3
        go_wp2_with fail
        refine (tkey_tr HTx105.out q).mono ?_
        rintro e v6 ⟨rfl, bw⟩
        rw [keyV_form, ← HKA.out, ← HOKV.out]
        have HTx106 := Lib.hid (HTx105.out.below bw)
        have HMx106 := Lib.hid (map_below HMx105.out bw)
        have HBx106 := Lib.hid (HBx105.out.trans (bw.mono HBx105.out.size))
        have HT2x106 := Lib.hid (HT2x105.out.below bw)
        clear bw hl2 HTx105 HMx105 HBx105 HT2x105
        go_wp2_with (refine wpList_store_row rfl 23 (.tmp 16) (.tmp 95) rfl v6.heap.size (bva ka) rfl rfl 23 (bva zz) (heap_alloc_new _ _) HIA.out (by rw [bva_size, bva_size, HA3.out, ZZ3.out]) (bva_one _) ?_
                     generalize hwx : World.setRow _ _ _ = wx107
                     have EB : Below v6.heap.size v6 wx107 := by rw [← hwx]; exact below_setRow ((Below.refl _ _).alloc (Nat.le_refl _) _) (Nat.le_refl _) _
                     have PAxn107 := Lib.hid (show Blk wx107 v6.heap.size (bva ka) 23 by rw [← hwx]; exact setRow_heap _ _ _ _ _ _ (heap_alloc_new _ _))
                     have HTx108 := Lib.hid (HTx106.out.below EB)
                     have HMx108 := Lib.hid (map_below HMx106.out EB)
                     have HBx108 := Lib.hid (HBx106.out.trans (EB.mono HBx106.out.size))
                     have HT2x108 := Lib.hid (HT2x106.out.below EB)
                     clear hwx EB HTx106 HMx106 HBx106 HT2x106)
        refine (tkey_tr HT2x108.out q).mono ?_
        rintro e v7 ⟨rfl, bw⟩
        rw [keyV_form, ← HKA.out, ← HOKV.out]
        have HTx109 := Lib.hid (HTx108.out.below bw)
        have HMx109 := Lib.hid (map_below HMx108.out bw)
        have HBx109 := Lib.hid (HBx108.out.trans (bw.mono HBx108.out.size))
        have HT2x109 := Lib.hid (HT2x108.out.below bw)
        have PAx109 := Lib.hid (PAxn107.out.below bw)
        clear bw HTx108 HMx108 HBx108 HT2x108 PAxn107
        go_wp2_with (first
          | (refine wpList_store_row rfl 23 (.tmp 18) (.tmp 101) rfl v7.heap.size (bva ka) rfl rfl 23 (bva zz) (heap_alloc_new _ _) HIA.out (by rw [bva_size, bva_size, HA3.out, ZZ3.out]) (bva_one _) ?_
             generalize hwx : World.setRow _ _ _ = wx110
             have EB : Below v7.heap.size v7 wx110 := by rw [← hwx]; exact below_setRow ((Below.refl _ _).alloc (Nat.le_refl _) _) (Nat.le_refl _) _
             have PBxn110 := Lib.hid (show Blk wx110 v7.heap.size (bva ka) 23 by rw [← hwx]; exact setRow_heap _ _ _ _ _ _ (heap_alloc_new _ _))
             have HTx111 := Lib.hid (HTx109.out.below EB)
             have HMx111 := Lib.hid (map_below HMx109.out EB)
             have HBx111 := Lib.hid (HBx109.out.trans (EB.mono HBx109.out.size))
             have HT2x111 := Lib.hid (HT2x109.out.below EB)
             have PAx111 := Lib.hid (PAx109.out.below EB)
             clear hwx EB HTx109 HMx109 HBx109 HT2x109 PAx109)
          | (at_range
             refine wpList_range_own _ rfl _ 32 rfl 25 4 law64 Tryd.underlying32 (boolP Tryd.prog) w2.heap.size k D rfl HMx111.out ?_
             intro w0 hrg0 hg0 hs0
             have RG := Lib.hid hrg0
             have GB := Lib.hid hg0
             clear hrg0 hg0))
        try go_frame
        have hpa := PAx111.out.lt
        have hpb := PBxn110.out.lt
        have hpm := HMx111.out.lt
        have HF2 := Lib.hid HT2x111.out.lt
        obtain ⟨rb, hrb⟩ : ∃ z, z = wx110.heap.size := ⟨_, rfl⟩
        rw [← hrb] at RG hpa hpb hpm HF2 ⊢
        have hwrb : w.heap.size ≤ rb := by rw [hrb]; exact HBx111.out.size
        have bw := below_of_grown GB.out
        have HTx112 := Lib.hid (HTx111.out.below bw)
        have HMx112 := Lib.hid (map_below HMx111.out bw)
        have HBx112 := Lib.hid (HBx111.out.trans (bw.mono HBx111.out.size))
        have HT2x112 := Lib.hid (HT2x111.out.below bw)
        have PAx112 := Lib.hid (PAx111.out.below bw)
        have PBx112 := Lib.hid (PBxn110.out.below bw)
        clear bw GB hrb hs0 HTx111 HMx111 HBx111 HT2x111 PAx111 PBxn110
        go_loopw [20] (fun _ wq => ∃ left cnt, wq.ranges Tryd.prog 25 (boolP Tryd.prog) w2.heap.size rb k D left cnt ∧ Hid (∀ z, left (.int .u64 z) = true → z ∈ ds) ∧ Tr litC wq g2 X F2 ∧ wq.ownsMap Tryd.prog 25 (boolP Tryd.prog) w2.heap.size k D ∧ Blk wq v6.heap.size (bva ka) 23 ∧ Blk wq v7.heap.size (bva ka) 23 ∧ Below w.heap.size w wq) (fun _ wq => wq.rangeLeft w2.heap.size rb)
        case atStart => exact ⟨_, _, RG.out, HHAS.out, HT2x112.out, HMx112.out, PAx112.out, PBx112.out, HBx112.out⟩
        case round =>
          clear RG HT2x112 HMx112 PAx112 PBx112 HBx112 HTx112
          obtain ⟨left, cnt, hrg, HLF, htq, hmq, hpaq, hpbq, hbq⟩ := hrel
          have RGQ := Lib.hid hrg
          have HTQ := Lib.hid htq
          have HMQ := Lib.hid hmq
          have PAQ := Lib.hid hpaq
          have PBQ := Lib.hid hpbq
          have EBQ := Lib.hid hbq
          have hlq : (Instr.lookup 32 (.map (some w2.heap.size)) (.int .u64 q) false).run Tryd.prog wr = .ok (.bool (decide (q ∈ ds))) wr := cut_look hmq HCU.out q HQ.out
          have HFC := Lib.hid (show ∀ z kl, keyOf Tryd.prog 25 (.int .u64 z) = some kl → left kl = true → kl = .int .u64 z ∧ hasI X z = false from fun z kl h1 h2 => by
            obtain ⟨z', e1, e2, hw⟩ := Maps.keyOf_int_inv Tryd.underlying25 h1
            injection e1 with _ e1
            subst e1
            rw [e2] at h2
            refine ⟨e2, ?_⟩
            rw [HXH.out z (bounds_u64 hw).1, decide_eq_true (HLF.out z h2), Bool.not_true, Bool.and_false])
          clear hrg htq hmq hpaq hpbq hbq
          go_wp2_with (first
            | (at_next
               refine wpList_next_ranges _ rfl _ rfl 25 law64 (boolP Tryd.prog) (Value.int .u64) Value.bool (fun key kl h => by obtain ⟨z, rfl, _⟩ := Maps.keyOf_int_inv Tryd.underlying25 h; exact ⟨z, rfl⟩) (fun v y h => boolR_inv h) w2.heap.size rb k D left cnt rfl RGQ.out (fun hc0 hl0 => ?_) (fun z c kl y w4 cnt4 hkey hlk hv hat hrg1 hlt1 hg1 hs1 hen => ?_)
               rotate_left
               obtain ⟨rfl, hza⟩ := HFC.out z kl hkey hlk
               have HZA := Lib.hid hza
               have hbg := but_of_grown (S := (· = rb)) hg1 (fun q hq => by injection hq with hq; exact hq.symm)
               have HT4 := Lib.hid (HTQ.out.but hbg (fun q hq hS => by have := HF2.out q hq; omega))
               have HM4 := Lib.hid (map_but HMQ.out hbg (by omega))
               have PA4 := Lib.hid (PAQ.out.but hbg (by omega))
               have PB4 := Lib.hid (PBQ.out.but hbg (by omega))
               have EB4 := Lib.hid (EBQ.out.trans (hbg.below (B := w.heap.size) (fun q hq hS => by omega) EBQ.out.size))
               have RG4 := Lib.hid hrg1
               have hlt4 := hlt1
               clear hkey hlk hv hat hrg1 hlt1 hg1 hs1 hza hbg
               rotate_left
               rcases HQC.out with ⟨dq, rfl⟩ | ⟨dq, hd2, rfl⟩ | ⟨dq, hd2, rfl⟩
               rotate_left
               rw [hd2] at hlq
               rotate_left
               rw [hd2] at hlq
               rotate_left)
            | (refine wpList_load_row rfl 23 (.tmp 16) rfl v6.heap.size rfl 23 (bva ka) (0, 0) _ PAQ.out Tryd.underlying23 rfl HIA.out ?_)
            | (refine wpList_load_row rfl 23 (.tmp 18) rfl v7.heap.size rfl 23 (bva ka) (0, 0) _ PBQ.out Tryd.underlying23 rfl HIA.out ?_))
          · refine (thas_tr HT4.out z).mono ?_
            rintro e w5 ⟨rfl, bw⟩
            rw [HZA.out]
            have HT5 := Lib.hid (HT4.out.below bw)
            have HM5 := Lib.hid (map_below HM4.out bw)
            have PA5 := Lib.hid (PA4.out.below bw)
            have PB5 := Lib.hid (PB4.out.below bw)
            have RG5 := Lib.hid (RG4.out.kept (row := none) (grown_of_below bw) (by simp) (by simp))
            have EB5 := Lib.hid (EB4.out.trans (bw.mono EB4.out.size))
            clear bw
            go_wp2_with fail
            go_roundw
            case rel => exact ⟨_, cnt4, RG5.out, fun z' h => HLF.out z' (by rw [Bool.and_eq_true] at h; exact h.1), HT5.out, HM5.out, PA5.out, PB5.out, EB5.out⟩
            case measure => rw [RG5.out.left_eq, RGQ.out.left_eq]; exact hlt4
          · go_ret
            exact ⟨rfl, EBQ.out⟩
          · go_ret
            exact ⟨rfl, EBQ.out⟩
          · go_ret
            exact ⟨rfl, EBQ.out⟩
  · have hd : decide ((n : Int) > 20) = true := decide_eq_true (by omega)
    go_enter Tryd.func3, Tryd.ntmps3
    go_wp2_with fail
    refine (topAwake_any _).mono ?_
    rintro e w1 ⟨rfl, bw⟩
    have CB := Lib.hid (BB.out.trans (bw.mono BB.out.size))
    clear bw B1 BB
    go_wp2_with fail
    go_ret
    exact ⟨rfl, CB.out⟩
end Go.Proofs.YtippbjpodnnhiaaDoor
/-
  What the listed package variable gives the walk: its cells.
-/
namespace Go.Proofs.YtippbjpodnnhiaaDoor
open Go.RowKit Go.ChangeShapes Go.WideShapes Go.ChangeAt
open Kg Kc
section
variable {H : Type} {enc : TypeId × Value → H} {P : Program} {w : World} {base : Nat} {spare : Nat → Bool} {held : Bool} {fuel : Nat} {t : TypeId} {cs : List Value} {p : List MemPlace}
theorem one_of_take {i : Nat} {v : Value} (h : (cs.drop i).take 1 = [v]) : cs[i]? = some v := by
  have h1 : ((cs.drop i).take 1)[0]? = some v := by rw [h]; rfl
  rw [List.getElem?_take_of_lt (by omega), List.getElem?_drop] at h1
  exact h1
theorem int_zero {k : IntKind} {n : Int} (ht : P.underlying t = some (.int k)) (h : DataW.trod enc P w base spare held fuel t cs = some (.lit (.int k n), p)) : cs = [.int k n] := by
  obtain ⟨m, h1, h2, _⟩ := DataW.trod_int ht h
  injection h2 with h2 _
  injection h2 with h2
  injection h2 with _ h2
  rw [h1, h2]
theorem arr_zero {n : Nat} {e : TypeId} (ht : P.underlying t = some (.array n e)) (he : P.underlying e = some (.int .u8)) (hc : P.cellsOf e = 1) (hn : P.cellsOf t = n)
    (h : DataW.trod enc P w base spare held fuel t cs = some (.agg (List.replicate n (.lit (.int .u8 0))), p)) : cs = List.replicate n (.int .u8 0) := by
  obtain ⟨xs, m, _, hx, hl, hlen, hel⟩ := DataW.trod_array ht h
  injection hx with hx _
  injection hx with hx
  rw [hn] at hl
  apply List.ext_getElem?
  intro i
  by_cases hi : i < n
  · have h1 := hel i hi
    rw [hc, Nat.mul_one] at h1
    have h2 : (xs.map (·.1))[i]? = some (.lit (.int .u8 0)) := by rw [← hx, List.getElem?_replicate, if_pos hi]
    rw [List.getElem?_map, Option.map_eq_some_iff] at h2
    obtain ⟨y, hy, hy1⟩ := h2
    rw [hy] at h1
    obtain ⟨y1, y2⟩ := y
    simp only at hy1
    subst hy1
    rw [one_of_take (int_zero he h1), List.getElem?_replicate, if_pos hi]
  · rw [List.getElem?_eq_none (by omega), List.getElem?_eq_none (by simp; omega)]
end
theorem gLit : Tryd.prog.globalNamed "erewhile/erewhiletop.lit" = some 0 := by kernel_rfl
theorem tLit : (Tryd.prog.globals[0]?).map (·.type) = some 31 := by kernel_rfl
theorem zeroLit_parts : zeroLit.toList = List.replicate 32 (.int .u8 0) ++ ([.int .u64 0] ++ List.replicate 32 (.int .u8 0))  := rfl
set_option maxRecDepth 100000 in
theorem lit_cells {w : World} {fuel : Nat} {cs : List Value} {p : List MemPlace} (h : DataW.trod (fun _ => ()) Tryd.prog w 0 (fun _ => true) false fuel 31 cs = some (Rows.laid_erewhile_erewhiletop_lit, p)) : cs = zeroLit.toList := by
  obtain ⟨xs, m, _, hx, hl, hlen, hf⟩ := DataW.trod_struct Tryd.underlying31 h
  have hl' : cs.length = 65 := by rw [hl]; kernel_rfl
  injection hx with hx _
  unfold Rows.laid_erewhile_erewhiletop_lit at hx
  injection hx with hx
  have hlen' : xs.length = 3 := hlen
  match xs, hlen', hx, hf with
  | [⟨x0, p0⟩, ⟨x1, p1⟩, ⟨x2, p2⟩], _, hx, hf =>
    simp only [List.map_cons, List.map_nil, List.cons.injEq, and_true] at hx
    obtain ⟨e0, e1, e2⟩ := hx
    have f0 : DataW.trod (fun _ => ()) Tryd.prog w 0 (fun _ => true) false m 23 ((cs.drop 0).take (Tryd.prog.cellsOf 23)) = some (x0, p0) := hf 0 _ rfl
    have f1 : DataW.trod (fun _ => ()) Tryd.prog w 0 (fun _ => true) false m 25 ((cs.drop 32).take (Tryd.prog.cellsOf 25)) = some (x1, p1) := hf 1 _ rfl
    have f2 : DataW.trod (fun _ => ()) Tryd.prog w 0 (fun _ => true) false m 29 ((cs.drop 33).take (Tryd.prog.cellsOf 29)) = some (x2, p2) := hf 2 _ rfl
    have k0 : Tryd.prog.cellsOf 23 = 32 := by kernel_rfl
    have k1 : Tryd.prog.cellsOf 25 = 1 := by kernel_rfl
    have k2 : Tryd.prog.cellsOf 29 = 32 := by kernel_rfl
    rw [← e0] at f0
    rw [← e1] at f1
    rw [← e2] at f2
    have c0 := arr_zero (n := 32) (e := 5) Tryd.underlying23 Tryd.underlying5 (by kernel_rfl) k0 f0
    have c1 := int_zero Tryd.underlying25 f1
    have c2 := arr_zero (n := 32) (e := 5) Tryd.underlying29 Tryd.underlying5 (by kernel_rfl) k2 f2
    rw [k0, List.drop_zero] at c0
    rw [k1] at c1
    rw [k2] at c2
    have a1 : cs = cs.take 32 ++ cs.drop 32 := (List.take_append_drop 32 cs).symm
    have a2 : cs.drop 32 = (cs.drop 32).take 1 ++ (cs.drop 32).drop 1 := (List.take_append_drop 1 _).symm
    have a3 : (cs.drop 32).drop 1 = cs.drop 33 := by rw [List.drop_drop]
    have a4 : (cs.drop 33).take 32 = cs.drop 33 := List.take_of_length_le (by rw [List.length_drop]; omega)
    rw [a1, a2, a3, ← a4, c0, c1, c2, zeroLit_parts]
/-- What the listed variable gives the walk. -/
theorem of_laid {W : World} (h : laidMetH Tryd.prog Rows.wholeKeptRow.laid W) : Rd W.heap.size W (some ⟨0, 0, none⟩) zeroLit.toList := by
  rw [MakeChecks.laidMetH_plain _ _ _ (by kernel_rfl)] at h
  obtain ⟨ps, ⟨g0, t0, cs0, f0, p0, q0, hg0, ht0, hv0, hd0, _, _⟩, _, _⟩ := h
  obtain rfl := Option.some.inj (gLit.symm.trans hg0)
  obtain rfl := Option.some.inj (tLit.symm.trans ht0)
  have hcs := lit_cells hd0
  intro j v hv
  have hc := World.var?_cell hg0 hv0 j
  rw [← Array.getElem?_toList, hcs, hv] at hc
  refine ⟨⟨0, 0, none⟩, rfl, ?_, ?_⟩
  · show 0 < W.heap.size
    rcases Nat.eq_zero_or_pos W.heap.size with h0 | h0
    · exfalso
      simp only [World.cell?, Array.getElem?_eq_none (show W.heap.size ≤ 0 by omega)] at hc
      exact absurd hc (by simp)
    · exact h0
  · rw [Addr.add_mid, Nat.zero_add]; exact hc
end Go.Proofs.YtippbjpodnnhiaaDoor
/-
  WholeKept: the frame of its row, whose package variable reads as listed; and its card, tied to the program's text.
-/
namespace Go.Proofs.YtippbjpodnnhiaaDoor
open Go.RowKit Go.ChangeShapes Go.WideShapes Go.ChangeAt
open Kg Kc
theorem wholeKept_own : ownKnob Tryd.prog.godebug = none := by kernel_rfl
theorem wholeKept_laid : laidOutB Tryd.prog = true := by kernel_rfl
/-- The heap that the program's own start leaves meets the condition. -/
theorem wholeKept_door (os : Os) (args : Array Value) : laidMetH Tryd.prog Rows.wholeKeptRow.laid ((World.doorLaid Tryd.prog 14 os).forCall (fun _ _ => 0) ⟨#[], args, []⟩).memory :=
  laidMetH_of_parts3 (fuel := 8) (laidMet_of_run' 8 (by kernel_rfl) (by kernel_rfl)) (by kernel_rfl) (by kernel_rfl)
set_option maxRecDepth 100000 in
theorem wholeKept_lifted (os : Os) (started : os.Started) (H : Type) (enc : TypeId × Value → H) :
    ReturnsInHanded {} Tryd.checked os 3 .any (fun w args => (Rows.wholeKeptSpec.pre enc Tryd.prog Tryd.f3 [] false w args ∧ laidMetH Tryd.prog Rows.wholeKeptRow.laid w) ∧ sizedMet enc Tryd.prog Tryd.f3 (OpenSpec.ofChange Rows.wholeKeptSpec) false w args)
      (Rows.wholeKeptSpec.post enc Tryd.prog Tryd.f3 false true false false) := by
  refine returnsInHanded_of_change_and (C := Tryd.checked) (X := fun w _ => laidMetH Tryd.prog Rows.wholeKeptRow.laid w) (fun _ _ _ hh h => h.of_heap hh) wholeKept_own started (by kernel_rfl) Tryd.func3
    (ChangeSpec.witness_shaped (enc := enc) (C := Tryd.checked) (os := os) (X := fun w _ => laidMetH Tryd.prog Rows.wholeKeptRow.laid w) false (World.doorLaid Tryd.prog 14 os) #[.agg #[.int .u8 0, .int .u8 0, .int .u8 0, .int .u8 0, .int .u8 0, .int .u8 0, .int .u8 0, .int .u8 0, .int .u8 0, .int .u8 0, .int .u8 0, .int .u8 0, .int .u8 0, .int .u8 0, .int .u8 0, .int .u8 0, .int .u8 0, .int .u8 0, .int .u8 0, .int .u8 0, .int .u8 0, .int .u8 0, .int .u8 0, .int .u8 0, .int .u8 0, .int .u8 0, .int .u8 0, .int .u8 0, .int .u8 0, .int .u8 0, .int .u8 0, .int .u8 0], .slice none 0 0, .int .u64 0] 8 rfl (World.shaped_of_RefB (by kernel_rfl) (by kernel_rfl)) (by kernel_rfl) (by kernel_rfl) (by kernel_rfl) (wholeKept_door os _)) ?_
  intro W base args ds gs before hval0 hW _ _ hL _
  have hval : ∀ (j : Nat) t v, Tryd.f3.params[j]? = some t → args[j]? = some v → Value.okWide Tryd.prog W .any base t v := hval0
  have hW' := hW
  obtain ⟨p, q, hA0, hV, rfl, hfz, hnd⟩ := hW
  have hA : DataW.TrodAll enc Tryd.prog W 0 (fun _ => true) true Tryd.f3.params.toList args.toList ds p := hA0
  rw [Tryd.params3] at hA hval
  obtain ⟨v0, vs0, d0, ds0, p0, q0, hargs, rfl, rfl, h0, r0⟩ := trodAll_cons hA
  obtain ⟨v1, vs1, d1, ds1, p1, q1, rfl, rfl, rfl, h1, r1⟩ := trodAll_cons r0
  obtain ⟨v2, vs2, d2, ds2, p2, q2, rfl, rfl, rfl, h2, r2⟩ := trodAll_cons r1
  obtain ⟨rfl, rfl, rfl⟩ := trodAll_nil r2
  obtain rfl : args = #[v0, v1, v2] := by cases args; simp_all
  obtain ⟨rfl, rfl⟩ := trodVars_none hV
  have lt0 : ∀ x ∈ p0, x.block < W.heap.size := by obtain ⟨m, hm⟩ := h0; exact DataW.trod_lt m _ _ _ hm
  obtain ⟨l0, hl0, rfl⟩ := open_u8s Tryd.underlying23 Tryd.underlying5 (by kernel_rfl) (by kernel_rfl) (hval 0 23 v0 rfl rfl) h0
  obtain ⟨a1, n1, c1, rfl⟩ := okWide_slice Tryd.underlying24 (hval 1 24 v1 rfl rfl)
  have lt1 : ∀ x ∈ p1, x.block < W.heap.size := by obtain ⟨m, hm⟩ := h1; exact DataW.trod_lt m _ _ _ hm
  obtain ⟨l1, hl1, hc1, hm1, hr1, hz1⟩ := open_u64s Tryd.underlying24 Tryd.underlying25 (by kernel_rfl) h1
  obtain ⟨a2, rfl, rfl, rfl, w2⟩ := open_int Tryd.underlying25 (hval 2 25 v2 rfl rfl) h2
  have b2 := bounds_u64 w2
  clear hA0 hval0
  refine (wholeKept_any W (of_laid hL) l0 hl0 a1 n1 c1 l1 hl1 hc1 hm1 hr1 hz1 a2 b2).mono fun e W' ⟨he, bel⟩ => ?_
  subst he
  exact ⟨_, rfl, _, _, _, [], _, [], hW', trodAll_mk1 (shut_bool Tryd.underlying4 _), (trodAll_cons_mk (Below.trod wholeKept_laid (by kernel_rfl) (of_decide_eq_true (by kernel_rfl)) h0 bel lt0) (trodAll_cons_mk (Below.trod wholeKept_laid (by kernel_rfl) (of_decide_eq_true (by kernel_rfl)) h1 bel lt1) (trodAll_cons_mk (shut_int Tryd.underlying25 w2) trodAll_mk0))), rfl, bel.frame _, fun h => by cases h⟩

theorem wholeKept_holds : Rows.WholeKeptSaid :=
  OpenClaim.holds_of_wide 3 Tryd.f3 rfl rfl rfl rfl rfl rfl rfl ⟨rfl, rfl, rfl, rfl, rfl⟩ rfl rfl rfl rfl rfl (by kernel_rfl) Tryd.func3 (by kernel_rfl)
    (of_decide_eq_true (by kernel_rfl)) (by unfold Func.isWrapper; rw [if_neg (of_decide_eq_false (by kernel_rfl))]; exact ⟨rfl, rfl⟩)
    (fun os started H enc _ => wholeKept_lifted os started H enc)
theorem wholeKept_card_holds : Rows.WholeKeptCardSaid :=
  Claim7.holds_tied_plain_at .later [] [.data] true (true, "2b988fa52cdb99bfd476ee12cf322eccb91f1b51489fad6d2c870be75ebe8551") false
    wholeKept_holds (fun _ h => by cases h) (by kernel_rfl) (fun _ h => by cases h) wholeKept_row_tie rfl ⟨rfl, rfl⟩ (by kernel_rfl) rfl
    (fun f fn hf hfn => by
      obtain rfl : f = 3 := Option.some.inj ((show Tryd.prog.funcNamed "erewhile/erewhiletop.WholeKept" = some 3 by kernel_rfl).symm.trans hf) |>.symm
      obtain rfl : fn = Tryd.f3 := (Option.some.inj (Tryd.func3.symm.trans hfn)).symm
      exact ⟨by kernel_rfl, fun j t ht => by
        rw [Tryd.params3] at ht
        have h3 : t = 23 ∨ t = 24 ∨ t = 25 := by
          rcases j with _ | _ | _ | j
          · exact .inl (by simpa using ht.symm)
          · exact .inr (.inl (by simpa using ht.symm))
          · exact .inr (.inr (by simpa using ht.symm))
          · simp at ht
        rcases h3 with rfl | rfl | rfl
        · exact (show Tryd.prog.wantsStandIn 23 = false by kernel_rfl)
        · exact (show Tryd.prog.wantsStandIn 24 = false by kernel_rfl)
        · exact (show Tryd.prog.wantsStandIn 25 = false by kernel_rfl)⟩)
    (by kernel_rfl)
#print axioms wholeKept_card_holds
end Go.Proofs.YtippbjpodnnhiaaDoor
