/-
  Whatever leaves are punctured, one behind the other: each answer, what is held, and any leaf's key, are the document's; for every seed, every row of at most 24 numbers (a longer one comes out true unasked) and every number that is asked.
-/
import Derived.Test.YtkfcllcdkgnfbaaKtLaw
import Derived.Test.YtkfcllcdkgnfbaaRows
import Derived.Test.YtkfcllcdkgnfbaaOpen
import Derived.Test.YtkfcllcdkgnfbaaOpenA
import Derived.ProofKit
import Derived.OpenShut
import Derived.ShutString
import Derived.ChangeOld
namespace Go.Proofs.Ytkfcllcdkgnfbaa
open Go.RowKit Go.ChangeShapes Go.WideShapes Go.ChangeAt
open Kt
attribute [local go_sem ↓] Go.wp_at_zero Go.wp_at_succ
set_option maxRecDepth 100000 in
set_option maxHeartbeats 6400000 in
theorem keytreePlays_any (w : World) (s : List UInt8) (hs : s.length = 32) (A : Option Addr) (n c : Nat) (l : List Int) (hl : l.length = n) (hc : n ≤ c) (hm : c ≤ maxLen) (hr : Rd w.heap.size w A (iv64 l)) (hz : ∀ z ∈ l, 0 ≤ z ∧ z ≤ 18446744073709551615) (a : Int) (ha : 0 ≤ a ∧ a ≤ 18446744073709551615) :
    Calls Try.prog 3 #[.agg (bva s), .slice A n c, .int .u64 a] w (RetB (.bool true) w) := by
  have HL := Lib.hid hl
  have HR := Lib.hid hr
  have HZ := Lib.hid hz
  have HA := Lib.hid ha
  have HS := Lib.hid hs
  have HK : Hid ((Try.prog.info? 23).map (·.size) = some (bva s).size) := by rw [bva_size, hs]; exact info_keyL
  have HKB : Hid ((Try.prog.info? 23).map (·.size) = some (bv s).length) := by rw [bv_length, hs]; exact info_keyL
  have B1 := Lib.hid (show Blk (w.alloc (.cells (bva s) 23)) w.heap.size (bva s) 23 from heap_alloc_new _ _)
  have BB := Lib.hid (show Below w.heap.size w (w.alloc (.cells (bva s) 23)) from (Below.refl _ _).alloc (Nat.le_refl _) _)
  have hcm : n ≤ 9223372036854775807 := by unfold maxLen at hm; omega
  clear hl hr hz ha hs hc hm
  by_cases h24 : n ≤ 24
  · have hd : decide ((n : Int) > 24) = false := decide_eq_false (by omega)
    clear hcm
    go_enter Try.func3, Try.ntmps3
    go_wp2_with fail
    refine (ktAwake_any _).mono ?_
    rintro e w1 ⟨rfl, bw⟩
    have C1 := Lib.hid (B1.out.below bw)
    have CB := Lib.hid (BB.out.trans (bw.mono BB.out.size))
    clear bw B1 BB
    go_wp2_with fail
    obtain ⟨rt, hrt⟩ : ∃ rt : Nd, rt = ⟨0, 0, s⟩ := ⟨_, rfl⟩
    have hr3 : rt.s.length = 32 := by rw [hrt]; exact HS.out
    have HBN := Lib.hid (show ∀ W, (Instr.build 32 #[(2, .agg (bva s))]).run Try.prog W = .ok (.agg (ndC rt)) W from fun W => by rw [hrt]; exact build_nodeS s HS.out W)
    have HR3 := Lib.hid hr3
    have HRT := Lib.hid hrt
    obtain ⟨ie, hie, hz0, hz1, hz2⟩ := info_parts info_nodeW
    clear hrt hr3
    apply by_rest (R := fun X Y w' => (∃ F, Tr w' X [rt] F ∧ (∀ k, F k → w.heap.size ≤ k) ∧ ¬ F Y) ∧ w'.ownsRow w.heap.size 32 34 (.slice (some ⟨Y, 0, none⟩) 1 1) 1 (nvs [rt]) ∧ Below w.heap.size w w')
    case ways =>
      intro hG
      refine wp_region_held_drew (S := fun w' => Below w1.heap.size w1 w') (by kernel_rfl) (Below.refl _ _).drew (fun hh => ?_)
      have HH := Lib.hid hh
      clear hh
      refine wpAnyH_take (i := 0) (v := ?va0) rfl (by kernel_rfl) (by kernel_rfl) (by kernel_rfl) (fun _ _ _ h => h) (Or.inl ⟨by rfl, fun w' _ => ?ya0⟩) HH.out ?_
      case ya0 => (go_simp; try with_reducible rfl)
      try simp only [List.getElem_toArray, List.getElem_cons_zero, Act.put, List.setIfInBounds_toArray, List.set_cons_zero, List.set_cons_succ]
      refine wpAnyH_take (i := 1) (v := .iface 30 (.agg #[])) rfl (by kernel_rfl) (by kernel_rfl) (by kernel_rfl) (fun _ _ _ h => h) (Or.inl ⟨by rfl, fun w' _ => ?ya1⟩) HH.out ?_
      case ya1 => (go_simp; try with_reducible rfl)
      try simp only [List.getElem_toArray, List.getElem_cons_succ, List.getElem_cons_zero, Act.put, List.setIfInBounds_toArray, List.set_cons_zero, List.set_cons_succ]
      refine wpAnyH_take (i := 2) (v := .agg (bva s)) rfl (by kernel_rfl) (by kernel_rfl) (by kernel_rfl) (fun _ _ _ h => h) (Or.inl ⟨by rfl, fun w' hw' => ?ya2⟩) HH.out ?_
      case ya2 => exact exec_load 23 (.tmp 3) rfl rfl (C1.out.below hw') Try.underlying23 rfl HK.out
      refine wpAnyH_take (i := 4) (v := .agg (bva s)) rfl (by kernel_rfl) (by kernel_rfl) (by kernel_rfl) (fun _ _ _ h => h) (Or.inl ⟨by rfl, fun w' hw' => ?ya4⟩) HH.out ?_
      case ya4 => exact exec_load 23 (.tmp 3) rfl rfl (C1.out.below hw') Try.underlying23 rfl HK.out
      try simp only [List.getElem_toArray, List.getElem_cons_succ, List.getElem_cons_zero, Act.put, List.setIfInBounds_toArray, List.set_cons_zero, List.set_cons_succ]
      refine wpAnyH_take (i := 5) (v := .agg (ndC rt)) rfl (by kernel_rfl) (by kernel_rfl) (by kernel_rfl) (fun _ _ _ h => h) (Or.inl ⟨by rfl, fun w' _ => ?ya5⟩) HH.out ?_
      case ya5 =>
        refine exec_build 32 #[(2, .tmp 28)] rfl ?_
        simp only [List.map_toArray, List.map_cons, List.map_nil]
        show (Instr.build 32 #[(2, .agg (bva s))]).run Try.prog _ = _
        exact HBN.out _
      try simp only [List.getElem_toArray, List.getElem_cons_succ, List.getElem_cons_zero, Act.put, List.setIfInBounds_toArray, List.set_cons_zero, List.set_cons_succ]
      have hsd : w1.drew.heap.size = w1.heap.size := rfl
      have hh2 := HH.out
      clear HH
      generalize w1.drew = wd at *
      have HH := Lib.hid hh2
      have HSD := Lib.hid hsd
      clear hh2 hsd
      refine wpAnyH_ready (rs := [3, 6]) (by kernel_rfl) (by simp) (AllReadyH.cons rfl (fun K hK => ?_) (AllReadyH.cons rfl (fun K hK => ?_) AllReadyH.nil))
      · go_simp
        refine (new_any s HS.out _).mono ?_
        rintro e w2 ⟨⟨g, F, rfl, ht, hF⟩, bw⟩
        go_simp
        rw [← HRT.out] at ht
        have hsz2 := bw.size
        refine hK.out _ _ (HH.out.trans (bw.mono HH.out.size)) (fun hh => ?_)
        have HH' := Lib.hid hh
        clear hh hK K HH
        have HH := Lib.hid HH'.out
        clear HH'
        try simp only [List.getElem_toArray, List.getElem_cons_succ, List.getElem_cons_zero, Act.put, List.setIfInBounds_toArray, List.set_cons_zero, List.set_cons_succ]
        refine wpAnyH_take (i := 7) (v := ?vm7) rfl (by kernel_rfl) (by kernel_rfl) (by kernel_rfl) (fun _ _ _ h => h) (Or.inl ⟨by rfl, fun w' _ => ?ym7⟩) HH.out ?_
        case ym7 => (go_simp; try with_reducible rfl)
        try simp only [List.getElem_toArray, List.getElem_cons_succ, List.getElem_cons_zero, Act.put, List.setIfInBounds_toArray, List.set_cons_zero, List.set_cons_succ]
        refine wpAnyH_ready (rs := [6]) (by kernel_rfl) (by simp) (AllReadyH.cons rfl (fun K hK => ?_) AllReadyH.nil)
        rw [if_pos (by rfl)]
        refine wp_buildSlice 33 32 1 #[(0, .tmp 29)] rfl (ndC rt) ie _ Try.underlying33 hie hz0 (by rw [hz1]; omega) (by rw [hz1]; omega) (by rw [hz1]; simp only [List.map_toArray, List.map_cons, List.map_nil]; exact one_fill rt HR3.out) ?_
        have hsw : w.heap.size ≤ w2.heap.size := Nat.le_trans CB.out.size HH.out.size
        have ho2 := World.ownsRow_lit (base := w.heap.size) (size := 34) (e := 32) w2 (ndC rt) 1 hsw (by unfold maxLen; omega) (by rw [ndC_size HR3.out])
        have ht2 := ht.below (w' := w2.alloc (.cells (ndC rt) 32)) ((Below.refl _ _).alloc (Nat.le_refl _) _)
        have hlt := ht.lt
        refine hK.out _ _ (HH.out.alloc HH.out.size _) (fun hh => ?_)
        have HH' := Lib.hid hh
        clear hh hK K HH
        have HH := Lib.hid HH'.out
        clear HH'
        generalize World.alloc w2 (.cells (ndC rt) 32) = w3 at *
        try simp only [List.getElem_toArray, List.getElem_cons_succ, List.getElem_cons_zero, Act.put, List.setIfInBounds_toArray, List.set_cons_zero, List.set_cons_succ]
        refine wpAnyH_take (i := 8) (v := ?vm8) rfl (by kernel_rfl) (by kernel_rfl) (by kernel_rfl) (fun _ _ _ h => h) (Or.inl ⟨by rfl, fun w' _ => ?ym8⟩) HH.out ?_
        case ym8 => (go_simp; try with_reducible rfl)
        try simp only [List.getElem_toArray, List.getElem_cons_succ, List.getElem_cons_zero, Act.put, List.setIfInBounds_toArray, List.set_cons_zero, List.set_cons_succ]
        refine wpAnyH_done (by kernel_rfl) ?_ _
        try simp only [List.getElem_toArray, List.getElem_cons_succ, List.getElem_cons_zero, Act.put, List.setIfInBounds_toArray, List.set_cons_zero, List.set_cons_succ]
        obtain ⟨Y, hY⟩ : ∃ Y, w2.heap.size = Y := ⟨_, rfl⟩
        have kb := CB.out.trans (HH.out.mono CB.out.size)
        have kF : ∀ k, F k → w.heap.size ≤ k := fun k hk => by have := hF k hk; have := HSD.out; have := CB.out.size; omega
        have kn : ¬ F w2.heap.size := fun h => by have := hlt _ h; omega
        have ko : w3.ownsRow w.heap.size 32 34 (.slice (some ⟨w2.heap.size, 0, none⟩) 1 1) 1 (nvs [rt]) := by rw [nvs, nvs, List.append_nil]; exact ho2
        clear HH ho2 hF hlt
        simp only [hY] at *
        exact hG g Y w3 ⟨⟨F, ht2, kF, kn⟩, ko, kb⟩
      · rw [if_pos (by rfl)]
        refine wp_buildSlice 33 32 1 #[(0, .tmp 29)] rfl (ndC rt) ie _ Try.underlying33 hie hz0 (by rw [hz1]; omega) (by rw [hz1]; omega) (by rw [hz1]; simp only [List.map_toArray, List.map_cons, List.map_nil]; exact one_fill rt HR3.out) ?_
        have hsw : w.heap.size ≤ wd.heap.size := Nat.le_trans CB.out.size HH.out.size
        have ho2 := World.ownsRow_lit (base := w.heap.size) (size := 34) (e := 32) wd (ndC rt) 1 hsw (by unfold maxLen; omega) (by rw [ndC_size HR3.out])
        have hsa : (wd.alloc (.cells (ndC rt) 32)).heap.size = wd.heap.size + 1 := by simp
        refine hK.out _ _ (HH.out.alloc HH.out.size _) (fun hh => ?_)
        have HH' := Lib.hid hh
        clear hh hK K HH
        have HH := Lib.hid HH'.out
        clear HH'
        generalize World.alloc wd (.cells (ndC rt) 32) = w2 at *
        try simp only [List.getElem_toArray, List.getElem_cons_succ, List.getElem_cons_zero, Act.put, List.setIfInBounds_toArray, List.set_cons_zero, List.set_cons_succ]
        refine wpAnyH_ready (rs := [3]) (by kernel_rfl) (by simp) (AllReadyH.cons rfl (fun K hK => ?_) AllReadyH.nil)
        go_simp
        refine (new_any s HS.out _).mono ?_
        rintro e w3 ⟨⟨g, F, rfl, ht, hF⟩, bw⟩
        go_simp
        rw [← HRT.out] at ht
        have ho3 := own_belowN ho2 bw
        refine hK.out _ _ (HH.out.trans (bw.mono HH.out.size)) (fun hh => ?_)
        have HH' := Lib.hid hh
        clear hh hK K HH
        have HH := Lib.hid HH'.out
        clear HH'
        try simp only [List.getElem_toArray, List.getElem_cons_succ, List.getElem_cons_zero, Act.put, List.setIfInBounds_toArray, List.set_cons_zero, List.set_cons_succ]
        refine wpAnyH_take (i := 7) (v := ?vn7) rfl (by kernel_rfl) (by kernel_rfl) (by kernel_rfl) (fun _ _ _ h => h) (Or.inl ⟨by rfl, fun w' _ => ?yn7⟩) HH.out ?_
        case yn7 => (go_simp; try with_reducible rfl)
        refine wpAnyH_take (i := 8) (v := ?vn8) rfl (by kernel_rfl) (by kernel_rfl) (by kernel_rfl) (fun _ _ _ h => h) (Or.inl ⟨by rfl, fun w' _ => ?yn8⟩) HH.out ?_
        case yn8 => (go_simp; try with_reducible rfl)
        try simp only [List.getElem_toArray, List.getElem_cons_succ, List.getElem_cons_zero, Act.put, List.setIfInBounds_toArray, List.set_cons_zero, List.set_cons_succ]
        refine wpAnyH_done (by kernel_rfl) ?_ _
        try simp only [List.getElem_toArray, List.getElem_cons_succ, List.getElem_cons_zero, Act.put, List.setIfInBounds_toArray, List.set_cons_zero, List.set_cons_succ]
        obtain ⟨Y, hY⟩ : ∃ Y, wd.heap.size = Y := ⟨_, rfl⟩
        have kb := CB.out.trans (HH.out.mono CB.out.size)
        have kF : ∀ k, F k → w.heap.size ≤ k := fun k hk => by have := hF k hk; omega
        have kn : ¬ F wd.heap.size := fun h => by have := hF _ h; omega
        have ko : w3.ownsRow w.heap.size 32 34 (.slice (some ⟨wd.heap.size, 0, none⟩) 1 1) 1 (nvs [rt]) := by rw [nvs, nvs, List.append_nil]; exact ho3
        clear HH ho2 ho3 hF
        simp only [hY] at *
        exact hG g Y w3 ⟨⟨F, ht, kF, kn⟩, ko, kb⟩
    case rest =>
      rintro g Y w2 ⟨⟨F, ht, hF, hFY⟩, ho, hbw⟩
      obtain ⟨zz, hzz⟩ : ∃ zz : List UInt8, zz = List.replicate 32 0 := ⟨_, rfl⟩
      have hz22 : ∀ W, (zeroValue 22).run Try.prog W = .ok (.agg (bva zz)) W := fun _ => by rw [hzz]; kernel_rfl
      have hz23 : ∀ W, (zeroValue 23).run Try.prog W = .ok (.agg (bva zz)) W := fun _ => by rw [hzz]; kernel_rfl
      have ZZ3 : Hid (zz.length = 32) := by show _ = _; rw [hzz]; rfl
      have HOK : Hid (okS 0 [rt]) := by rw [HRT.out]; exact okS_root HS.out
      have HT := Lib.hid ht
      have HF := Lib.hid hF
      have HFY := Lib.hid hFY
      have HO := Lib.hid ho
      have HB := Lib.hid hbw
      clear ht hF hFY ho hbw hzz
      go_wp2_with fail
      go_loopw [8, 9, 10, 11] (fun x i _ _ wr => ∃ k A1 n1 c1 F L, k ≤ n ∧ i = .int .i64 (k : Nat) ∧ x = .slice A1 n1 c1 ∧ Hid (L = punAll [rt] (l.take k)) ∧ Tr wr g L F ∧ Hid (∀ q, F q → w.heap.size ≤ q) ∧ wr.ownsRow w.heap.size 32 34 (.slice A1 n1 c1) n1 (nvs L) ∧ Hid (∀ q, (Value.slice A1 n1 c1).ownBlock = some q → ¬ F q) ∧ Below w.heap.size w wr) (fun _ i _ _ _ => n - (intOf i).toNat)
      case atStart => exact ⟨0, _, 1, 1, F, [rt], by omega, rfl, rfl, rfl, HT.out, HF.out, HO.out, fun q hq => by injection hq with hq; rw [← hq]; exact HFY.out, HB.out⟩
      case round =>
        clear HT HF HFY HO HB
        obtain ⟨k, A1, n1, c1, F, L, hk, rfl, rfl, HLk, ht, HF, ho, HNF, hbw⟩ := hrel
        have hokL : okS 0 L := by rw [HLk.out]; exact punAll_ok HOK.out _
        have hn1 : L.length = n1 := by
          have h1 := ho.1
          rw [nvs_length (okS_len hokL)] at h1; omega
        have hfew : n1 ≤ 131072 := by rw [← hn1]; exact okS_few hokL
        have HOL := Lib.hid hokL
        have HN1 := Lib.hid hn1
        have HT := Lib.hid ht
        have HO := Lib.hid ho
        have HB := Lib.hid hbw
        clear ht ho hbw hokL hn1
        by_cases hlt : k < n
        · have hkl : k < l.length := by rw [HL.out]; exact hlt
          obtain ⟨ad, hA, hbl, _⟩ := rd_u64 HR.out hkl
          subst hA
          obtain ⟨m, hm⟩ : ∃ m, m = l.getD k 0 := ⟨_, rfl⟩
          have hcell : ∀ w', Below w.heap.size w w' → w'.cell? (ad.add k) = some (.int .u64 m) := fun w' hb' => by
            obtain ⟨ad', hA', _, hc⟩ := rd_u64 (HR.out.below hb') hkl
            injection hA' with hA'
            subst hA'
            rw [hm]; exact hc
          have hmb : 0 ≤ m ∧ m ≤ 18446744073709551615 := HZ.out m (by
            rw [hm, List.getD_eq_getElem?_getD, List.getElem?_eq_getElem hkl]; exact List.getElem_mem hkl)
          obtain ⟨b, hb⟩ : ∃ b, b = hasI L m := ⟨_, rfl⟩
          obtain ⟨kk, hkk⟩ : ∃ kk, kk = keyK L m := ⟨_, rfl⟩
          obtain ⟨M, hM⟩ : ∃ M, M = punL L m := ⟨_, rfl⟩
          have hk3 : kk.length = 32 := by rw [hkk]; exact keyK_length (okS_len HOL.out) m
          have hMok : okS 0 M := by rw [hM]; exact punL_ok m HOL.out
          have HK3 := Lib.hid hk3
          have HKI : Hid ((Try.prog.info? 22).map (·.size) = some (bva kk).size) := by rw [bva_size, hk3]; exact info_b32
          have HCL := Lib.hid hcell
          have HMB := Lib.hid hmb
          have HMV := Lib.hid hm
          have HBV := Lib.hid hb
          have HKK := Lib.hid hkk
          have HMM := Lib.hid hM
          have HMO := Lib.hid hMok
          have HSN := Lib.hid (show M = punAll [rt] (l.take (k + 1)) by rw [punAll_snoc _ _ hkl, ← HLk.out, ← hm, hM])
          have k0 : (0 : Int) ≤ (k : Int) := by omega
          have k1 : (k : Int) < (n : Int) := by omega
          have cc := hcell _ HB.out
          clear hcell hmb hm hb hkk hM hk3 hMok hbl
          go_wp2_with fail
          refine (key_any A1 n1 c1 L m _ HN1.out (okS_N HOL.out) (Nat.le_refl _) (Rd.ownN HO.out) (by omega) (by have := HMB.out; omega)).mono ?_
          rintro e w3 ⟨rfl, bw⟩
          rw [keyV_form, ← HKK.out, ← HBV.out]
          have HT3 := Lib.hid (HT.out.below bw)
          have HO3 := Lib.hid (own_belowN HO.out bw)
          have HB3 := Lib.hid (HB.out.trans (bw.mono HB.out.size))
          clear bw cc HT HO HB
          go_wp2_with (refine wpList_store_row rfl 22 (.tmp 10) (.tmp 44) rfl w3.heap.size (bva kk) rfl rfl 22 (bva zz) (heap_alloc_new _ _) HKI.out (by rw [bva_size, bva_size, HK3.out, ZZ3.out]) (bva_one _) ?_
                       generalize hwx : World.setRow _ _ _ = wx
                       have EB : Below w3.heap.size w3 wx := by rw [← hwx]; exact below_setRow ((Below.refl _ _).alloc (Nat.le_refl _) _) (Nat.le_refl _) _
                       have HT4 := Lib.hid (HT3.out.below EB)
                       have HO4 := Lib.hid (own_belowN HO3.out EB)
                       have HB4 := Lib.hid (HB3.out.trans (EB.mono HB3.out.size))
                       have cc := HCL.out _ HB4.out
                       clear hwx EB HT3 HO3 HB3)
          refine (puncture_any A1 n1 c1 L m _ HN1.out (okS_N HOL.out) (Nat.le_refl _) (Rd.ownN HO4.out) (by omega) (by have := HMB.out; omega)).mono ?_
          rintro e w5 ⟨A2, n2, c2, rfl, ho, bw⟩
          rw [← HMM.out] at ho
          have hn2 : M.length = n2 := by
            have h1 := ho.1
            rw [nvs_length (okS_len HMO.out)] at h1; omega
          have hfew2 : n2 ≤ 131072 := by rw [← hn2]; exact okS_few HMO.out
          have HN2 := Lib.hid hn2
          have HT5 := Lib.hid (HT4.out.below bw)
          have HO5 := Lib.hid ho
          have HB5 := Lib.hid (HB4.out.trans (bw.mono HB4.out.size))
          have HL5 := Lib.hid (HT4.out.lt)
          have hs5 := HB4.out.size
          have cc5 := HCL.out _ HB5.out
          clear bw cc ho hn2 HT4 HO4 HB4
          go_wp2_with fail
          refine (thas_tr HT5.out m).mono ?_
          rintro e w6 ⟨rfl, bw⟩
          rw [← HBV.out]
          have hbb : (b != b) = false := bne_self_eq_false b
          have HT6 := Lib.hid (HT5.out.below bw)
          have HO6 := Lib.hid (own_belowN HO5.out bw)
          have HB6 := Lib.hid (HB5.out.trans (bw.mono HB5.out.size))
          have cc6 := HCL.out _ HB6.out
          clear bw cc5 HT5 HB5
          go_wp2_with fail
          refine (tpuncture_any g L F m _ HT6.out).mono ?_
          rintro e w7 ⟨rfl, F7, ht, hbt, hF7⟩
          rw [← HBV.out]
          rw [← HMM.out] at ht
          have HT7 := Lib.hid ht
          have HO7 := Lib.hid (Own.but HO6.out hbt (fun q hq hFq => by have h1 := (own_loN HO5.out q hq).1; have h2 := HL5.out q hFq; omega))
          have HB7 := Lib.hid (HB6.out.trans (but_belowF hbt HF.out HB6.out.size))
          have HF7 := Lib.hid (show ∀ q, F7 q → w.heap.size ≤ q from fun q hq => by
            rcases hF7 q hq with h | h
            · exact HF.out q h
            · exact Nat.le_trans HB6.out.size h)
          have HNF7 := Lib.hid (show ∀ q, (Value.slice A2 n2 c2).ownBlock = some q → ¬ F7 q from fun q hq hFq => by
            rcases hF7 q hFq with h | h
            · have h1 := (own_loN HO5.out q hq).1; have h2 := HL5.out q h; omega
            · have h1 := (own_loN HO6.out q hq).2; omega)
          clear ht hbt hF7 cc6 HT6 HO6 HB6
          go_wp2_with fail
          refine (theld_tr HT7.out).mono ?_
          rintro e w8 ⟨A3, n3, c3, rfl, ho, bw⟩
          have hn3 : M.length = n3 := by
            have h1 := ho.1
            rw [nvs_length (okS_len HMO.out)] at h1; omega
          have hfew3 : n3 ≤ 131072 := by rw [← hn3]; exact okS_few HMO.out
          have HN3 := Lib.hid hn3
          have HT8 := Lib.hid (HT7.out.below bw)
          have HO8 := Lib.hid (own_belowN HO7.out bw)
          have HB8 := Lib.hid (HB7.out.trans (bw.mono HB7.out.size))
          have HP8 := Lib.hid ho
          clear ho bw hn3 HT7 HO7 HB7
          go_wp2_with fail
          refine (plain_any A3 n3 c3 M _ HN3.out (okS_len HMO.out) (Nat.le_refl _) (Rd.ownN HP8.out) (by omega)).mono ?_
          rintro e w9 ⟨A4, n4, c4, rfl, ho, bw⟩
          have hn4 : M.length = n4 := by
            have h1 := ho.1
            rw [nvs_length (okS_len HMO.out)] at h1; omega
          have hfew4 : n4 ≤ 131072 := by rw [← hn4]; exact okS_few HMO.out
          have HN4 := Lib.hid hn4
          have HT9 := Lib.hid (HT8.out.below bw)
          have HO9 := Lib.hid (own_belowN HO8.out bw)
          have HB9 := Lib.hid (HB8.out.trans (bw.mono HB8.out.size))
          have HP9 := Lib.hid ho
          clear ho bw hn4 HT8 HO8 HB8 HP8
          go_wp2_with fail
          refine (same_any A4 A2 n4 n2 c4 c2 M M _ HN4.out HN2.out (okS_len HMO.out) (okS_len HMO.out) (Rd.ownN HP9.out) (Rd.ownN HO9.out) (by unfold maxLen; omega) (by unfold maxLen; omega)).mono ?_
          rintro e w10 ⟨rfl, q10, rfl⟩
          rw [decide_eq_true (rfl : M = M)]
          have HT10 := Lib.hid (HT9.out.drewN q10)
          have HO10 := Lib.hid (own_belowN HO9.out (below_drewN' (Below.refl _ _) q10))
          have HB10 := Lib.hid (below_drewN' HB9.out q10)
          generalize w9.drewN q10 = w10 at *
          clear HT9 HO9 HB9 HP9
          go_wp2_with fail
          refine (tcount_tr HT10.out).mono ?_
          rintro e w11 ⟨rfl, bw⟩
          have HT11 := Lib.hid (HT10.out.below bw)
          have HO11 := Lib.hid (own_belowN HO10.out bw)
          have HB11 := Lib.hid (HB10.out.trans (bw.mono HB10.out.size))
          clear bw HT10 HO10 HB10
          go_wp2_with fail
          refine (count_any A2 n2 c2 M _ HN2.out (okS_N HMO.out) (Rd.ownN HO11.out) (by omega)).mono ?_
          rintro e w12 ⟨rfl, rfl⟩
          generalize countL M = CM
          have hcm : (CM != CM) = false := bne_self_eq_false CM
          have ek : IntKind.i64.wrap ((k : Int) + 1) = ((k + 1 : Nat) : Int) := by rw [IntWalk.i64_in _ (by omega)]; omega
          go_wp2_with fail
          go_roundw
          case rel => exact ⟨k + 1, A2, n2, c2, F7, M, by omega, by go_num, rfl, HSN, HT11.out, HF7, own_moreN HO11.out hs5, HNF7, HB11.out⟩
          case measure => simp [intOf]; omega
        · obtain ⟨b, hb⟩ : ∃ b, b = hasI L a := ⟨_, rfl⟩
          obtain ⟨kk, hkk⟩ : ∃ kk, kk = keyK L a := ⟨_, rfl⟩
          have hk3 : kk.length = 32 := by rw [hkk]; exact keyK_length (okS_len HOL.out) a
          have HK3 := Lib.hid hk3
          have HKI : Hid ((Try.prog.info? 22).map (·.size) = some (bva kk).size) := by rw [bva_size, hk3]; exact info_b32
          have HKI2 : Hid ((Try.prog.info? 23).map (·.size) = some (bva kk).size) := by rw [bva_size, hk3]; exact info_keyL
          have HBV := Lib.hid hb
          have HKK := Lib.hid hkk
          have heq : ∀ W, (Op.equalIn 10000 23 (.agg (bva kk)) (.agg (bva kk))).run Try.prog W = .ok true W := fun W => by rw [eq_key kk kk hk3 hk3 W, decide_eq_true rfl]
          have hbb : (b == b) = true := beq_self_eq_true b
          clear hb hkk hk3
          go_wp2_with fail
          refine (tkey_tr HT.out a).mono ?_
          rintro e w3 ⟨rfl, bw⟩
          rw [keyV_form, ← HKK.out, ← HBV.out]
          have HT3 := Lib.hid (HT.out.below bw)
          have HO3 := Lib.hid (own_belowN HO.out bw)
          have HB3 := Lib.hid (HB.out.trans (bw.mono HB.out.size))
          clear bw HT HO HB
          go_wp2_with (refine wpList_store_row rfl 23 (.tmp 12) (.tmp 89) rfl w3.heap.size (bva kk) rfl rfl 23 (bva zz) (heap_alloc_new _ _) HKI2.out (by rw [bva_size, bva_size, HK3.out, ZZ3.out]) (bva_one _) ?_
                       generalize hwx : World.setRow _ _ _ = wx
                       have EB : Below w3.heap.size w3 wx := by rw [← hwx]; exact below_setRow ((Below.refl _ _).alloc (Nat.le_refl _) _) (Nat.le_refl _) _
                       have K4 := Lib.hid (show Blk wx w3.heap.size (bva kk) 23 by rw [← hwx]; exact setRow_heap _ _ _ _ _ _ (heap_alloc_new _ _))
                       have HT4 := Lib.hid (HT3.out.below EB)
                       have HO4 := Lib.hid (own_belowN HO3.out EB)
                       have HB4 := Lib.hid (HB3.out.trans (EB.mono HB3.out.size))
                       clear hwx EB HT3 HO3 HB3)
          refine (key_any A1 n1 c1 L a _ HN1.out (okS_N HOL.out) (Nat.le_refl _) (Rd.ownN HO4.out) (by omega) (by have := HA.out; omega)).mono ?_
          rintro e w5 ⟨rfl, bw⟩
          rw [keyV_form, ← HKK.out, ← HBV.out]
          have K5 := Lib.hid (K4.out.below bw)
          have hlt5 := K5.out.lt
          have HT5 := Lib.hid (HT4.out.below bw)
          have HB5 := Lib.hid (HB4.out.trans (bw.mono HB4.out.size))
          clear bw HT4 HO4 HB4 K4
          go_wp2_with (first
            | (refine wpList_store_row rfl 22 (.tmp 14) (.tmp 95) rfl w5.heap.size (bva kk) rfl rfl 22 (bva zz) (heap_alloc_new _ _) HKI.out (by rw [bva_size, bva_size, HK3.out, ZZ3.out]) (bva_one _) ?_
               generalize hwx : World.setRow _ _ _ = wy
               have EB : Below w5.heap.size w5 wy := by rw [← hwx]; exact below_setRow ((Below.refl _ _).alloc (Nat.le_refl _) _) (Nat.le_refl _) _
               have L6 := Lib.hid (show Blk wy w5.heap.size (bva kk) 22 by rw [← hwx]; exact setRow_heap _ _ _ _ _ _ (heap_alloc_new _ _))
               have K6 := Lib.hid (K5.out.below EB)
               have HT6 := Lib.hid (HT5.out.below EB)
               have HB6 := Lib.hid (HB5.out.trans (EB.mono HB5.out.size))
               clear hwx EB K5 HT5 HB5)
            | (refine wpList_load_row rfl 23 (.tmp 12) rfl w3.heap.size rfl 23 (bva kk) (0, 0) _ K6.out Try.underlying23 rfl HKI2.out ?_)
            | (refine wpList_load_row rfl 22 (.tmp 14) rfl w5.heap.size rfl 22 (bva kk) (0, 0) _ L6.out Try.underlying22 rfl HKI.out ?_))
          refine (thas_tr HT6.out a).mono ?_
          rintro e w7 ⟨rfl, bw⟩
          rw [← HBV.out]
          have HB7 := Lib.hid (HB6.out.trans (bw.mono HB6.out.size))
          clear bw HT6 HB6 K6 L6
          go_wp2_with fail
          go_ret
          exact ⟨rfl, HB7.out⟩
  · have hd : decide ((n : Int) > 24) = true := decide_eq_true (by omega)
    go_enter Try.func3, Try.ntmps3
    go_wp2_with fail
    refine (ktAwake_any _).mono ?_
    rintro e w1 ⟨rfl, bw⟩
    have CB := Lib.hid (BB.out.trans (bw.mono BB.out.size))
    clear bw B1 BB
    go_wp2_with fail
    refine (ktAwake_any _).mono ?_
    rintro e w2 ⟨rfl, bw⟩
    have CB2 := Lib.hid (CB.out.trans (bw.mono CB.out.size))
    clear bw CB
    go_wp2_with fail
    go_ret
    exact ⟨rfl, CB2.out⟩
theorem keytreePlays_own : ownKnob Try.prog.godebug = none := by kernel_rfl
theorem keytreePlays_laid : laidOutB Try.prog = true := by kernel_rfl

set_option maxRecDepth 100000 in
theorem keytreePlays_lifted (os : Os) (started : os.Started) (H : Type) (enc : TypeId × Value → H) :
    ReturnsInHanded {} Try.checked os 3 .any (Rows.keytreePlaysSpec.pre6 enc Try.prog Try.f3 Rows.keytreePlaysRow.domain false) (Rows.keytreePlaysSpec.post enc Try.prog Try.f3 false true false false) := by
  refine returnsInHanded_of_change (C := Try.checked) keytreePlays_own started (by kernel_rfl) Try.func3
    (ChangeSpec.witness6 (enc := enc) (C := Try.checked) false ⟨#[], #[.agg #[.int .u8 0, .int .u8 0, .int .u8 0, .int .u8 0, .int .u8 0, .int .u8 0, .int .u8 0, .int .u8 0, .int .u8 0, .int .u8 0, .int .u8 0, .int .u8 0, .int .u8 0, .int .u8 0, .int .u8 0, .int .u8 0, .int .u8 0, .int .u8 0, .int .u8 0, .int .u8 0, .int .u8 0, .int .u8 0, .int .u8 0, .int .u8 0, .int .u8 0, .int .u8 0, .int .u8 0, .int .u8 0, .int .u8 0, .int .u8 0, .int .u8 0, .int .u8 0], .slice none 0 0, .int .u64 0], []⟩ 8 (by kernel_rfl) (by kernel_rfl) (by kernel_rfl) (by kernel_rfl)) ?_
  intro W base args ds gs before hval0 hW _ _
  have hval : ∀ (j : Nat) t v, Try.f3.params[j]? = some t → args[j]? = some v → Value.okWide Try.prog W .any base t v := hval0
  have hW' := hW
  obtain ⟨p, q, hA0, hV, rfl, hfz, hnd⟩ := hW
  have hA : DataW.TrodAll enc Try.prog W 0 (fun _ => true) true Try.f3.params.toList args.toList ds p := hA0
  rw [Try.params3] at hA hval
  obtain ⟨v0, vs0, d0, ds0, p0, q0, hargs, rfl, rfl, h0, r0⟩ := trodAll_cons hA
  obtain ⟨v1, vs1, d1, ds1, p1, q1, rfl, rfl, rfl, h1, r1⟩ := trodAll_cons r0
  obtain ⟨v2, vs2, d2, ds2, p2, q2, rfl, rfl, rfl, h2, r2⟩ := trodAll_cons r1
  obtain ⟨rfl, rfl, rfl⟩ := trodAll_nil r2
  obtain rfl : args = #[v0, v1, v2] := by cases args; simp_all
  obtain ⟨rfl, rfl⟩ := trodVars_none hV
  have lt0 : ∀ x ∈ p0, x.block < W.heap.size := by obtain ⟨m, hm⟩ := h0; exact DataW.trod_lt m _ _ _ hm
  obtain ⟨l0, hl0, rfl⟩ := open_u8s Try.underlying23 Try.underlying5 (by kernel_rfl) (by kernel_rfl) (hval 0 23 v0 rfl rfl) h0
  obtain ⟨a1, n1, c1, rfl⟩ := okWide_slice Try.underlying24 (hval 1 24 v1 rfl rfl)
  have lt1 : ∀ x ∈ p1, x.block < W.heap.size := by obtain ⟨m, hm⟩ := h1; exact DataW.trod_lt m _ _ _ hm
  obtain ⟨l1, hl1, hc1, hm1, hr1, hz1⟩ := open_u64s Try.underlying24 Try.underlying25 (by kernel_rfl) h1
  obtain ⟨a2, rfl, rfl, rfl, w2⟩ := open_int Try.underlying25 (hval 2 25 v2 rfl rfl) h2
  have b2 := bounds_u64 w2
  clear hA0 hval0
  refine (keytreePlays_any W l0 hl0 a1 n1 c1 l1 hl1 hc1 hm1 hr1 hz1 a2 b2).mono fun e W' ⟨he, bel⟩ => ?_
  subst he
  exact ⟨_, rfl, _, _, _, [], _, [], hW', trodAll_mk1 (shut_bool Try.underlying4 _), (trodAll_cons_mk (Below.trod keytreePlays_laid (by kernel_rfl) (of_decide_eq_true (by kernel_rfl)) h0 bel lt0) (trodAll_cons_mk (Below.trod keytreePlays_laid (by kernel_rfl) (of_decide_eq_true (by kernel_rfl)) h1 bel lt1) (trodAll_cons_mk (shut_int Try.underlying25 w2) trodAll_mk0))), rfl, bel.frame _, fun h => by cases h⟩

theorem keytreePlays_holds : Rows.KeytreePlaysSaid :=
  OpenClaim.holds_of_wide 3 Try.f3 rfl rfl rfl rfl rfl rfl rfl ⟨rfl, rfl, rfl, rfl, rfl⟩ rfl rfl rfl rfl rfl (by kernel_rfl) Try.func3 (by kernel_rfl)
    (of_decide_eq_true (by kernel_rfl)) (by unfold Func.isWrapper; rw [if_neg (of_decide_eq_false (by kernel_rfl))]; exact ⟨rfl, rfl⟩)
    (fun os started H enc _ => keytreePlays_lifted os started H enc)

#print axioms keytreePlays_holds

end Go.Proofs.Ytkfcllcdkgnfbaa
