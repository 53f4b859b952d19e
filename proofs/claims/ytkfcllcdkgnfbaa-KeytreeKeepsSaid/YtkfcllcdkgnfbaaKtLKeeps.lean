/-
  What wasn't punctured stays: behind any punctures each other leaf has the key that it had, a punctured one has none; for every seed and every two rows of at most 24 numbers (longer ones come out true unasked).
-/
import Derived.Test.YtkfcllcdkgnfbaaKtMap
import Derived.Test.YtkfcllcdkgnfbaaRows
import Derived.Test.YtkfcllcdkgnfbaaOpen
import Derived.Test.YtkfcllcdkgnfbaaOpenA
import Derived.ProofKit
import Derived.OpenShut
import Derived.ShutString
import Derived.ChangeOld
namespace Go.Proofs.Ytkfcllcdkgnfbaa
open Go.RowKit Go.ChangeShapes Go.WideShapes Go.ChangeAt
open Kt Go.Maps
attribute [local go_sem ↓] Go.wp_at_zero Go.wp_at_succ
theorem wpList_build_if {P : Program} {ops : Array Oper} {rest : List Oper} {o : Oper} {a : Act} {w : World} {Q : Exit → Act → World → Prop} {v : Value} (hgd : Region.wanted o (yielded ops a.tmps) = true) (t : TypeId) (parts : Array (Nat × Operand)) (ho : o.op = .build t parts) (h : (Instr.build t (parts.map fun (i, x) => (i, a.eval x))).run P w = .ok v w)
    (hk : wpList P ops Q rest (a.put o.dst v) w) : wpList P ops Q (o :: rest) a w := by
  unfold wpList
  rw [if_pos hgd]
  refine .inl ?_
  unfold Oper.wp
  rw [exec_build t parts ho h]
  exact hk
theorem keep_has {s : List UInt8} (hs : s.length = 32) (l : List Int) (m : Int) : hasI (canL 17 ⟨0, 0, s⟩ l) m = ((decide (0 ≤ m) && decide (m < 131072)) && !decide (m ∈ l)) := by
  rw [hasI_can 17 _ l m (okS_root hs).1 rfl, root_in]
theorem keep_root {s : List UInt8} (m : Int) : hasI [⟨0, 0, s⟩] m = (decide (0 ≤ m) && decide (m < 131072)) := by
  rw [hasI_single, root_in]
theorem keep_key {s : List UInt8} (hs : s.length = 32) (l : List Int) (m : Int) : keyK (canL 17 ⟨0, 0, s⟩ l) m = if hasI (canL 17 ⟨0, 0, s⟩ l) m = true then keyK [⟨0, 0, s⟩] m else List.replicate 32 0 := by
  have hr := (okS_root hs).1
  rw [keyK_can (f := 17) l m hr rfl]
  by_cases h : hasI (canL 17 ⟨0, 0, s⟩ l) m = true
  · rw [if_pos h, if_pos h]
    have hi : inI ⟨0, 0, s⟩ m = true := by
      rw [keep_has hs, Bool.and_eq_true] at h
      rw [root_in]; exact h.1
    unfold keyK
    rw [List.find?_cons_of_pos (by simpa using hi)]; rfl
  · rw [if_neg h, if_neg h]
set_option maxRecDepth 100000 in
set_option maxHeartbeats 6400000 in
theorem keytreeKeeps_any (w : World) (s : List UInt8) (hs : s.length = 32) (A : Option Addr) (n c : Nat) (l : List Int) (hl : l.length = n) (hc : n ≤ c) (hm : c ≤ maxLen) (hr : Rd w.heap.size w A (iv64 l)) (hz : ∀ z ∈ l, 0 ≤ z ∧ z ≤ 18446744073709551615) (B : Option Addr) (na ca : Nat) (la : List Int) (hla : la.length = na) (hca : na ≤ ca) (hma : ca ≤ maxLen) (hra : Rd w.heap.size w B (iv64 la)) (hza : ∀ z ∈ la, 0 ≤ z ∧ z ≤ 18446744073709551615) :
    Calls Try.prog 5 #[.agg (bva s), .slice A n c, .slice B na ca] w (RetB (.bool true) w) := by
  have HL := Lib.hid hl
  have HR := Lib.hid hr
  have HZ := Lib.hid hz
  have hcm : n ≤ 9223372036854775807 := by unfold maxLen at hm; omega
  clear hl hr hz hc hm
  have HS := Lib.hid hs
  have HK : Hid ((Try.prog.info? 23).map (·.size) = some (bva s).size) := by rw [bva_size, hs]; exact info_keyL
  have B1 := Lib.hid (show Blk (w.alloc (.cells (bva s) 23)) w.heap.size (bva s) 23 from heap_alloc_new _ _)
  have BB := Lib.hid (show Below w.heap.size w (w.alloc (.cells (bva s) 23)) from (Below.refl _ _).alloc (Nat.le_refl _) _)
  clear hs
  have HLA := Lib.hid hla
  have HRA := Lib.hid hra
  have HZA := Lib.hid hza
  have hcma : na ≤ 9223372036854775807 := by unfold maxLen at hma; omega
  clear hla hra hza hca hma
  have hmm := @run_makeMap Try.prog
  by_cases h24 : n ≤ 24
  · have hd : decide ((n : Int) > 24) = false := decide_eq_false (by omega)
    clear hcm
    by_cases h24a : na ≤ 24
    · have hda : decide ((na : Int) > 24) = false := decide_eq_false (by omega)
      clear hcma
      go_enter Try.func5, Try.ntmps5
      go_wp2_with fail
      refine (ktAwake_any _).mono ?_
      rintro e w1 ⟨rfl, bw⟩
      have C1 := Lib.hid (B1.out.below bw)
      have CB := Lib.hid (BB.out.trans (bw.mono BB.out.size))
      clear bw B1 BB
      obtain ⟨rt, hrt⟩ : ∃ rt : Nd, rt = ⟨0, 0, s⟩ := ⟨_, rfl⟩
      have HRT := Lib.hid hrt
      have HOK : Hid (okS 0 [rt]) := by rw [hrt]; exact okS_root HS.out
      obtain ⟨zz, hzz⟩ : ∃ zz : List UInt8, zz = List.replicate 32 0 := ⟨_, rfl⟩
      have hz23 : ∀ W, (zeroValue 23).run Try.prog W = .ok (.agg (bva zz)) W := fun _ => by rw [hzz]; kernel_rfl
      have ZZ3 : Hid (zz.length = 32) := by show _ = _; rw [hzz]; rfl
      have HZZ := Lib.hid hzz
      clear hrt hzz
      go_wp2_with fail
      refine wp_region_held_drew (S := fun w' => Below w1.heap.size w1 w') (by kernel_rfl) (Below.refl _ _).drew (fun hh => ?_)
      have HH := Lib.hid hh
      clear hh
      refine wpAnyH_take (i := 0) (v := ?va0) rfl (by kernel_rfl) (by kernel_rfl) (by kernel_rfl) (fun _ _ _ h => h) (Or.inl ⟨by rfl, fun w' _ => ?ya0⟩) HH.out ?_
      case ya0 => (go_simp; try with_reducible rfl)
      try simp only [List.getElem_toArray, List.getElem_cons_zero, Act.put, List.setIfInBounds_toArray, List.set_cons_zero, List.set_cons_succ]
      refine wpAnyH_take (i := 1) (v := .iface 30 (.agg #[])) rfl (by kernel_rfl) (by kernel_rfl) (by kernel_rfl) (fun _ _ _ h => h) (Or.inl ⟨by rfl, fun w' _ => ?ya1⟩) HH.out ?_
      case ya1 => (go_simp; try with_reducible rfl)
      try simp only [List.getElem_toArray, List.getElem_cons_succ, List.getElem_cons_zero, Act.put, List.setIfInBounds_toArray, List.set_cons_zero, List.set_cons_succ]
      refine wpAnyH_take (i := 2) (v := .agg (bva s)) rfl (by kernel_rfl) (by kernel_rfl) (by kernel_rfl) (fun _ _ _ h => h) (Or.inl ⟨by rfl, fun w' hw' => ?ya2⟩) HH.out ?_
      case ya2 => exact exec_load 23 (.tmp 3) rfl rfl (C1.out.below hw') Try.underlying23 rfl HK.out
      refine wpAnyH_take (i := 4) (v := ?va4) rfl (by kernel_rfl) (by kernel_rfl) (by kernel_rfl) (fun _ _ _ h => h) (Or.inl ⟨by rfl, fun w' _ => ?ya4⟩) HH.out ?_
      case ya4 => (go_simp; try with_reducible rfl)
      try simp only [List.getElem_toArray, List.getElem_cons_succ, List.getElem_cons_zero, Act.put, List.setIfInBounds_toArray, List.set_cons_zero, List.set_cons_succ]
      refine wpAnyH_take (i := 5) (v := .iface 30 (.agg #[])) rfl (by kernel_rfl) (by kernel_rfl) (by kernel_rfl) (fun _ _ _ h => h) (Or.inl ⟨by rfl, fun w' _ => ?ya5⟩) HH.out ?_
      case ya5 => (go_simp; try with_reducible rfl)
      try simp only [List.getElem_toArray, List.getElem_cons_succ, List.getElem_cons_zero, Act.put, List.setIfInBounds_toArray, List.set_cons_zero, List.set_cons_succ]
      refine wpAnyH_take (i := 6) (v := .agg (bva s)) rfl (by kernel_rfl) (by kernel_rfl) (by kernel_rfl) (fun _ _ _ h => h) (Or.inl ⟨by rfl, fun w' hw' => ?ya6⟩) HH.out ?_
      case ya6 => exact exec_load 23 (.tmp 3) rfl rfl (C1.out.below hw') Try.underlying23 rfl HK.out
      try simp only [List.getElem_toArray, List.getElem_cons_succ, List.getElem_cons_zero, Act.put, List.setIfInBounds_toArray, List.set_cons_zero, List.set_cons_succ]
      have hsd : w1.drew.heap.size = w1.heap.size := rfl
      have hh2 := HH.out
      clear HH
      generalize w1.drew = wd at *
      have HH := Lib.hid hh2
      have HSD := Lib.hid hsd
      clear hh2 hsd
      refine wpAnyH_ready (rs := [3]) (by kernel_rfl) (by simp) (AllReadyH.cons rfl (fun K hK => ?_) AllReadyH.nil)
      go_simp
      refine (new_any s HS.out _).mono ?_
      rintro e w2 ⟨⟨g, F, rfl, ht, hF⟩, bw⟩
      go_simp
      rw [← HRT.out] at ht
      refine hK.out _ _ (HH.out.trans (bw.mono HH.out.size)) (fun hh => ?_)
      have T2 := Lib.hid ht
      have F2 := Lib.hid (show ∀ q, F q → w.heap.size ≤ q from fun q hq => by have h1 := hF q hq; have h2 := HSD.out; have h3 := CB.out.size; omega)
      clear ht hF bw
      have HH' := Lib.hid hh
      clear hh hK K HH
      have HH := Lib.hid HH'.out
      clear HH'
      try simp only [List.getElem_toArray, List.getElem_cons_succ, List.getElem_cons_zero, Act.put, List.setIfInBounds_toArray, List.set_cons_zero, List.set_cons_succ]
      refine wpAnyH_ready (rs := [7]) (by kernel_rfl) (by simp) (AllReadyH.cons rfl (fun K hK => ?_) AllReadyH.nil)
      go_simp
      refine (new_any s HS.out _).mono ?_
      rintro e w3 ⟨⟨g2, G, rfl, ht, hG⟩, bw⟩
      go_simp
      rw [← HRT.out] at ht
      refine hK.out _ _ (HH.out.trans (bw.mono HH.out.size)) (fun hh => ?_)
      have HTA := Lib.hid (T2.out.below bw)
      have HTB := Lib.hid ht
      have hs2 : w.heap.size ≤ w2.heap.size := Nat.le_trans CB.out.size HH.out.size
      have HFA := F2
      have HFB := Lib.hid (show ∀ q, G q → w.heap.size ≤ q from fun q hq => Nat.le_trans hs2 (hG q hq))
      have HDJ := Lib.hid (show ∀ q, F q → G q → False from fun q hq hq' => by have h1 := T2.out.lt q hq; have h2 := hG q hq'; omega)
      clear ht hG bw
      have HH' := Lib.hid hh
      clear hh hK K HH
      have HH := Lib.hid HH'.out
      clear HH'
      try simp only [List.getElem_toArray, List.getElem_cons_succ, List.getElem_cons_zero, Act.put, List.setIfInBounds_toArray, List.set_cons_zero, List.set_cons_succ]
      refine wpAnyH_take (i := 8) (v := ?va8) rfl (by kernel_rfl) (by kernel_rfl) (by kernel_rfl) (fun _ _ _ h => h) (Or.inl ⟨by rfl, fun w' _ => ?ya8⟩) HH.out ?_
      case ya8 => (go_simp; try with_reducible rfl)
      try simp only [List.getElem_toArray, List.getElem_cons_succ, List.getElem_cons_zero, Act.put, List.setIfInBounds_toArray, List.set_cons_zero, List.set_cons_succ]
      refine wpAnyH_take (i := 9) (v := ?va9) rfl (by kernel_rfl) (by kernel_rfl) (by kernel_rfl) (fun _ _ _ h => h) (Or.inl ⟨by rfl, fun w' _ => ?ya9⟩) HH.out ?_
      case ya9 => (go_simp; try with_reducible rfl)
      try simp only [List.getElem_toArray, List.getElem_cons_succ, List.getElem_cons_zero, Act.put, List.setIfInBounds_toArray, List.set_cons_zero, List.set_cons_succ]
      refine wpAnyH_done (by kernel_rfl) ?_ _
      try simp only [List.getElem_toArray, List.getElem_cons_succ, List.getElem_cons_zero, Act.put, List.setIfInBounds_toArray, List.set_cons_zero, List.set_cons_succ]
      have HB := Lib.hid (CB.out.trans (HH.out.mono CB.out.size))
      clear HH T2 F2 C1 CB
      go_wp2_with fail
      have hsw := HB.out.size
      have hma := HTA.out.lt
      have hmb := HTB.out.lt
      have HMP := Lib.hid (World.ownsMap_made w3 Try.prog 25 (boolP Try.prog))
      have HTA0 := Lib.hid (HTA.out.below (w' := w3.alloc (.map #[] 0)) ((Below.refl _ _).alloc (Nat.le_refl _) _))
      have HTB0 := Lib.hid (HTB.out.below (w' := w3.alloc (.map #[] 0)) ((Below.refl _ _).alloc (Nat.le_refl _) _))
      have HB0 := Lib.hid (HB.out.alloc hsw (.map #[] 0))
      have HF0 := Lib.hid (show ∀ q, F q → w.heap.size ≤ q ∧ q ≠ w3.heap.size from fun q hq => ⟨HFA.out q hq, by have := hma q hq; omega⟩)
      have HG0 := Lib.hid (show ∀ q, G q → w.heap.size ≤ q ∧ q ≠ w3.heap.size from fun q hq => ⟨HFB.out q hq, by have := hmb q hq; omega⟩)
      have HDJ0 := HDJ
      clear hma hmb HTA HTB HB HFA HFB HDJ
      go_loopw [10] (fun i wr => ∃ k F D ds, k ≤ n ∧ i = .int .i64 (k : Nat) ∧ Tr wr g (punAll [rt] (l.take k)) F ∧ Tr wr g2 [rt] G ∧ Hid (∀ q, F q → G q → False) ∧ Hid (∀ q, F q → w.heap.size ≤ q ∧ q ≠ w3.heap.size) ∧ wr.ownsMap Try.prog 25 (boolP Try.prog) w3.heap.size k D ∧ Hid (CutM D ds) ∧ Hid (∀ z, z ∈ ds ↔ z ∈ l.take k) ∧ Below w.heap.size w wr) (fun i _ => n - (intOf i).toNat)
      case atStart => exact ⟨0, F, .map [], [], by omega, rfl, HTA0.out, HTB0.out, HDJ0, HF0, HMP.out, cut_empty, fun z => by simp, HB0.out⟩
      case round =>
        clear HTA0 HTB0 HF0 HMP HB0 HDJ0
        obtain ⟨k, F, D, ds, hk, rfl, ht, htb, HDJ, HF, hm0, HCU, HDS, hbw⟩ := hrel
        have HT := Lib.hid ht
        have HTB := Lib.hid htb
        have HM := Lib.hid hm0
        have HB := Lib.hid hbw
        clear ht htb hm0 hbw
        by_cases hlt : k < n
        · have hkl : k < l.length := by rw [HL.out]; exact hlt
          obtain ⟨ad, hA, hbl, _⟩ := rd_u64 HR.out hkl
          subst hA
          obtain ⟨m, hm⟩ : ∃ m, m = l.getD k 0 := ⟨_, rfl⟩
          have hcell : ∀ w', Below w.heap.size w w' → w'.cell? (ad.add k) = some (.int .u64 m) := fun w' hb' => by
            obtain ⟨ad', hA', _, hc⟩ := rd_u64 (HR.out.below hb') hkl
            injection hA' with hA'
            subst hA'
            rw [hm]; exact hc
          have hmb : 0 ≤ m ∧ m ≤ 18446744073709551615 := HZ.out m (by
            rw [hm, List.getD_eq_getElem?_getD, List.getElem?_eq_getElem hkl]; exact List.getElem_mem hkl)
          have HCL := Lib.hid hcell
          have HMB := Lib.hid hmb
          have HMV := Lib.hid hm
          have k0 : (0 : Int) ≤ (k : Int) := by omega
          have k1 : (k : Int) < (n : Int) := by omega
          clear hcell hmb hm hbl
          have hsn : l.take (k + 1) = l.take k ++ [m] := by rw [HMV.out, List.getD_eq_getElem?_getD, List.getElem?_eq_getElem hkl]; exact List.take_succ_eq_append_getElem hkl
          have HSN := Lib.hid hsn
          have cc := HCL.out _ HB.out
          clear hsn
          go_wp2_with fail
          refine (tpuncture_any g _ F m _ HT.out).mono ?_
          rintro e w5 ⟨rfl, F5, ht5, hb5, hF5⟩
          rw [HMV.out, ← punAll_snoc _ _ hkl] at ht5
          have HT5 := Lib.hid ht5
          have HTB5 := Lib.hid (HTB.out.but hb5 (fun q hG hFq => HDJ.out q hFq hG))
          have HDJ5 := Lib.hid (show ∀ q, F5 q → G q → False from fun q hq hG => by
            rcases hF5 q hq with h | h
            · exact HDJ.out q h hG
            · have := HTB.out.lt q hG; omega)
          have HM5 := Lib.hid (map_but HM.out hb5 (fun h => (HF.out _ h).2 rfl))
          have HF5 := Lib.hid (show ∀ q, F5 q → w.heap.size ≤ q ∧ q ≠ w3.heap.size from fun q hq => by
            rcases hF5 q hq with h | h
            · exact HF.out q h
            · have h1 := HM.out.lt; have h2 := HB.out.size; exact ⟨by omega, by omega⟩)
          have HB5 := Lib.hid (HB.out.trans (but_belowF hb5 (fun q hq => (HF.out q hq).1) HB.out.size))
          have cc5 := HCL.out _ HB5.out
          have ek : IntKind.i64.wrap ((k : Int) + 1) = ((k + 1 : Nat) : Int) := by rw [IntWalk.i64_in _ (by omega)]; omega
          clear ht5 hb5 hF5 cc HT HTB HM HB
          go_wp2_with (at_mapUpdate; refine wpList_mapUpdate_own _ rfl _ _ _ 54 rfl 25 4 law64 Try.underlying54 (boolP Try.prog) w3.heap.size k D rfl HM5.out (by unfold maxLen; omega) (.int .u64 m) (.bool true) (.int .u64 m) rfl rfl (keyOf_int_mk Try.underlying25 (wf64 HMB.out)) (.lit (.bool true)) [] (boolR_mk true) ?_; intro w6 hown6 hgrow6)
          have hbg := but_of_grown (S := (· = w3.heap.size)) hgrow6 (fun q hq => by injection hq with hq; exact hq.symm)
          have HT6 := Lib.hid (HT5.out.but hbg (fun q hq hS => (HF5.out q hq).2 hS))
          have HTB6 := Lib.hid (HTB5.out.but hbg (fun q hq hS => (HG0.out q hq).2 hS))
          have HM6 := Lib.hid hown6
          have HB6 := Lib.hid (HB5.out.trans (hbg.below (fun q hq hS => by omega) HB5.out.size))
          clear hown6 hgrow6 hbg HT5 HTB5 HM5 HB5 cc5
          go_roundw
          case rel => exact ⟨k + 1, F5, _, _, by omega, by go_num, HT6.out, HTB6.out, HDJ5, HF5, HM6.out, HCU.out.put m, fun z => by
            rw [put_mem, HDS.out, HSN.out, List.mem_append, List.mem_singleton], HB6.out⟩
          case measure => simp [intOf]; omega
        · obtain rfl : k = n := by omega
          have hcan : punAll [rt] (l.take k) = canL 17 rt l := by rw [List.take_of_length_le (by rw [HL.out]; exact Nat.le_refl _), HRT.out]; exact punAll_root HS.out l
          obtain ⟨X, hX⟩ : ∃ X, X = canL 17 rt l := ⟨_, rfl⟩
          have ht := HT.out
          rw [hcan, ← hX] at ht
          have HXV := Lib.hid hX
          have HT2 := Lib.hid ht
          have HXO := Lib.hid ht.ok
          have HFL := Lib.hid ht.lt
          have HDL := Lib.hid (show ∀ z, z ∈ ds ↔ z ∈ l from fun z => by rw [HDS.out, List.take_of_length_le (by rw [HL.out]; exact Nat.le_refl _)])
          have HHAS := Lib.hid (show ∀ z, Maps.has D (.int .u64 z) = true → z ∈ ds from fun z hz => by rw [HCU.out.has] at hz; simpa using hz)
          have HXH := Lib.hid (show ∀ z, hasI X z = ((decide (0 ≤ z) && decide (z < 131072)) && !decide (z ∈ l)) from fun z => by rw [hX, HRT.out]; exact keep_has HS.out l z)
          have HRH := Lib.hid (show ∀ z, hasI [rt] z = (decide (0 ≤ z) && decide (z < 131072)) from fun z => by rw [HRT.out]; exact keep_root z)
          have HKEY := Lib.hid (show ∀ z, keyK X z = if hasI X z = true then keyK [rt] z else List.replicate 32 0 from fun z => by rw [hX, HRT.out]; exact keep_key HS.out l z)
          have hlm := HM.out.lt
          have HBZ := Lib.hid (show ∀ W, (Instr.build 23 #[]).run Try.prog W = .ok (.agg (bva zz)) W from fun _ => by rw [HZZ.out]; kernel_rfl)
          obtain ⟨v, hv⟩ : ∃ v, v = wr := ⟨_, rfl⟩
          have HTV := Lib.hid (show Tr v g X F from hv ▸ ht)
          have HTW := Lib.hid (show Tr v g2 [rt] G from hv ▸ HTB.out)
          have HMV := Lib.hid (show v.ownsMap Try.prog 25 (boolP Try.prog) w3.heap.size k D from hv ▸ HM.out)
          have HBV := Lib.hid (show Below w.heap.size w v from hv ▸ HB.out)
          have hlmv : w3.heap.size < v.heap.size := hv ▸ hlm
          have HFV := Lib.hid (show ∀ q, F q → q < v.heap.size from hv ▸ HFL.out)
          have HWR := Lib.hid hv
          clear hcan hX ht hv hlm HT HT2 HTB HM HB HFL
          go_wp2_with fail
          go_loopw [11, 12, 13, 14, 15] (fun i _ _ _ _ wq => ∃ j : Nat, j ≤ na ∧ i = .int .i64 j ∧ Below v.heap.size v wq) (fun i _ _ _ _ _ => na - (intOf i).toNat)
          case atStart => exact ⟨0, by omega, rfl, by rw [← HWR.out]; exact Below.refl _ _⟩
          case round =>
            obtain ⟨j, hj, rfl, hbq⟩ := hrel
            have HBQ := Lib.hid hbq
            by_cases hlt2 : j < na
            · have hkl : j < la.length := by rw [HLA.out]; exact hlt2
              obtain ⟨ad, hA, hbl, _⟩ := rd_u64 HRA.out hkl
              subst hA
              obtain ⟨m, hm⟩ : ∃ m, m = la.getD j 0 := ⟨_, rfl⟩
              have hcell : ∀ w', Below v.heap.size v w' → w'.cell? (ad.add j) = some (.int .u64 m) := fun w' hb' => by
                obtain ⟨ad', hA', _, hc⟩ := rd_u64 (HRA.out.below (HBV.out.trans (hb'.mono HBV.out.size))) hkl
                injection hA' with hA'
                subst hA'
                rw [hm]; exact hc
              have hmb : 0 ≤ m ∧ m ≤ 18446744073709551615 := HZA.out m (by
                rw [hm, List.getD_eq_getElem?_getD, List.getElem?_eq_getElem hkl]; exact List.getElem_mem hkl)
              obtain ⟨ok, hok⟩ : ∃ ok, ok = hasI X m := ⟨_, rfl⟩
              obtain ⟨iz, hiz⟩ : ∃ iz, iz = hasI [rt] m := ⟨_, rfl⟩
              obtain ⟨ka, hka⟩ : ∃ ka, ka = keyK X m := ⟨_, rfl⟩
              obtain ⟨kb, hkb⟩ : ∃ kb, kb = keyK [rt] m := ⟨_, rfl⟩
              have ha3 : ka.length = 32 := by rw [hka]; exact keyK_length (okS_len HXO.out) m
              have hb3 : kb.length = 32 := by rw [hkb]; exact keyK_length (okS_len HOK.out) m
              have HA3 := Lib.hid ha3
              have HB3 := Lib.hid hb3
              have HIA : Hid ((Try.prog.info? 23).map (·.size) = some (bva ka).size) := by rw [bva_size, ha3]; exact info_keyL
              have HIB : Hid ((Try.prog.info? 23).map (·.size) = some (bva kb).size) := by rw [bva_size, hb3]; exact info_keyL
              have HCL := Lib.hid hcell
              have HMB := Lib.hid hmb
              have HOKV := Lib.hid hok
              have HIZV := Lib.hid hiz
              have HKA := Lib.hid hka
              have HKB := Lib.hid hkb
              have k0 : (0 : Int) ≤ (j : Int) := by omega
              have k1 : (j : Int) < (na : Int) := by omega
              have ek : IntKind.i64.wrap ((j : Int) + 1) = ((j + 1 : Nat) : Int) := by rw [IntWalk.i64_in _ (by omega)]; omega
              have cc := hcell _ hbq
              have HT1 := Lib.hid (HTV.out.below hbq)
              have HT2 := Lib.hid (HTW.out.below hbq)
              have HM1 := Lib.hid (map_below HMV.out hbq)
              clear hcell hmb hm hbl hok hiz hka hkb ha3 hb3 hbq
              go_wp2_with fail
              refine (tkey_tr HT1.out m).mono ?_
              rintro e v6 ⟨rfl, bw⟩
              rw [keyV_form, ← HKA.out, ← HOKV.out]
              have HTx101 := Lib.hid (HT1.out.below bw)
              have HUx101 := Lib.hid (HT2.out.below bw)
              have HMx101 := Lib.hid (map_below HM1.out bw)
              have HQx101 := Lib.hid (HBQ.out.trans (bw.mono HBQ.out.size))
              clear bw cc HT1 HT2 HM1 HBQ
              go_wp2_with (refine wpList_store_row rfl 23 (.tmp 12) (.tmp 69) rfl v6.heap.size (bva ka) rfl rfl 23 (bva zz) (heap_alloc_new _ _) HIA.out (by rw [bva_size, bva_size, HA3.out, ZZ3.out]) (bva_one _) ?_
                           generalize hwx : World.setRow _ _ _ = wx102
                           have EB : Below v6.heap.size v6 wx102 := by rw [← hwx]; exact below_setRow ((Below.refl _ _).alloc (Nat.le_refl _) _) (Nat.le_refl _) _
                           have KAxn102 := Lib.hid (show Blk wx102 v6.heap.size (bva ka) 23 by rw [← hwx]; exact setRow_heap _ _ _ _ _ _ (heap_alloc_new _ _))
                           have HTx103 := Lib.hid (HTx101.out.below EB)
                           have HUx103 := Lib.hid (HUx101.out.below EB)
                           have HMx103 := Lib.hid (map_below HMx101.out EB)
                           have HQx103 := Lib.hid (HQx101.out.trans (EB.mono HQx101.out.size))
                           clear hwx EB HTx101 HUx101 HMx101 HQx101
                           have cc := HCL.out _ HQx103.out)
              refine (tkey_tr HUx103.out m).mono ?_
              rintro e v7 ⟨rfl, bw⟩
              rw [keyV_form, ← HKB.out, ← HIZV.out]
              have HTx104 := Lib.hid (HTx103.out.below bw)
              have HUx104 := Lib.hid (HUx103.out.below bw)
              have HMx104 := Lib.hid (map_below HMx103.out bw)
              have HQx104 := Lib.hid (HQx103.out.trans (bw.mono HQx103.out.size))
              have KAx104 := Lib.hid (KAxn102.out.below bw)
              clear bw cc HTx103 HUx103 HMx103 HQx103 KAxn102
              by_cases h1 : m < 131072
              · by_cases h2 : m ∈ l
                · have hokf : ok = false := by rw [HOKV.out, HXH.out, decide_eq_true h2, Bool.not_true, Bool.and_false]
                  have hizt : iz = true := by rw [HIZV.out, HRH.out, decide_eq_true h1, decide_eq_true HMB.out.1]; rfl
                  have hkz : ka = zz := by rw [HKA.out, HKEY.out, if_neg (by rw [← HOKV.out, hokf]; simp), HZZ.out]
                  subst hokf
                  subst hizt
                  have heq : ∀ W, (Op.equalIn 10000 23 (.agg (bva ka)) (.agg (bva zz))).run Try.prog W = .ok true W := fun W => by rw [eq_key ka zz HA3.out ZZ3.out W, decide_eq_true hkz]
                  have hdm : decide (m < 131072) = true := decide_eq_true h1
                  have HH2 := Lib.hid h2
                  clear hkz h1 h2
                  go_wp2_with (first
                            | (refine wpList_store_row rfl 23 (.tmp 14) (.tmp 78) rfl v7.heap.size (bva kb) rfl rfl 23 (bva zz) (heap_alloc_new _ _) HIB.out (by rw [bva_size, bva_size, HB3.out, ZZ3.out]) (bva_one _) ?_
                               generalize hwx : World.setRow _ _ _ = wx105
                               have EB : Below v7.heap.size v7 wx105 := by rw [← hwx]; exact below_setRow ((Below.refl _ _).alloc (Nat.le_refl _) _) (Nat.le_refl _) _
                               have KBxn105 := Lib.hid (show Blk wx105 v7.heap.size (bva kb) 23 by rw [← hwx]; exact setRow_heap _ _ _ _ _ _ (heap_alloc_new _ _))
                               have HTx106 := Lib.hid (HTx104.out.below EB)
                               have HUx106 := Lib.hid (HUx104.out.below EB)
                               have HMx106 := Lib.hid (map_below HMx104.out EB)
                               have HQx106 := Lib.hid (HQx104.out.trans (EB.mono HQx104.out.size))
                               have KAx106 := Lib.hid (KAx104.out.below EB)
                               clear hwx EB HTx104 HUx104 HMx104 HQx104 KAx104
                               have cc := HCL.out _ HQx106.out
                               have hlk : (Instr.lookup 54 (.map (some w3.heap.size)) (.int .u64 m) false).run Try.prog wx105 = .ok (.bool true) wx105 := by rw [cut_look HMx106.out HCU.out m HMB.out, decide_eq_true ((HDL.out m).2 HH2.out)])
                            | (refine wpList_load_if rfl 23 (.tmp 12) rfl (g := v6.heap.size) rfl KAx106.out Try.underlying23 rfl HIA.out ?_)
                            | (refine wpList_load_if rfl 23 (.tmp 14) rfl (g := v7.heap.size) rfl KBxn105.out Try.underlying23 rfl HIB.out ?_)
                            | (refine wpList_build_if rfl 23 #[] rfl (v := .agg (bva zz)) ?hbld ?_; case hbld => exact HBZ.out _))
                  skip
                  go_roundw
                  case rel => exact ⟨j + 1, by omega, by go_num, HQx106.out⟩
                  case measure => simp [intOf]; omega
                · have hokt : ok = true := by rw [HOKV.out, HXH.out, decide_eq_false h2, decide_eq_true h1, decide_eq_true HMB.out.1]; rfl
                  have hizt : iz = true := by rw [HIZV.out, HRH.out, decide_eq_true h1, decide_eq_true HMB.out.1]; rfl
                  have hkz : ka = kb := by rw [HKA.out, HKEY.out, if_pos (by rw [← HOKV.out, hokt]), HKB.out]
                  subst hokt
                  subst hizt
                  have heq : ∀ W, (Op.equalIn 10000 23 (.agg (bva ka)) (.agg (bva kb))).run Try.prog W = .ok true W := fun W => by rw [eq_key ka kb HA3.out HB3.out W, decide_eq_true hkz]
                  have hdm : decide (m < 131072) = true := decide_eq_true h1
                  have HH2 := Lib.hid h2
                  clear hkz h1 h2
                  go_wp2_with (first
                            | (refine wpList_store_row rfl 23 (.tmp 14) (.tmp 78) rfl v7.heap.size (bva kb) rfl rfl 23 (bva zz) (heap_alloc_new _ _) HIB.out (by rw [bva_size, bva_size, HB3.out, ZZ3.out]) (bva_one _) ?_
                               generalize hwx : World.setRow _ _ _ = wx105
                               have EB : Below v7.heap.size v7 wx105 := by rw [← hwx]; exact below_setRow ((Below.refl _ _).alloc (Nat.le_refl _) _) (Nat.le_refl _) _
                               have KBxn105 := Lib.hid (show Blk wx105 v7.heap.size (bva kb) 23 by rw [← hwx]; exact setRow_heap _ _ _ _ _ _ (heap_alloc_new _ _))
                               have HTx106 := Lib.hid (HTx104.out.below EB)
                               have HUx106 := Lib.hid (HUx104.out.below EB)
                               have HMx106 := Lib.hid (map_below HMx104.out EB)
                               have HQx106 := Lib.hid (HQx104.out.trans (EB.mono HQx104.out.size))
                               have KAx106 := Lib.hid (KAx104.out.below EB)
                               clear hwx EB HTx104 HUx104 HMx104 HQx104 KAx104
                               have cc := HCL.out _ HQx106.out
                               have hlk : (Instr.lookup 54 (.map (some w3.heap.size)) (.int .u64 m) false).run Try.prog wx105 = .ok (.bool false) wx105 := by rw [cut_look HMx106.out HCU.out m HMB.out, decide_eq_false (fun h => HH2.out ((HDL.out m).1 h))])
                            | (refine wpList_load_if rfl 23 (.tmp 12) rfl (g := v6.heap.size) rfl KAx106.out Try.underlying23 rfl HIA.out ?_)
                            | (refine wpList_load_if rfl 23 (.tmp 14) rfl (g := v7.heap.size) rfl KBxn105.out Try.underlying23 rfl HIB.out ?_)
                            | (refine wpList_build_if rfl 23 #[] rfl (v := .agg (bva zz)) ?hbld ?_; case hbld => exact HBZ.out _))
                  skip
                  go_roundw
                  case rel => exact ⟨j + 1, by omega, by go_num, HQx106.out⟩
                  case measure => simp [intOf]; omega
              · have hokf : ok = false := by rw [HOKV.out, HXH.out, decide_eq_false h1, Bool.and_false, Bool.false_and]
                have hizf : iz = false := by rw [HIZV.out, HRH.out, decide_eq_false h1, Bool.and_false]
                have hkz : ka = zz := by rw [HKA.out, HKEY.out, if_neg (by rw [← HOKV.out, hokf]; simp), HZZ.out]
                subst hokf
                subst hizf
                have heq : ∀ W, (Op.equalIn 10000 23 (.agg (bva ka)) (.agg (bva zz))).run Try.prog W = .ok true W := fun W => by rw [eq_key ka zz HA3.out ZZ3.out W, decide_eq_true hkz]
                have hdm : decide (m < 131072) = false := decide_eq_false h1
                clear hkz h1
                go_wp2_with (first
                          | (refine wpList_store_row rfl 23 (.tmp 14) (.tmp 78) rfl v7.heap.size (bva kb) rfl rfl 23 (bva zz) (heap_alloc_new _ _) HIB.out (by rw [bva_size, bva_size, HB3.out, ZZ3.out]) (bva_one _) ?_
                             generalize hwx : World.setRow _ _ _ = wx105
                             have EB : Below v7.heap.size v7 wx105 := by rw [← hwx]; exact below_setRow ((Below.refl _ _).alloc (Nat.le_refl _) _) (Nat.le_refl _) _
                             have KBxn105 := Lib.hid (show Blk wx105 v7.heap.size (bva kb) 23 by rw [← hwx]; exact setRow_heap _ _ _ _ _ _ (heap_alloc_new _ _))
                             have HTx106 := Lib.hid (HTx104.out.below EB)
                             have HUx106 := Lib.hid (HUx104.out.below EB)
                             have HMx106 := Lib.hid (map_below HMx104.out EB)
                             have HQx106 := Lib.hid (HQx104.out.trans (EB.mono HQx104.out.size))
                             have KAx106 := Lib.hid (KAx104.out.below EB)
                             clear hwx EB HTx104 HUx104 HMx104 HQx104 KAx104
                             have cc := HCL.out _ HQx106.out)
                          | (refine wpList_load_if rfl 23 (.tmp 12) rfl (g := v6.heap.size) rfl KAx106.out Try.underlying23 rfl HIA.out ?_)
                          | (refine wpList_load_if rfl 23 (.tmp 14) rfl (g := v7.heap.size) rfl KBxn105.out Try.underlying23 rfl HIB.out ?_)
                          | (refine wpList_build_if rfl 23 #[] rfl (v := .agg (bva zz)) ?hbld ?_; case hbld => exact HBZ.out _))
                skip
                go_roundw
                case rel => exact ⟨j + 1, by omega, by go_num, HQx106.out⟩
                case measure => simp [intOf]; omega
            · obtain rfl : j = na := by omega
              have HM1 := Lib.hid (map_below HMV.out HBQ.out)
              have HT1 := Lib.hid (HTV.out.below HBQ.out)
              obtain ⟨rb, hrb⟩ : ∃ z, z = wr.heap.size := ⟨_, rfl⟩
              have hvr : v.heap.size ≤ rb := by rw [hrb]; exact HBQ.out.size
              go_wp2_with (at_range
                           refine wpList_range_own _ rfl _ 54 rfl 25 4 law64 Try.underlying54 (boolP Try.prog) w3.heap.size k D rfl HM1.out ?_
                           intro w0 hrg0 hg0 hs0
                           have RG := Lib.hid hrg0
                           have GB := Lib.hid hg0
                           clear hrg0 hg0)
              try go_frame
              rw [← hrb] at RG ⊢
              have EB0 := Lib.hid (HBQ.out.trans ((below_of_grown GB.out).mono HBQ.out.size))
              have HT0 := Lib.hid (HT1.out.below (below_of_grown GB.out))
              clear hrb GB HM1 HT1 hs0
              go_loopw [16] (fun _ wq => ∃ left cnt, wq.ranges Try.prog 25 (boolP Try.prog) w3.heap.size rb k D left cnt ∧ Hid (∀ z, left (.int .u64 z) = true → z ∈ ds) ∧ Tr wq g X F ∧ Below v.heap.size v wq) (fun _ wq => wq.rangeLeft w3.heap.size rb)
              case atStart => exact ⟨_, _, RG.out, HHAS.out, HT0.out, EB0.out⟩
              case round =>
                clear RG HT0 EB0
                obtain ⟨left, cnt, hrg, HLF, htq, hbq⟩ := hrel
                have RGQ := Lib.hid hrg
                have HTQ := Lib.hid htq
                have EBQ := Lib.hid hbq
                have HFC := Lib.hid (show ∀ z kl, keyOf Try.prog 25 (.int .u64 z) = some kl → left kl = true → kl = .int .u64 z ∧ hasI X z = false from fun z kl h1 h2 => by
                  obtain ⟨z', e1, e2, hw⟩ := Maps.keyOf_int_inv Try.underlying25 h1
                  injection e1 with _ e1
                  subst e1
                  rw [e2] at h2
                  refine ⟨e2, ?_⟩
                  rw [HXH.out, decide_eq_true ((HDL.out z).1 (HLF.out z h2)), Bool.not_true, Bool.and_false])
                clear hrg htq hbq
                go_wp2_with (at_next
                             refine wpList_next_ranges _ rfl _ rfl 25 law64 (boolP Try.prog) (Value.int .u64) Value.bool (fun key kl h => by obtain ⟨z, rfl, _⟩ := Maps.keyOf_int_inv Try.underlying25 h; exact ⟨z, rfl⟩) (fun v y h => boolR_inv h) w3.heap.size rb k D left cnt rfl RGQ.out (fun hc0 hl0 => ?_) (fun z c kl y w4 cnt4 hkey hlk hv hat hrg1 hlt1 hg1 hs1 hen => ?_)
                             rotate_left
                             obtain ⟨rfl, hza⟩ := HFC.out z kl hkey hlk
                             have HZA := Lib.hid hza
                             have HT4 := Lib.hid (HTQ.out.but (S := (· = rb)) (but_of_grown hg1 (fun q hq => by injection hq with hq; exact hq.symm)) (fun q hq hS => by have := HFV.out q hq; omega))
                             have RG4 := Lib.hid hrg1
                             have G4 := Lib.hid hg1
                             have hlt4 := hlt1
                             clear hkey hlk hv hat hrg1 hlt1 hg1 hs1 hza)
                · refine (thas_tr HT4.out z).mono ?_
                  rintro e w5 ⟨rfl, bw⟩
                  rw [HZA.out]
                  have HT5 := Lib.hid (HT4.out.below bw)
                  have RG5 := Lib.hid (RG4.out.kept (row := none) (grown_of_below bw) (by simp) (by simp))
                  have hbg := but_of_grown (S := (· = rb)) G4.out (fun q hq => by injection hq with hq; exact hq.symm)
                  have hb4 := EBQ.out.trans (hbg.below (B := v.heap.size) (fun q hq hS => by omega) EBQ.out.size)
                  have HEB5 := Lib.hid (hb4.trans (bw.mono hb4.size))
                  clear bw hbg hb4
                  go_wp2_with fail
                  go_roundw
                  case rel => exact ⟨_, cnt4, RG5.out, fun z' h => HLF.out z' (by rw [Bool.and_eq_true] at h; exact h.1), HT5.out, HEB5.out⟩
                  case measure => rw [RG5.out.left_eq, RGQ.out.left_eq]; exact hlt4
                · go_ret
                  exact ⟨rfl, HBV.out.trans (EBQ.out.mono HBV.out.size)⟩
    · have hda : decide ((na : Int) > 24) = true := decide_eq_true (by omega)
      go_enter Try.func5, Try.ntmps5
      go_wp2_with fail
      refine (ktAwake_any _).mono ?_
      rintro e w1 ⟨rfl, bw⟩
      have CB := Lib.hid (BB.out.trans (bw.mono BB.out.size))
      clear bw B1 BB
      go_wp2_with fail
      refine (ktAwake_any _).mono ?_
      rintro e w2 ⟨rfl, bw⟩
      have CB2 := Lib.hid (CB.out.trans (bw.mono CB.out.size))
      clear bw CB
      go_wp2_with fail
      go_ret
      exact ⟨rfl, CB2.out⟩
  · have hd : decide ((n : Int) > 24) = true := decide_eq_true (by omega)
    go_enter Try.func5, Try.ntmps5
    go_wp2_with fail
    refine (ktAwake_any _).mono ?_
    rintro e w1 ⟨rfl, bw⟩
    have CB := Lib.hid (BB.out.trans (bw.mono BB.out.size))
    clear bw B1 BB
    go_wp2_with fail
    refine (ktAwake_any _).mono ?_
    rintro e w2 ⟨rfl, bw⟩
    have CB2 := Lib.hid (CB.out.trans (bw.mono CB.out.size))
    clear bw CB
    go_wp2_with fail
    go_ret
    exact ⟨rfl, CB2.out⟩
theorem keytreeKeeps_own : ownKnob Try.prog.godebug = none := by kernel_rfl
theorem keytreeKeeps_laid : laidOutB Try.prog = true := by kernel_rfl

set_option maxRecDepth 100000 in
theorem keytreeKeeps_lifted (os : Os) (started : os.Started) (H : Type) (enc : TypeId × Value → H) :
    ReturnsInHanded {} Try.checked os 5 .any (Rows.keytreeKeepsSpec.pre6 enc Try.prog Try.f5 Rows.keytreeKeepsRow.domain false) (Rows.keytreeKeepsSpec.post enc Try.prog Try.f5 false true false false) := by
  refine returnsInHanded_of_change (C := Try.checked) keytreeKeeps_own started (by kernel_rfl) Try.func5
    (ChangeSpec.witness6 (enc := enc) (C := Try.checked) false ⟨#[], #[.agg #[.int .u8 0, .int .u8 0, .int .u8 0, .int .u8 0, .int .u8 0, .int .u8 0, .int .u8 0, .int .u8 0, .int .u8 0, .int .u8 0, .int .u8 0, .int .u8 0, .int .u8 0, .int .u8 0, .int .u8 0, .int .u8 0, .int .u8 0, .int .u8 0, .int .u8 0, .int .u8 0, .int .u8 0, .int .u8 0, .int .u8 0, .int .u8 0, .int .u8 0, .int .u8 0, .int .u8 0, .int .u8 0, .int .u8 0, .int .u8 0, .int .u8 0, .int .u8 0], .slice none 0 0, .slice none 0 0], []⟩ 8 (by kernel_rfl) (by kernel_rfl) (by kernel_rfl) (by kernel_rfl)) ?_
  intro W base args ds gs before hval0 hW _ _
  have hval : ∀ (j : Nat) t v, Try.f5.params[j]? = some t → args[j]? = some v → Value.okWide Try.prog W .any base t v := hval0
  have hW' := hW
  obtain ⟨p, q, hA0, hV, rfl, hfz, hnd⟩ := hW
  have hA : DataW.TrodAll enc Try.prog W 0 (fun _ => true) true Try.f5.params.toList args.toList ds p := hA0
  rw [Try.params5] at hA hval
  obtain ⟨v0, vs0, d0, ds0, p0, q0, hargs, rfl, rfl, h0, r0⟩ := trodAll_cons hA
  obtain ⟨v1, vs1, d1, ds1, p1, q1, rfl, rfl, rfl, h1, r1⟩ := trodAll_cons r0
  obtain ⟨v2, vs2, d2, ds2, p2, q2, rfl, rfl, rfl, h2, r2⟩ := trodAll_cons r1
  obtain ⟨rfl, rfl, rfl⟩ := trodAll_nil r2
  obtain rfl : args = #[v0, v1, v2] := by cases args; simp_all
  obtain ⟨rfl, rfl⟩ := trodVars_none hV
  have lt0 : ∀ x ∈ p0, x.block < W.heap.size := by obtain ⟨m, hm⟩ := h0; exact DataW.trod_lt m _ _ _ hm
  obtain ⟨l0, hl0, rfl⟩ := open_u8s Try.underlying23 Try.underlying5 (by kernel_rfl) (by kernel_rfl) (hval 0 23 v0 rfl rfl) h0
  obtain ⟨a1, n1, c1, rfl⟩ := okWide_slice Try.underlying24 (hval 1 24 v1 rfl rfl)
  have lt1 : ∀ x ∈ p1, x.block < W.heap.size := by obtain ⟨m, hm⟩ := h1; exact DataW.trod_lt m _ _ _ hm
  obtain ⟨l1, hl1, hc1, hm1, hr1, hz1⟩ := open_u64s Try.underlying24 Try.underlying25 (by kernel_rfl) h1
  obtain ⟨a2, n2, c2, rfl⟩ := okWide_slice Try.underlying24 (hval 2 24 v2 rfl rfl)
  have lt2 : ∀ x ∈ p2, x.block < W.heap.size := by obtain ⟨m, hm⟩ := h2; exact DataW.trod_lt m _ _ _ hm
  obtain ⟨l2, hl2, hc2, hm2, hr2, hz2⟩ := open_u64s Try.underlying24 Try.underlying25 (by kernel_rfl) h2
  clear hA0 hval0
  refine (keytreeKeeps_any W l0 hl0 a1 n1 c1 l1 hl1 hc1 hm1 hr1 hz1 a2 n2 c2 l2 hl2 hc2 hm2 hr2 hz2).mono fun e W' ⟨he, bel⟩ => ?_
  subst he
  exact ⟨_, rfl, _, _, _, [], _, [], hW', trodAll_mk1 (shut_bool Try.underlying4 _), (trodAll_cons_mk (Below.trod keytreeKeeps_laid (by kernel_rfl) (of_decide_eq_true (by kernel_rfl)) h0 bel lt0) (trodAll_cons_mk (Below.trod keytreeKeeps_laid (by kernel_rfl) (of_decide_eq_true (by kernel_rfl)) h1 bel lt1) (trodAll_cons_mk (Below.trod keytreeKeeps_laid (by kernel_rfl) (of_decide_eq_true (by kernel_rfl)) h2 bel lt2) trodAll_mk0))), rfl, bel.frame _, fun h => by cases h⟩

theorem keytreeKeeps_holds : Rows.KeytreeKeepsSaid :=
  OpenClaim.holds_of_wide 5 Try.f5 rfl rfl rfl rfl rfl rfl rfl ⟨rfl, rfl, rfl, rfl, rfl⟩ rfl rfl rfl rfl rfl (by kernel_rfl) Try.func5 (by kernel_rfl)
    (of_decide_eq_true (by kernel_rfl)) (by unfold Func.isWrapper; rw [if_neg (of_decide_eq_false (by kernel_rfl))]; exact ⟨rfl, rfl⟩)
    (fun os started H enc _ => keytreeKeeps_lifted os started H enc)

#print axioms keytreeKeeps_holds

end Go.Proofs.Ytkfcllcdkgnfbaa
