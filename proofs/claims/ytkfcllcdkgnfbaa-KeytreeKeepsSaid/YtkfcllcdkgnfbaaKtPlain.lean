/-
  The contract of plain: what a tree holds, as the document's nodes.
-/
import Derived.Test.YtkfcllcdkgnfbaaKtPunct
namespace Go.Proofs.Ytkfcllcdkgnfbaa.Kt
open Go.RowKit
attribute [local go_sem ↓] Go.wp_at_zero Go.wp_at_succ
theorem rd_ndC {w : World} {g : Nat} {x : Nd} {t : TypeId} (h : Blk w g (ndC x) t) : Rd w.heap.size w (some ⟨g, 0, none⟩) (ndV x) := fun k u hu =>
  ⟨_, rfl, h.lt, by rw [add_head, h.cell, ndC, List.getElem?_toArray]; exact hu⟩
theorem nvs_snoc (l : List Nd) {k : Nat} (h : k < l.length) : nvs (l.take (k + 1)) = nvs (l.take k) ++ ndV l[k] := by
  rw [List.take_succ_eq_append_getElem h, nvs_append]; simp [nvs]
theorem info_key : (Try.prog.info? 23).map (·.size) = some 32 := by kernel_rfl
set_option maxRecDepth 100000 in
set_option maxHeartbeats 3200000 in
theorem plain_any {B : Nat} (A : Option Addr) (n c : Nat) (l : List Nd) (w : World) (hl : l.length = n) (h3 : ∀ x ∈ l, x.s.length = 32) (hB : B ≤ w.heap.size) (hr : Rd B w A (nvs l)) (hn : n ≤ 1000000) :
    Calls Try.prog 19 #[.slice A n c] w (RetRowN 32 34 (nvs l) w) := by
  have HL := Lib.hid hl
  have HR := Lib.hid (hr.more hB)
  have H3 := Lib.hid h3
  clear hl hr h3 hB
  obtain ⟨ie, hie, hz0, hz1, hz2⟩ := info_parts info_nodeW
  go_enter Try.func19, Try.ntmps19
  go_wp2_with fail
  go_loopw [3, 4] (fun o i wr => ∃ k A1 c1, k ≤ n ∧ i = .int .i64 (k : Nat) ∧ o = .slice A1 k c1 ∧ Below w.heap.size w wr ∧ wr.ownsRow w.heap.size 32 34 (.slice A1 k c1) k (nvs (l.take k))) (fun _ i _ => n - (intOf i).toNat)
  case atStart => exact ⟨0, none, 0, by omega, rfl, rfl, Below.refl _ _, World.ownsRow_nil _ _ _ _⟩
  case round =>
    obtain ⟨k, A1, c1, hk, rfl, rfl, hbw, how⟩ := hrel
    by_cases hlt : k < n
    · have hkl : k < l.length := by rw [HL.out]; exact hlt
      have hrd := HR.out
      obtain ⟨ad, hA, hbl, _⟩ := rd_node HR.out H3.out hkl
      subst hA
      obtain ⟨x, hxe⟩ : ∃ x, x = l[k] := ⟨_, rfl⟩
      have hs : x.s.length = 32 := by rw [hxe]; exact H3.out _ (List.getElem_mem hkl)
      have hsn := nvs_snoc l hkl
      rw [← hxe] at hsn
      have hcell : ∀ w', Below w.heap.size w w' → ∀ j v, (ndV x)[j]? = some v → w'.cell? ((ad.add (k * 34)).add j) = some v := fun w' hb' j v hv => by
        obtain ⟨ad', hA', _, hc⟩ := rd_node (hrd.below hb') H3.out hkl
        injection hA' with hA'
        subst hA'
        exact hc j v (by rw [← hxe]; exact hv)
      have L0 := Lib.hid (show ∀ w', Below w.heap.size w w' → w'.cell? (ad.add (k * 34)) = some (.int .i64 x.d) from fun w' hb' => by have h := hcell w' hb' 0 _ rfl; rwa [add_zero] at h)
      have L1 := Lib.hid (show ∀ w', Below w.heap.size w w' → w'.cell? ⟨(ad.add (k * 34)).block, (ad.add (k * 34)).off + 1, none⟩ = some (.int .u64 x.a) from fun w' hb' => hcell w' hb' 1 _ rfl)
      have L2 := Lib.hid (show ∀ w', Below w.heap.size w w' → ∀ j v, (bv x.s)[j]? = some v → w'.cell? ((⟨(ad.add (k * 34)).block, (ad.add (k * 34)).off + 2, none⟩ : Addr).add j) = some v from fun w' hb' j v hv => by
        have h := hcell w' hb' (2 + j) v (by rw [ndV, show 2 + j = j + 1 + 1 by omega, List.getElem?_cons_succ, List.getElem?_cons_succ]; exact hv)
        rw [← add_twice] at h
        exact h)
      have HIK : Hid ((Try.prog.info? 23).map (·.size) = some (bv x.s).length) := by rw [bv_length, hs]; exact info_key
      have HBN := Lib.hid (show ∀ W, (Instr.build 32 #[(0, .int .i64 x.d), (1, .int .u64 x.a), (2, .agg (bva x.s))]).run Try.prog W = .ok (.agg (ndC x)) W from fun W => build_node x hs W)
      have k0 : (0 : Int) ≤ (k : Int) := by omega
      have k1 : (k : Int) < (n : Int) := by omega
      have HS := Lib.hid hs
      have HSN := Lib.hid hsn
      have HB := Lib.hid hbw
      have HO := Lib.hid how
      clear hcell hrd hxe hs hsn hbw how
      go_wp2_with fail
      refine wp_region_held_drew (S := fun w' => Below w.heap.size w w') (by kernel_rfl) HB.out.drew (fun hh => ?_)
      have HH := Lib.hid hh
      clear hh
      refine wpAnyH_take (i := 0) (v := ?va0) rfl (by kernel_rfl) (by kernel_rfl) (by kernel_rfl) (fun _ _ _ h => h) (Or.inl ⟨by rfl, fun w' _ => ?ya0⟩) HH.out ?_
      case ya0 => (go_simp; try with_reducible rfl)
      refine wpAnyH_take (i := 1) (v := ?va1) rfl (by kernel_rfl) (by kernel_rfl) (by kernel_rfl) (fun _ _ _ h => h) (Or.inl ⟨by rfl, fun w' _ => ?ya1⟩) HH.out ?_
      case ya1 => (go_simp; try with_reducible rfl)
      try simp only [List.getElem_toArray, List.getElem_cons_succ, List.getElem_cons_zero, Act.put, List.setIfInBounds_toArray, List.set_cons_zero, List.set_cons_succ]
      refine wpAnyH_take (i := 2) (v := ?va2) rfl (by kernel_rfl) (by kernel_rfl) (by kernel_rfl) (fun _ _ _ h => h) (Or.inl ⟨by rfl, fun w' _ => ?ya2⟩) HH.out ?_
      case ya2 => (go_simp; try with_reducible rfl)
      refine wpAnyH_take (i := 3) (v := ?va3) rfl (by kernel_rfl) (by kernel_rfl) (by kernel_rfl) (fun _ _ _ h => h) (Or.inl ⟨by rfl, fun w' _ => ?ya3⟩) HH.out ?_
      case ya3 => (go_simp; try with_reducible rfl)
      refine wpAnyH_take (i := 4) (v := ?va4) rfl (by kernel_rfl) (by kernel_rfl) (by kernel_rfl) (fun _ _ _ h => h) (Or.inl ⟨by rfl, fun w' _ => ?ya4⟩) HH.out ?_
      case ya4 => (go_simp; try with_reducible rfl)
      try simp only [List.getElem_toArray, List.getElem_cons_succ, List.getElem_cons_zero, Act.put, List.setIfInBounds_toArray, List.set_cons_zero, List.set_cons_succ]
      refine wpAnyH_take (i := 5) (v := ?va5) rfl (by kernel_rfl) (by kernel_rfl) (by kernel_rfl) (fun _ _ _ h => h) (Or.inl ⟨by rfl, fun w' hw' => ?ya5⟩) HH.out ?_
      case ya5 => (have cc := L0.out w' hw'; go_simp; try with_reducible rfl)
      refine wpAnyH_take (i := 6) (v := ?va6) rfl (by kernel_rfl) (by kernel_rfl) (by kernel_rfl) (fun _ _ _ h => h) (Or.inl ⟨by rfl, fun w' _ => ?ya6⟩) HH.out ?_
      case ya6 => (go_simp; try with_reducible rfl)
      refine wpAnyH_take (i := 7) (v := ?va7) rfl (by kernel_rfl) (by kernel_rfl) (by kernel_rfl) (fun _ _ _ h => h) (Or.inl ⟨by rfl, fun w' _ => ?ya7⟩) HH.out ?_
      case ya7 => (go_simp; try with_reducible rfl)
      try simp only [List.getElem_toArray, List.getElem_cons_succ, List.getElem_cons_zero, Act.put, List.setIfInBounds_toArray, List.set_cons_zero, List.set_cons_succ]
      refine wpAnyH_take (i := 8) (v := ?va8) rfl (by kernel_rfl) (by kernel_rfl) (by kernel_rfl) (fun _ _ _ h => h) (Or.inl ⟨by rfl, fun w' _ => ?ya8⟩) HH.out ?_
      case ya8 => (go_simp; try with_reducible rfl)
      refine wpAnyH_take (i := 9) (v := ?va9) rfl (by kernel_rfl) (by kernel_rfl) (by kernel_rfl) (fun _ _ _ h => h) (Or.inl ⟨by rfl, fun w' _ => ?ya9⟩) HH.out ?_
      case ya9 => (go_simp; try with_reducible rfl)
      refine wpAnyH_take (i := 10) (v := ?va10) rfl (by kernel_rfl) (by kernel_rfl) (by kernel_rfl) (fun _ _ _ h => h) (Or.inl ⟨by rfl, fun w' hw' => ?ya10⟩) HH.out ?_
      case ya10 => (have cc := L1.out w' hw'; go_simp; try with_reducible rfl)
      try simp only [List.getElem_toArray, List.getElem_cons_succ, List.getElem_cons_zero, Act.put, List.setIfInBounds_toArray, List.set_cons_zero, List.set_cons_succ]
      refine wpAnyH_take (i := 11) (v := ?va11) rfl (by kernel_rfl) (by kernel_rfl) (by kernel_rfl) (fun _ _ _ h => h) (Or.inl ⟨by rfl, fun w' _ => ?ya11⟩) HH.out ?_
      case ya11 => (go_simp; try with_reducible rfl)
      refine wpAnyH_take (i := 12) (v := ?va12) rfl (by kernel_rfl) (by kernel_rfl) (by kernel_rfl) (fun _ _ _ h => h) (Or.inl ⟨by rfl, fun w' _ => ?ya12⟩) HH.out ?_
      case ya12 => (go_simp; try with_reducible rfl)
      refine wpAnyH_take (i := 13) (v := ?va13) rfl (by kernel_rfl) (by kernel_rfl) (by kernel_rfl) (fun _ _ _ h => h) (Or.inl ⟨by rfl, fun w' _ => ?ya13⟩) HH.out ?_
      case ya13 => (go_simp; try with_reducible rfl)
      try simp only [List.getElem_toArray, List.getElem_cons_succ, List.getElem_cons_zero, Act.put, List.setIfInBounds_toArray, List.set_cons_zero, List.set_cons_succ]
      refine wpAnyH_take (i := 14) (v := ?va14) rfl (by kernel_rfl) (by kernel_rfl) (by kernel_rfl) (fun _ _ _ h => h) (Or.inl ⟨by rfl, fun w' _ => ?ya14⟩) HH.out ?_
      case ya14 => (go_simp; try with_reducible rfl)
      refine wpAnyH_take (i := 15) (v := .agg (bva x.s)) rfl (by kernel_rfl) (by kernel_rfl) (by kernel_rfl) (fun _ _ _ h => h) (Or.inl ⟨by rfl, fun w' hw' => ?ya15⟩) HH.out ?_
      case ya15 => exact exec_load_at 23 (.tmp 25) rfl ⟨(ad.add (k * 34)).block, (ad.add (k * 34)).off + 2, none⟩ rfl (L2.out w' hw') Try.underlying23 rfl HIK.out
      refine wpAnyH_take (i := 16) (v := .agg (ndC x)) rfl (by kernel_rfl) (by kernel_rfl) (by kernel_rfl) (fun _ _ _ h => h) (Or.inl ⟨by rfl, fun w' _ => ?ya16⟩) HH.out ?_
      case ya16 =>
        refine exec_build 32 #[(0, .tmp 16), (1, .tmp 21), (2, .tmp 26)] rfl ?_
        simp only [List.map_toArray, List.map_cons, List.map_nil]
        show (Instr.build 32 #[(0, .int .i64 x.d), (1, .int .u64 x.a), (2, .agg (bva x.s))]).run Try.prog _ = _
        exact HBN.out _
      try simp only [List.getElem_toArray, List.getElem_cons_succ, List.getElem_cons_zero, Act.put, List.setIfInBounds_toArray, List.set_cons_zero, List.set_cons_succ]
      refine wpAnyH_ready (rs := [17]) (by kernel_rfl) (by simp) (AllReadyH.cons rfl (fun K hK => ?_) AllReadyH.nil)
      rw [if_pos (by rfl)]
      refine wp_buildSlice 33 32 1 #[(0, .tmp 27)] rfl (ndC x) ie _ Try.underlying33 hie hz0 (by rw [hz1]; omega) (by rw [hz1]; omega) (by rw [hz1]; simp only [List.map_toArray, List.map_cons, List.map_nil]; exact one_fill x HS.out) ?_
      have hbn : Blk (wr.drew.alloc (.cells (ndC x) 32)) wr.heap.size (ndC x) 32 := heap_alloc_new _ _
      have hbb : Below w.heap.size w (wr.drew.alloc (.cells (ndC x) 32)) := HB.out.drew.alloc HB.out.size _
      have P1 := Lib.hid (own_belowN (w' := wr.drew.alloc (.cells (ndC x) 32)) (show World.ownsRow wr.drew w.heap.size 32 34 (.slice A1 k c1) k _ from HO.out) ((Below.refl _ _).alloc (Nat.le_refl _) _))
      refine hK.out _ _ hbb (fun hh => ?_)
      clear hK K hh HH
      have RN := Lib.hid (rd_ndC hbn)
      have BN := Lib.hid hbb
      clear hbn hbb
      try simp only [List.getElem_toArray, List.getElem_cons_succ, List.getElem_cons_zero, Act.put, List.setIfInBounds_toArray, List.set_cons_zero, List.set_cons_succ]
      refine wpAnyH_ready (rs := [18]) (by kernel_rfl) (by simp) (AllReadyH.cons rfl (fun K hK => ?_) AllReadyH.nil)
      refine step_appN _ (by rfl) (.tmp 11) (.tmp 28) 33 rfl nodesElt (base := w.heap.size) (v := .slice A1 k c1) rfl P1.out (m := 1) rfl RN.out (by rw [ndV_length HS.out]) (ndV_one _) (by omega) BN.out.size ?_
      intro A3 c3 w3 ho3 hg3 _
      have hb3 : Below w.heap.size w w3 := app_belowN BN.out P1.out hg3 (Nat.le_refl _) BN.out.size
      rw [← HSN.out] at ho3
      have O3 := Lib.hid ho3
      have B3 := Lib.hid hb3
      refine hK.out _ _ hb3 (fun hh => ?_)
      have HH := Lib.hid hh
      clear hh hK K ho3 hg3 hb3 P1 RN BN HO HB
      refine wpAnyH_take (i := 19) (v := ?vb19) rfl (by kernel_rfl) (by kernel_rfl) (by kernel_rfl) (fun _ _ _ h => h) (Or.inl ⟨by rfl, fun w' _ => ?yb19⟩) HH.out ?_
      case yb19 => (go_simp; try with_reducible rfl)
      try simp only [List.getElem_toArray, List.getElem_cons_succ, List.getElem_cons_zero, Act.put, List.setIfInBounds_toArray, List.set_cons_zero, List.set_cons_succ]
      refine wpAnyH_done (by kernel_rfl) ?_ _
      go_wp2_with fail
      go_roundw
      case rel => exact ⟨k + 1, A3, c3, by omega, by go_num, rfl, HH.out, O3.out⟩
      case measure => simp [intOf]; omega
    · obtain rfl : k = n := by omega
      go_wp2
      go_ret
      rw [List.take_of_length_le (by rw [HL.out]; exact Nat.le_refl _)] at how
      exact ⟨A1, k, c1, rfl, how, hbw⟩
end Go.Proofs.Ytkfcllcdkgnfbaa.Kt
