/-
  Whether any nodes may be held is the document's; a tree that holds them has their leaves, with the keys that the document tells, and is punctured as the document says; for every row of at most 24 nodes (a longer one comes out true unasked) and every two numbers.
-/
import Derived.Test.YtkfcllcdkgnfbaaKtMay
import Derived.Test.YtkfcllcdkgnfbaaKtPlain
import Derived.Test.YtkfcllcdkgnfbaaRows
import Derived.Test.YtkfcllcdkgnfbaaOpen
import Derived.Test.YtkfcllcdkgnfbaaOpenA
import Derived.ProofKit
import Derived.OpenShut
import Derived.ShutString
import Derived.ChangeOld
namespace Go.Proofs.Ytkfcllcdkgnfbaa
open Go.RowKit Go.ChangeShapes Go.WideShapes Go.ChangeAt
open Kt
attribute [local go_sem ↓] Go.wp_at_zero Go.wp_at_succ
set_option maxRecDepth 100000 in
set_option maxHeartbeats 6400000 in
theorem keytreeFrom_any (w : World) (A : Option Addr) (n c : Nat) (l : List Nd) (hl : l.length = n) (hc : n ≤ c) (hm : c ≤ maxLen) (hr : Rd w.heap.size w A (nvs l)) (hz : ∀ y ∈ l, (-9223372036854775808 ≤ y.d ∧ y.d ≤ 9223372036854775807) ∧ (0 ≤ y.a ∧ y.a ≤ 18446744073709551615) ∧ y.s.length = 32) (a : Int) (ha : 0 ≤ a ∧ a ≤ 18446744073709551615) (b : Int) (hb : 0 ≤ b ∧ b ≤ 18446744073709551615) :
    Calls Try.prog 4 #[.slice A n c, .int .u64 a, .int .u64 b] w (RetB (.bool true) w) := by
  have HL := Lib.hid hl
  have HR := Lib.hid hr
  have HZ := Lib.hid hz
  have H3 := Lib.hid (show ∀ x ∈ l, x.s.length = 32 from fun x hx => (hz x hx).2.2)
  have HA := Lib.hid ha
  have HBb := Lib.hid hb
  have hcm : n ≤ 9223372036854775807 := by unfold maxLen at hm; omega
  clear hl hr hz hc hm ha hb
  by_cases h24 : n ≤ 24
  · have hd : decide ((n : Int) > 24) = false := decide_eq_false (by omega)
    clear hcm
    go_enter Try.func4, Try.ntmps4
    go_wp2_with fail
    refine (ktAwake_any _).mono ?_
    rintro e w1 ⟨rfl, bw⟩
    have CB := Lib.hid bw
    clear bw
    obtain ⟨ie, hie, hz0, hz1, hz2⟩ := info_parts info_heldW
    go_wp2_with fail
    go_loopw [7, 8] (fun o i wr => ∃ k A1 c1, k ≤ n ∧ i = .int .i64 (k : Nat) ∧ o = .slice A1 k c1 ∧ Below w.heap.size w wr ∧ wr.ownsRow w.heap.size 48 34 (.slice A1 k c1) k (nvs (l.take k))) (fun _ i _ => n - (intOf i).toNat)
    case atStart => exact ⟨0, none, 0, by omega, rfl, rfl, CB.out, World.ownsRow_nil _ _ _ _⟩
    case round =>
      clear CB
      obtain ⟨k, A1, c1, hk, rfl, rfl, hbw, how⟩ := hrel
      by_cases hlt : k < n
      · have hkl : k < l.length := by rw [HL.out]; exact hlt
        have hrd := HR.out
        obtain ⟨ad, hA, hbl, _⟩ := rd_node HR.out H3.out hkl
        subst hA
        obtain ⟨x, hxe⟩ : ∃ x, x = l[k] := ⟨_, rfl⟩
        have hs : x.s.length = 32 := by rw [hxe]; exact H3.out _ (List.getElem_mem hkl)
        have hsn := nvs_snoc l hkl
        rw [← hxe] at hsn
        have hcell : ∀ w', Below w.heap.size w w' → ∀ j v, (ndV x)[j]? = some v → w'.cell? ((ad.add (k * 34)).add j) = some v := fun w' hb' j v hv => by
          obtain ⟨ad', hA', _, hc⟩ := rd_node (hrd.below hb') H3.out hkl
          injection hA' with hA'
          subst hA'
          exact hc j v (by rw [← hxe]; exact hv)
        have L0 := Lib.hid (show ∀ w', Below w.heap.size w w' → w'.cell? (ad.add (k * 34)) = some (.int .i64 x.d) from fun w' hb' => by have h := hcell w' hb' 0 _ rfl; rwa [add_zero] at h)
        have L1 := Lib.hid (show ∀ w', Below w.heap.size w w' → w'.cell? ⟨(ad.add (k * 34)).block, (ad.add (k * 34)).off + 1, none⟩ = some (.int .u64 x.a) from fun w' hb' => hcell w' hb' 1 _ rfl)
        have L2 := Lib.hid (show ∀ w', Below w.heap.size w w' → ∀ j v, (bv x.s)[j]? = some v → w'.cell? ((⟨(ad.add (k * 34)).block, (ad.add (k * 34)).off + 2, none⟩ : Addr).add j) = some v from fun w' hb' j v hv => by
          have h := hcell w' hb' (2 + j) v (by rw [ndV, show 2 + j = j + 1 + 1 by omega, List.getElem?_cons_succ, List.getElem?_cons_succ]; exact hv)
          rw [← add_twice] at h
          exact h)
        have HIK : Hid ((Try.prog.info? 22).map (·.size) = some (bv x.s).length) := by rw [bv_length, hs]; exact info_b32
        have HBN := Lib.hid (show ∀ W, (Instr.build 48 #[(0, .int .i64 x.d), (1, .int .u64 x.a), (2, .agg (bva x.s))]).run Try.prog W = .ok (.agg (ndC x)) W from fun W => build_held x hs W)
        have k0 : (0 : Int) ≤ (k : Int) := by omega
        have k1 : (k : Int) < (n : Int) := by omega
        have ek : IntKind.i64.wrap ((k : Int) + 1) = ((k + 1 : Nat) : Int) := by rw [IntWalk.i64_in _ (by omega)]; omega
        have HS := Lib.hid hs
        have HSN := Lib.hid hsn
        have HB := Lib.hid hbw
        have HO := Lib.hid how
        clear hcell hrd hxe hs hsn hbw how hbl
        go_wp2_with fail
        refine wp_region_held_drew (S := fun w' => Below w.heap.size w w') (by kernel_rfl) HB.out.drew (fun hh => ?_)
        have HH := Lib.hid hh
        clear hh
        refine wpAnyH_take (i := 0) (v := ?va0) rfl (by kernel_rfl) (by kernel_rfl) (by kernel_rfl) (fun _ _ _ h => h) (Or.inl ⟨by rfl, fun w' _ => ?ya0⟩) HH.out ?_
        case ya0 => (go_simp; try with_reducible rfl)
        refine wpAnyH_take (i := 1) (v := ?va1) rfl (by kernel_rfl) (by kernel_rfl) (by kernel_rfl) (fun _ _ _ h => h) (Or.inl ⟨by rfl, fun w' _ => ?ya1⟩) HH.out ?_
        case ya1 => (go_simp; try with_reducible rfl)
        try simp only [List.getElem_toArray, List.getElem_cons_succ, List.getElem_cons_zero, Act.put, List.setIfInBounds_toArray, List.set_cons_zero, List.set_cons_succ]
        refine wpAnyH_take (i := 2) (v := ?va2) rfl (by kernel_rfl) (by kernel_rfl) (by kernel_rfl) (fun _ _ _ h => h) (Or.inl ⟨by rfl, fun w' _ => ?ya2⟩) HH.out ?_
        case ya2 => (go_simp; try with_reducible rfl)
        refine wpAnyH_take (i := 3) (v := ?va3) rfl (by kernel_rfl) (by kernel_rfl) (by kernel_rfl) (fun _ _ _ h => h) (Or.inl ⟨by rfl, fun w' _ => ?ya3⟩) HH.out ?_
        case ya3 => (go_simp; try with_reducible rfl)
        refine wpAnyH_take (i := 4) (v := ?va4) rfl (by kernel_rfl) (by kernel_rfl) (by kernel_rfl) (fun _ _ _ h => h) (Or.inl ⟨by rfl, fun w' _ => ?ya4⟩) HH.out ?_
        case ya4 => (go_simp; try with_reducible rfl)
        try simp only [List.getElem_toArray, List.getElem_cons_succ, List.getElem_cons_zero, Act.put, List.setIfInBounds_toArray, List.set_cons_zero, List.set_cons_succ]
        refine wpAnyH_take (i := 5) (v := ?va5) rfl (by kernel_rfl) (by kernel_rfl) (by kernel_rfl) (fun _ _ _ h => h) (Or.inl ⟨by rfl, fun w' hw' => ?ya5⟩) HH.out ?_
        case ya5 => (have cc := L0.out w' hw'; go_simp; try with_reducible rfl)
        refine wpAnyH_take (i := 6) (v := ?va6) rfl (by kernel_rfl) (by kernel_rfl) (by kernel_rfl) (fun _ _ _ h => h) (Or.inl ⟨by rfl, fun w' _ => ?ya6⟩) HH.out ?_
        case ya6 => (go_simp; try with_reducible rfl)
        refine wpAnyH_take (i := 7) (v := ?va7) rfl (by kernel_rfl) (by kernel_rfl) (by kernel_rfl) (fun _ _ _ h => h) (Or.inl ⟨by rfl, fun w' _ => ?ya7⟩) HH.out ?_
        case ya7 => (go_simp; try with_reducible rfl)
        try simp only [List.getElem_toArray, List.getElem_cons_succ, List.getElem_cons_zero, Act.put, List.setIfInBounds_toArray, List.set_cons_zero, List.set_cons_succ]
        refine wpAnyH_take (i := 8) (v := ?va8) rfl (by kernel_rfl) (by kernel_rfl) (by kernel_rfl) (fun _ _ _ h => h) (Or.inl ⟨by rfl, fun w' _ => ?ya8⟩) HH.out ?_
        case ya8 => (go_simp; try with_reducible rfl)
        refine wpAnyH_take (i := 9) (v := ?va9) rfl (by kernel_rfl) (by kernel_rfl) (by kernel_rfl) (fun _ _ _ h => h) (Or.inl ⟨by rfl, fun w' _ => ?ya9⟩) HH.out ?_
        case ya9 => (go_simp; try with_reducible rfl)
        refine wpAnyH_take (i := 10) (v := ?va10) rfl (by kernel_rfl) (by kernel_rfl) (by kernel_rfl) (fun _ _ _ h => h) (Or.inl ⟨by rfl, fun w' hw' => ?ya10⟩) HH.out ?_
        case ya10 => (have cc := L1.out w' hw'; go_simp; try with_reducible rfl)
        try simp only [List.getElem_toArray, List.getElem_cons_succ, List.getElem_cons_zero, Act.put, List.setIfInBounds_toArray, List.set_cons_zero, List.set_cons_succ]
        refine wpAnyH_take (i := 11) (v := ?va11) rfl (by kernel_rfl) (by kernel_rfl) (by kernel_rfl) (fun _ _ _ h => h) (Or.inl ⟨by rfl, fun w' _ => ?ya11⟩) HH.out ?_
        case ya11 => (go_simp; try with_reducible rfl)
        refine wpAnyH_take (i := 12) (v := ?va12) rfl (by kernel_rfl) (by kernel_rfl) (by kernel_rfl) (fun _ _ _ h => h) (Or.inl ⟨by rfl, fun w' _ => ?ya12⟩) HH.out ?_
        case ya12 => (go_simp; try with_reducible rfl)
        refine wpAnyH_take (i := 13) (v := ?va13) rfl (by kernel_rfl) (by kernel_rfl) (by kernel_rfl) (fun _ _ _ h => h) (Or.inl ⟨by rfl, fun w' _ => ?ya13⟩) HH.out ?_
        case ya13 => (go_simp; try with_reducible rfl)
        try simp only [List.getElem_toArray, List.getElem_cons_succ, List.getElem_cons_zero, Act.put, List.setIfInBounds_toArray, List.set_cons_zero, List.set_cons_succ]
        refine wpAnyH_take (i := 14) (v := ?va14) rfl (by kernel_rfl) (by kernel_rfl) (by kernel_rfl) (fun _ _ _ h => h) (Or.inl ⟨by rfl, fun w' _ => ?ya14⟩) HH.out ?_
        case ya14 => (go_simp; try with_reducible rfl)
        refine wpAnyH_take (i := 15) (v := .agg (bva x.s)) rfl (by kernel_rfl) (by kernel_rfl) (by kernel_rfl) (fun _ _ _ h => h) (Or.inl ⟨by rfl, fun w' hw' => ?ya15⟩) HH.out ?_
        case ya15 => exact exec_load_at 22 (.tmp 43) rfl ⟨(ad.add (k * 34)).block, (ad.add (k * 34)).off + 2, none⟩ rfl (L2.out w' hw') Try.underlying22 rfl HIK.out
        refine wpAnyH_take (i := 16) (v := .agg (ndC x)) rfl (by kernel_rfl) (by kernel_rfl) (by kernel_rfl) (fun _ _ _ h => h) (Or.inl ⟨by rfl, fun w' _ => ?ya16⟩) HH.out ?_
        case ya16 =>
          refine exec_build 48 #[(0, .tmp 34), (1, .tmp 39), (2, .tmp 44)] rfl ?_
          simp only [List.map_toArray, List.map_cons, List.map_nil]
          show (Instr.build 48 #[(0, .int .i64 x.d), (1, .int .u64 x.a), (2, .agg (bva x.s))]).run Try.prog _ = _
          exact HBN.out _
        try simp only [List.getElem_toArray, List.getElem_cons_succ, List.getElem_cons_zero, Act.put, List.setIfInBounds_toArray, List.set_cons_zero, List.set_cons_succ]
        refine wpAnyH_ready (rs := [17]) (by kernel_rfl) (by simp) (AllReadyH.cons rfl (fun K hK => ?_) AllReadyH.nil)
        rw [if_pos (by rfl)]
        refine wp_buildSlice 40 48 1 #[(0, .tmp 45)] rfl (ndC x) ie _ Try.underlying40 hie hz0 (by rw [hz1]; omega) (by rw [hz1]; omega) (by rw [hz1]; simp only [List.map_toArray, List.map_cons, List.map_nil]; exact one_fill x HS.out) ?_
        have hbn : Blk (wr.drew.alloc (.cells (ndC x) 48)) wr.heap.size (ndC x) 48 := heap_alloc_new _ _
        have hbb : Below w.heap.size w (wr.drew.alloc (.cells (ndC x) 48)) := HB.out.drew.alloc HB.out.size _
        have P1 := Lib.hid (own_belowN (w' := wr.drew.alloc (.cells (ndC x) 48)) (show World.ownsRow wr.drew w.heap.size 48 34 (.slice A1 k c1) k _ from HO.out) ((Below.refl _ _).alloc (Nat.le_refl _) _))
        refine hK.out _ _ hbb (fun hh => ?_)
        clear hK K hh HH
        have RN := Lib.hid (rd_ndC hbn)
        have BN := Lib.hid hbb
        clear hbn hbb
        try simp only [List.getElem_toArray, List.getElem_cons_succ, List.getElem_cons_zero, Act.put, List.setIfInBounds_toArray, List.set_cons_zero, List.set_cons_succ]
        refine wpAnyH_ready (rs := [18]) (by kernel_rfl) (by simp) (AllReadyH.cons rfl (fun K hK => ?_) AllReadyH.nil)
        refine step_appN _ (by rfl) (.tmp 29) (.tmp 46) 40 rfl heldsElt (base := w.heap.size) (v := .slice A1 k c1) rfl P1.out (m := 1) rfl RN.out (by rw [ndV_length HS.out]) (ndV_one _) (by omega) BN.out.size ?_
        intro A3 c3 w3 ho3 hg3 _
        have hb3 : Below w.heap.size w w3 := app_belowN BN.out P1.out hg3 (Nat.le_refl _) BN.out.size
        rw [← HSN.out] at ho3
        have O3 := Lib.hid ho3
        have B3 := Lib.hid hb3
        refine hK.out _ _ hb3 (fun hh => ?_)
        have HH := Lib.hid hh
        clear hh hK K ho3 hg3 hb3 P1 RN BN HO HB
        refine wpAnyH_take (i := 19) (v := ?vb19) rfl (by kernel_rfl) (by kernel_rfl) (by kernel_rfl) (fun _ _ _ h => h) (Or.inl ⟨by rfl, fun w' _ => ?yb19⟩) HH.out ?_
        case yb19 => (go_simp; try with_reducible rfl)
        try simp only [List.getElem_toArray, List.getElem_cons_succ, List.getElem_cons_zero, Act.put, List.setIfInBounds_toArray, List.set_cons_zero, List.set_cons_succ]
        refine wpAnyH_done (by kernel_rfl) ?_ _
        go_wp2_with fail
        go_roundw
        case rel => exact ⟨k + 1, A3, c3, by omega, by go_num, rfl, HH.out, O3.out⟩
        case measure => simp [intOf]; omega
      · obtain rfl : k = n := by omega
        have how' := how
        rw [List.take_of_length_le (by rw [HL.out]; exact Nat.le_refl _)] at how'
        have HO := Lib.hid how'
        have HB := Lib.hid hbw
        clear how how' hbw
        go_wp2_with fail
        refine (from_any A1 k c1 l _ HL.out H3.out (fun y hy => (HZ.out y hy).2.1.1) (Nat.le_refl _) (Rd.ownN HO.out) (by omega)).mono ?_
        rintro e v4 ⟨⟨hok, g, F, rfl, ht, hF⟩ | ⟨hnot, rfl⟩, bw⟩
        · obtain ⟨zz, hzz⟩ : ∃ zz : List UInt8, zz = List.replicate 32 0 := ⟨_, rfl⟩
          have hz22 : ∀ W, (zeroValue 22).run Try.prog W = .ok (.agg (bva zz)) W := fun _ => by rw [hzz]; kernel_rfl
          have hz23 : ∀ W, (zeroValue 23).run Try.prog W = .ok (.agg (bva zz)) W := fun _ => by rw [hzz]; kernel_rfl
          have ZZ3 : Hid (zz.length = 32) := by show _ = _; rw [hzz]; rfl
          obtain ⟨hit, hhit⟩ : ∃ z, z = hasI l a := ⟨_, rfl⟩
          obtain ⟨kk, hkk⟩ : ∃ kk, kk = keyK l a := ⟨_, rfl⟩
          have hk3 : kk.length = 32 := by rw [hkk]; exact keyK_length H3.out a
          have HK3 := Lib.hid hk3
          have HIK : Hid ((Try.prog.info? 23).map (·.size) = some (bva kk).size) := by rw [bva_size, hk3]; exact info_keyL
          have HIB : Hid ((Try.prog.info? 22).map (·.size) = some (bva kk).size) := by rw [bva_size, hk3]; exact info_b32
          have HHV := Lib.hid hhit
          have HKK := Lib.hid hkk
          have heq : ∀ W, (Op.equalIn 10000 23 (.agg (bva kk)) (.agg (bva kk))).run Try.prog W = .ok true W := fun W => by rw [eq_key kk kk hk3 hk3 W, decide_eq_true rfl]
          have hbb : (hit != hit) = false := bne_self_eq_false hit
          have HOK := Lib.hid hok
          have hxl : ∀ n1, (nvs l).length = n1 * 34 → l.length = n1 ∧ n1 ≤ 131072 := fun n1 h => by
            rw [nvs_length H3.out] at h
            have := HL.out
            exact ⟨by omega, by omega⟩
          have HXL := Lib.hid hxl
          obtain ⟨Y, hY⟩ : ∃ Y, Y = punL l b := ⟨_, rfl⟩
          have hyo : okS 0 Y := by rw [hY]; exact punL_ok b hok
          have hyl : ∀ n1, (nvs Y).length = n1 * 34 → Y.length = n1 ∧ n1 ≤ 131072 := fun n1 h => by
            rw [nvs_length (okS_len hyo)] at h
            have := okS_few hyo
            exact ⟨by omega, by omega⟩
          have HYV := Lib.hid hY
          have HYO := Lib.hid hyo
          have HYL := Lib.hid hyl
          have HT := Lib.hid ht
          have hsz4 := HB.out.size
          have HF := Lib.hid (show ∀ q, F q → w.heap.size ≤ q from fun q hq => Nat.le_trans hsz4 (hF q hq))
          have HB2 := Lib.hid (HB.out.trans (bw.mono HB.out.size))
          clear hzz hhit hkk hk3 hok hxl hY hyo hyl ht hF bw HB HO
          go_wp2_with fail
          refine (may_any A k c l _ HL.out H3.out (fun y hy => ⟨(HZ.out y hy).1.1, (HZ.out y hy).2.1.1⟩) (HB2.out.size) (HR.out.below HB2.out) (by omega)).mono ?_
          rintro e v5 ⟨m, rfl, hm, bw⟩
          obtain rfl : m = true := hm.2 HOK.out
          have HTx101 := Lib.hid (HT.out.below bw)
          have HBx101 := Lib.hid (HB2.out.trans (bw.mono HB2.out.size))
          clear bw hm HT HB2
          go_wp2_with fail
          refine (tkey_tr HTx101.out a).mono ?_
          rintro e v6 ⟨rfl, bw⟩
          rw [keyV_form, ← HKK.out, ← HHV.out]
          have HTx102 := Lib.hid (HTx101.out.below bw)
          have HBx102 := Lib.hid (HBx101.out.trans (bw.mono HBx101.out.size))
          clear bw HTx101 HBx101
          go_wp2_with (refine wpList_store_row rfl 23 (.tmp 11) (.tmp 68) rfl v6.heap.size (bva kk) rfl rfl 23 (bva zz) (heap_alloc_new _ _) HIK.out (by rw [bva_size, bva_size, HK3.out, ZZ3.out]) (bva_one _) ?_
                       generalize hwx : World.setRow _ _ _ = wx103
                       have EB : Below v6.heap.size v6 wx103 := by rw [← hwx]; exact below_setRow ((Below.refl _ _).alloc (Nat.le_refl _) _) (Nat.le_refl _) _
                       have KAxn103 := Lib.hid (show Blk wx103 v6.heap.size (bva kk) 23 by rw [← hwx]; exact setRow_heap _ _ _ _ _ _ (heap_alloc_new _ _))
                       have HTx104 := Lib.hid (HTx102.out.below EB)
                       have HBx104 := Lib.hid (HBx102.out.trans (EB.mono HBx102.out.size))
                       clear hwx EB HTx102 HBx102)
          refine (key_any A k c l a _ HL.out (okS_N HOK.out) (HBx104.out.size) (HR.out.below HBx104.out) (by omega) (by have := HA.out; omega)).mono ?_
          rintro e v7 ⟨rfl, bw⟩
          rw [keyV_form, ← HKK.out, ← HHV.out]
          have HTx105 := Lib.hid (HTx104.out.below bw)
          have HBx105 := Lib.hid (HBx104.out.trans (bw.mono HBx104.out.size))
          have KAx105 := Lib.hid (KAxn103.out.below bw)
          clear bw HTx104 HBx104 KAxn103
          go_wp2_with (first
                    | (refine wpList_store_row rfl 22 (.tmp 13) (.tmp 74) rfl v7.heap.size (bva kk) rfl rfl 22 (bva zz) (heap_alloc_new _ _) HIB.out (by rw [bva_size, bva_size, HK3.out, ZZ3.out]) (bva_one _) ?_
                       generalize hwx : World.setRow _ _ _ = wx106
                       have EB : Below v7.heap.size v7 wx106 := by rw [← hwx]; exact below_setRow ((Below.refl _ _).alloc (Nat.le_refl _) _) (Nat.le_refl _) _
                       have KBxn106 := Lib.hid (show Blk wx106 v7.heap.size (bva kk) 22 by rw [← hwx]; exact setRow_heap _ _ _ _ _ _ (heap_alloc_new _ _))
                       have HTx107 := Lib.hid (HTx105.out.below EB)
                       have HBx107 := Lib.hid (HBx105.out.trans (EB.mono HBx105.out.size))
                       have KAx107 := Lib.hid (KAx105.out.below EB)
                       clear hwx EB HTx105 HBx105 KAx105)
                    | (refine wpList_load_if rfl 23 (.tmp 11) rfl (g := v6.heap.size) rfl KAx107.out Try.underlying23 rfl HIK.out ?_)
                    | (refine wpList_load_if rfl 22 (.tmp 13) rfl (g := v7.heap.size) rfl KBxn106.out Try.underlying22 rfl HIB.out ?_))
          refine (theld_tr HTx107.out).mono ?_
          rintro e v8 ⟨A5, n5, c5, rfl, ho, bw⟩
          have HN5 := Lib.hid (HXL.out n5 ho.1)
          have O5 := Lib.hid ho
          have HTx108 := Lib.hid (HTx107.out.below bw)
          have HBx108 := Lib.hid (HBx107.out.trans (bw.mono HBx107.out.size))
          clear bw ho HTx107 HBx107
          go_wp2_with fail
          refine (plain_any A5 n5 c5 l _ HN5.out.1 H3.out (Nat.le_refl _) (Rd.ownN O5.out) (by have := HN5.out.2; omega)).mono ?_
          rintro e v9 ⟨A6, n6, c6, rfl, ho, bw⟩
          have HN6 := Lib.hid (HXL.out n6 ho.1)
          have O6 := Lib.hid ho
          have HTx109 := Lib.hid (HTx108.out.below bw)
          have HBx109 := Lib.hid (HBx108.out.trans (bw.mono HBx108.out.size))
          have O5x109 := Lib.hid (own_belowN O5.out bw)
          clear bw ho HTx108 HBx108 O5
          go_wp2_with fail
          refine (same_any A6 A n6 k c6 c l l _ HN6.out.1 HL.out H3.out H3.out (Rd.ownN O6.out) (HR.out.below HBx109.out) (by have := HN6.out.2; unfold maxLen; omega) (by unfold maxLen; omega)).mono ?_
          rintro e v10 ⟨rfl, q, rfl⟩
          rw [decide_eq_true (rfl : l = l)]
          have bw : Below v9.heap.size v9 (v9.drewN q) := below_drewN' (Below.refl _ _) q
          have HTx110 := Lib.hid (HTx109.out.below bw)
          have HBx110 := Lib.hid (HBx109.out.trans (bw.mono HBx109.out.size))
          have O6x110 := Lib.hid (own_belowN O6.out bw)
          clear bw HTx109 HBx109 O6
          generalize v9.drewN q = v10 at *
          go_wp2_with fail
          refine (tcount_tr HTx110.out).mono ?_
          rintro e v11 ⟨rfl, bw⟩
          have HTx111 := Lib.hid (HTx110.out.below bw)
          have HBx111 := Lib.hid (HBx110.out.trans (bw.mono HBx110.out.size))
          clear bw HTx110 HBx110
          go_wp2_with fail
          refine (count_any A k c l _ HL.out (okS_N HOK.out) (HR.out.below HBx111.out) (by omega)).mono ?_
          rintro e v12 ⟨rfl, rfl⟩
          generalize countL l = CL
          have hcl : (CL != CL) = false := bne_self_eq_false CL
          go_wp2_with fail
          refine (tpuncture_any g l F b _ HTx111.out).mono ?_
          rintro e v13 ⟨rfl, hp⟩
          obtain ⟨F5, ht5, hF5, hb5⟩ := pun_one hp HF.out HBx111.out.size
          rw [← HYV.out] at ht5
          have HT5 := Lib.hid ht5
          have HB5 := Lib.hid (HBx111.out.trans hb5)
          clear hp ht5 hF5 hb5 HTx111 HBx111
          go_wp2_with fail
          refine (theld_tr HT5.out).mono ?_
          rintro e v14 ⟨A7, n7, c7, rfl, ho, bw⟩
          have HN7 := Lib.hid (HYL.out n7 ho.1)
          have O7 := Lib.hid ho
          have HTx112 := Lib.hid (HT5.out.below bw)
          have HBx112 := Lib.hid (HB5.out.trans (bw.mono HB5.out.size))
          clear bw ho HT5 HB5
          go_wp2_with fail
          refine (plain_any A7 n7 c7 Y _ HN7.out.1 (okS_len HYO.out) (Nat.le_refl _) (Rd.ownN O7.out) (by have := HN7.out.2; omega)).mono ?_
          rintro e v15 ⟨A8, n8, c8, rfl, ho, bw⟩
          have HN8 := Lib.hid (HYL.out n8 ho.1)
          have O8 := Lib.hid ho
          have HBx113 := Lib.hid (HBx112.out.trans (bw.mono HBx112.out.size))
          have O7x113 := Lib.hid (own_belowN O7.out bw)
          clear bw ho HBx112 O7
          go_wp2_with fail
          refine (puncture_any A k c l b _ HL.out (okS_N HOK.out) (HBx113.out.size) (HR.out.below HBx113.out) (by omega) (by have := HBb.out; omega)).mono ?_
          rintro e v16 ⟨A9, n9, c9, rfl, ho, bw⟩
          rw [← HYV.out] at ho
          have HN9 := Lib.hid (HYL.out n9 ho.1)
          have O9 := Lib.hid ho
          have HBx114 := Lib.hid (HBx113.out.trans (bw.mono HBx113.out.size))
          have O8x114 := Lib.hid (own_belowN O8.out bw)
          clear bw ho HBx113 O8
          go_wp2_with fail
          refine (same_any A8 A9 n8 n9 c8 c9 Y Y _ HN8.out.1 HN9.out.1 (okS_len HYO.out) (okS_len HYO.out) (Rd.ownN O8x114.out) (Rd.ownN O9.out) (by have := HN8.out.2; unfold maxLen; omega) (by have := HN9.out.2; unfold maxLen; omega)).mono ?_
          rintro e v17 ⟨rfl, q, rfl⟩
          rw [decide_eq_true (rfl : Y = Y)]
          have HBF := Lib.hid (below_drewN' HBx114.out q)
          go_wp2_with fail
          go_ret
          exact ⟨rfl, HBF.out⟩
        · have HNOT := Lib.hid hnot
          have HB2 := Lib.hid (HB.out.trans (bw.mono HB.out.size))
          clear hnot bw HB
          go_wp2_with fail
          refine (may_any A k c l _ HL.out H3.out (fun y hy => ⟨(HZ.out y hy).1.1, (HZ.out y hy).2.1.1⟩) HB2.out.size (HR.out.below HB2.out) (by omega)).mono ?_
          rintro e v5 ⟨m, rfl, hm, bw⟩
          have hmf : m = false := by
            cases m with
            | false => rfl
            | true => exact absurd (hm.1 rfl) HNOT.out
          subst hmf
          have HB3 := Lib.hid (HB2.out.trans (bw.mono HB2.out.size))
          clear hm bw HB2
          go_wp2_with fail
          go_ret
          exact ⟨rfl, HB3.out⟩
  · have hd : decide ((n : Int) > 24) = true := decide_eq_true (by omega)
    go_enter Try.func4, Try.ntmps4
    go_wp2_with fail
    refine (ktAwake_any _).mono ?_
    rintro e w1 ⟨rfl, bw⟩
    have CB := Lib.hid bw
    clear bw
    go_wp2_with fail
    refine (ktAwake_any _).mono ?_
    rintro e w2 ⟨rfl, bw⟩
    have CB2 := Lib.hid (CB.out.trans (bw.mono CB.out.size))
    clear bw CB
    go_wp2_with fail
    go_ret
    exact ⟨rfl, CB2.out⟩
theorem keytreeFrom_own : ownKnob Try.prog.godebug = none := by kernel_rfl
theorem keytreeFrom_laid : laidOutB Try.prog = true := by kernel_rfl

set_option maxRecDepth 100000 in
theorem keytreeFrom_lifted (os : Os) (started : os.Started) (H : Type) (enc : TypeId × Value → H) :
    ReturnsInHanded {} Try.checked os 4 .any (Rows.keytreeFromSpec.pre6 enc Try.prog Try.f4 Rows.keytreeFromRow.domain false) (Rows.keytreeFromSpec.post enc Try.prog Try.f4 false true false false) := by
  refine returnsInHanded_of_change (C := Try.checked) keytreeFrom_own started (by kernel_rfl) Try.func4
    (ChangeSpec.witness6 (enc := enc) (C := Try.checked) false ⟨#[], #[.slice none 0 0, .int .u64 0, .int .u64 0], []⟩ 8 (by kernel_rfl) (by kernel_rfl) (by kernel_rfl) (by kernel_rfl)) ?_
  intro W base args ds gs before hval0 hW _ _
  have hval : ∀ (j : Nat) t v, Try.f4.params[j]? = some t → args[j]? = some v → Value.okWide Try.prog W .any base t v := hval0
  have hW' := hW
  obtain ⟨p, q, hA0, hV, rfl, hfz, hnd⟩ := hW
  have hA : DataW.TrodAll enc Try.prog W 0 (fun _ => true) true Try.f4.params.toList args.toList ds p := hA0
  rw [Try.params4] at hA hval
  obtain ⟨v0, vs0, d0, ds0, p0, q0, hargs, rfl, rfl, h0, r0⟩ := trodAll_cons hA
  obtain ⟨v1, vs1, d1, ds1, p1, q1, rfl, rfl, rfl, h1, r1⟩ := trodAll_cons r0
  obtain ⟨v2, vs2, d2, ds2, p2, q2, rfl, rfl, rfl, h2, r2⟩ := trodAll_cons r1
  obtain ⟨rfl, rfl, rfl⟩ := trodAll_nil r2
  obtain rfl : args = #[v0, v1, v2] := by cases args; simp_all
  obtain ⟨rfl, rfl⟩ := trodVars_none hV
  obtain ⟨a0, n0, c0, rfl⟩ := okWide_slice Try.underlying33 (hval 0 33 v0 rfl rfl)
  have lt0 : ∀ x ∈ p0, x.block < W.heap.size := by obtain ⟨m, hm⟩ := h0; exact DataW.trod_lt m _ _ _ hm
  obtain ⟨l0, hl0, hc0, hm0, hr0, hz0⟩ := open_nodes h0
  obtain ⟨a1, rfl, rfl, rfl, w1⟩ := open_int Try.underlying25 (hval 1 25 v1 rfl rfl) h1
  have b1 := bounds_u64 w1
  obtain ⟨a2, rfl, rfl, rfl, w2⟩ := open_int Try.underlying25 (hval 2 25 v2 rfl rfl) h2
  have b2 := bounds_u64 w2
  clear hA0 hval0
  refine (keytreeFrom_any W a0 n0 c0 l0 hl0 hc0 hm0 hr0 hz0 a1 b1 a2 b2).mono fun e W' ⟨he, bel⟩ => ?_
  subst he
  exact ⟨_, rfl, _, _, _, [], _, [], hW', trodAll_mk1 (shut_bool Try.underlying4 _), (trodAll_cons_mk (Below.trod keytreeFrom_laid (by kernel_rfl) (of_decide_eq_true (by kernel_rfl)) h0 bel lt0) (trodAll_cons_mk (shut_int Try.underlying25 w1) (trodAll_cons_mk (shut_int Try.underlying25 w2) trodAll_mk0))), rfl, bel.frame _, fun h => by cases h⟩

theorem keytreeFrom_holds : Rows.KeytreeFromSaid :=
  OpenClaim.holds_of_wide 4 Try.f4 rfl rfl rfl rfl rfl rfl rfl ⟨rfl, rfl, rfl, rfl, rfl⟩ rfl rfl rfl rfl rfl (by kernel_rfl) Try.func4 (by kernel_rfl)
    (of_decide_eq_true (by kernel_rfl)) (by unfold Func.isWrapper; rw [if_neg (of_decide_eq_false (by kernel_rfl))]; exact ⟨rfl, rfl⟩)
    (fun os started H enc _ => keytreeFrom_lifted os started H enc)

#print axioms keytreeFrom_holds

end Go.Proofs.Ytkfcllcdkgnfbaa
