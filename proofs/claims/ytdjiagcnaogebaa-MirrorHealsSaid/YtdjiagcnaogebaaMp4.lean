/-
  Texts of this seat, one behind the other: MrHeal, MrSync, MrNew, MrRead, MrBoth, MrPB, MrRot.
-/
import Derived.Laws.MakeOwn
import Derived.OrdersHeld
import Derived.Deep.RegionHeld
import Derived.Test.YtdjiagcnaogebaaMp3
/-
  Heal of the reference's mirror.
-/
namespace Go.Proofs.Ytdjiagcnaogebaa.Mr
open Go.RowKit Kd Mi
attribute [local go_sem ↓] Go.wp_at_zero Go.wp_at_succ
section
variable {w : World} {g k : Nat} {x : Md} {F : Nat → Prop}
theorem RmAt.secR0 (h : RmAt w g x F) (hk : k < x.a.length) : ∃ q n j, w.cell? ⟨g, 0, none⟩ = some (.slice (some ⟨q, 0, none⟩) n j) ∧ k < n ∧ (∀ jj v, (bv (x.l0.getD k zeroS))[jj]? = some v → w.cell? ((⟨q, k * 128, none⟩ : Addr).add jj) = some v) ∧ (x.l0.getD k zeroS).length = 128 ∧ F q ∧ q ≠ g := by
  obtain ⟨q, n, j, h1, h2, _, _, h3, h4, _, h5, h6, _⟩ := h.sect0 hk
  have hl : k < x.l0.length := by rw [h4]; exact h2
  have e : x.l0[k] = x.l0.getD k zeroS := by rw [List.getD_eq_getElem?_getD, List.getElem?_eq_getElem hl]; rfl
  obtain ⟨ad, hA, _, hc⟩ := rd_sec h3 h.ok.1 hl
  injection hA with hA; subst hA
  refine ⟨q, n, j, h1, h2, fun jj v hv => ?_, by rw [← e]; exact h.ok.1 _ (List.getElem_mem hl), h6, h5⟩
  rw [← e] at hv
  have h7 := hc jj v hv
  rwa [add_head] at h7
theorem RmAt.secR1 (h : RmAt w g x F) (hk : k < x.a.length) : ∃ q n j, w.cell? ⟨g, 1, none⟩ = some (.slice (some ⟨q, 0, none⟩) n j) ∧ k < n ∧ (∀ jj v, (bv (x.l1.getD k zeroS))[jj]? = some v → w.cell? ((⟨q, k * 128, none⟩ : Addr).add jj) = some v) ∧ (x.l1.getD k zeroS).length = 128 ∧ F q ∧ q ≠ g := by
  obtain ⟨q, n, j, h1, h2, _, _, h3, h4, _, h5, h6, _⟩ := h.sect1 hk
  have hl : k < x.l1.length := by rw [h4]; exact h2
  have e : x.l1[k] = x.l1.getD k zeroS := by rw [List.getD_eq_getElem?_getD, List.getElem?_eq_getElem hl]; rfl
  obtain ⟨ad, hA, _, hc⟩ := rd_sec h3 h.ok.2 hl
  injection hA with hA; subst hA
  refine ⟨q, n, j, h1, h2, fun jj v hv => ?_, by rw [← e]; exact h.ok.2 _ (List.getElem_mem hl), h6, h5⟩
  rw [← e] at hv
  have h7 := hc jj v hv
  rwa [add_head] at h7
theorem rm_drewL2 {w : World} {g q k : Nat} {x : Md} {F : Nat → Prop} {l : List UInt8} (h : RmAt (w.setCells q k (bv l)) g x F) : RmAt (w.drew.drew.setCells q k (bva l).toList) g x F := by
  have e : w.drew.drew.setCells q k (bva l).toList = (w.setCells q k (bv l)).drew.drew := by
    rw [show (bva l).toList = bv l from rfl, cells_drew, cells_drew]
  rw [e]; exact RmAt.below h (Below.refl _ _).drew.drew
set_option maxRecDepth 100000 in
set_option maxHeartbeats 12800000 in
theorem rheal_any (h : RmAt w g x F) (n : Int) :
    Calls Try.prog 65 #[.pointer (some ⟨g, 0, none⟩), .int .i64 n] w (fun e w' => RetRm (tup2 (x.heal goodN n).1) g (x.heal goodN n).2 F w e w') := by
  obtain ⟨RV, hRV⟩ : ∃ RV, RV = (x.heal goodN n).1 := ⟨_, rfl⟩
  obtain ⟨RX, hRX⟩ : ∃ RX, RX = (x.heal goodN n).2 := ⟨_, rfl⟩
  rw [← hRV, ← hRX]
  rw [Md.heal] at hRV hRX
  have H := Lib.hid h
  clear h
  cases hhas : x.has n with
  | false =>
    rw [hhas, if_neg (by simp)] at hRV hRX
    rw [hRV, hRX]
    have hc := rthere_any H.out n
    rw [hhas] at hc
    have HC := Lib.hid hc
    clear hc hhas hRV hRX
    go_enter Try.func65, Try.ntmps65
    go_wp2_with fail
    refine HC.out.mono ?_
    rintro e w1 ⟨rfl, bw⟩
    go_wp2_with fail
    go_ret2
    exact ⟨rfl, H.out.below bw, but_below bw⟩
  | true =>
    obtain ⟨k, rfl, hk⟩ := has_place hhas
    rw [hhas, if_pos rfl] at hRV hRX
    have hc := rthere_any H.out (k : Int)
    rw [hhas] at hc
    have HC := Lib.hid hc
    have HK := Lib.hid hk
    have kk0 : (0 : Int) ≤ (k : Int) := by omega
    clear hc hhas hk
    cases ho0 : x.o0 with
    | true =>
      rw [ho0, if_pos (by rfl)] at hRV hRX
      rw [hRV, hRX]
      have HO := Lib.hid ho0
      clear hRV hRX ho0
      go_enter Try.func65, Try.ntmps65
      go_wp2_with fail
      refine HC.out.mono ?_
      rintro e w1 ⟨rfl, bw⟩
      have H1 := Lib.hid (H.out.below bw)
      have c0 : w1.cell? ⟨g, 2, none⟩ = some (.bool true) := by rw [← HO.out]; exact H1.out.out0
      go_wp2_with fail
      go_ret2
      exact ⟨rfl, H1.out, but_below bw⟩
    | false =>
    cases ho1 : x.o1 with
    | true =>
      rw [ho0, ho1, if_pos (by rfl)] at hRV hRX
      rw [hRV, hRX]
      have HO := Lib.hid ho0
      have HO1 := Lib.hid ho1
      clear hRV hRX ho0 ho1
      go_enter Try.func65, Try.ntmps65
      go_wp2_with fail
      refine HC.out.mono ?_
      rintro e w1 ⟨rfl, bw⟩
      have H1 := Lib.hid (H.out.below bw)
      have c0 : w1.cell? ⟨g, 2, none⟩ = some (.bool false) := by rw [← HO.out]; exact H1.out.out0
      have c1 : w1.cell? ⟨g, 3, none⟩ = some (.bool true) := by rw [← HO1.out]; exact H1.out.out1
      go_wp2_with fail
      go_ret2
      exact ⟨rfl, H1.out, but_below bw⟩
    | false =>
      rw [ho0, ho1, if_neg (by simp), Int.toNat_natCast] at hRV hRX
      obtain ⟨u, hu⟩ : ∃ u, u = x.l0.getD k zeroS := ⟨_, rfl⟩
      obtain ⟨v, hv⟩ : ∃ v, v = x.l1.getD k zeroS := ⟨_, rfl⟩
      rw [← hu, ← hv] at hRX
      rw [← hu, ← hv] at hRV
      have r0 : x.right goodN 0 k = (!(x.a.getD k false) && goodN k u) := by
        rw [Md.right, show x.st 0 = x.a from rfl, show x.o 0 = x.o0 from rfl, show x.l 0 = x.l0 from rfl, ho0, Bool.not_false, Bool.true_and, ← hu]
      have r1 : x.right goodN 1 k = (!(x.b.getD k false) && goodN k v) := by
        rw [Md.right, show x.st 1 = x.b from rfl, show x.o 1 = x.o1 from rfl, show x.l 1 = x.l1 from rfl, ho1, Bool.not_false, Bool.true_and, ← hv]
      rw [r0, r1] at hRV hRX
      have HU3 := Lib.hid (show u.length = 128 by rw [hu]; obtain ⟨_, _, _, _, _, _, h, _⟩ := H.out.secR0 HK.out; exact h)
      have HV3 := Lib.hid (show v.length = 128 by rw [hv]; obtain ⟨_, _, _, _, _, _, h, _⟩ := H.out.secR1 HK.out; exact h)
      have HIUL := Lib.hid (show (Try.prog.info? 38).map (·.size) = some (bv u).length by rw [bv_length, HU3.out]; exact info_sec)
      have HIVL := Lib.hid (show (Try.prog.info? 38).map (·.size) = some (bv v).length by rw [bv_length, HV3.out]; exact info_sec)
      have HIU := Lib.hid (show (Try.prog.info? 38).map (·.size) = some (bva u).size by rw [bva_size, HU3.out]; exact info_sec)
      have HIV := Lib.hid (show (Try.prog.info? 38).map (·.size) = some (bva v).size by rw [bva_size, HV3.out]; exact info_sec)
      obtain ⟨gu, hgu⟩ : ∃ gu, gu = goodN k u := ⟨_, rfl⟩
      obtain ⟨gv, hgv⟩ : ∃ gv, gv = goodN k v := ⟨_, rfl⟩
      have HGU := Lib.hid (show ∀ W, Calls Try.prog 22 #[.int .i64 k, .agg (bva u)] W (RetB (.bool gu) W) from fun W => by rw [hgu]; exact good_any W k u HU3.out)
      have HGV := Lib.hid (show ∀ W, Calls Try.prog 22 #[.int .i64 k, .agg (bva v)] W (RetB (.bool gv) W) from fun W => by rw [hgv]; exact good_any W k v HV3.out)
      have HEQ := Lib.hid (show ∀ W, (Op.equalIn 10000 38 (.agg (bva u)) (.agg (bva v))).run Try.prog W = .ok (decide (u = v)) W from fun W => eq_sec u v HU3.out HV3.out W)
      obtain ⟨sa, hsa⟩ : ∃ sa, sa = x.a.getD k false := ⟨_, rfl⟩
      obtain ⟨sb, hsb⟩ : ∃ sb, sb = x.b.getD k false := ⟨_, rfl⟩
      rw [← hsa, ← hsb, ← hgu, ← hgv] at hRV hRX
      have HUU := Lib.hid hu
      have HVV := Lib.hid hv
      have HSA := Lib.hid hsa
      have HSB := Lib.hid hsb
      have HO := Lib.hid ho0
      have HO1 := Lib.hid ho1
      have HRV := Lib.hid hRV
      have HRX := Lib.hid hRX
      clear hRV hRX ho0 ho1 r0 r1 hu hv hsa hsb hgu hgv
      cases sa with
      | true =>
        cases sb with
        | true =>
          go_enter Try.func65, Try.ntmps65
          go_wp2_with fail
          refine HC.out.mono ?_
          rintro e w1 ⟨rfl, bw⟩
          have H1 := Lib.hid (H.out.below bw)
          have BT1 := Lib.hid (show But F w w1 from but_below bw)
          clear bw H
          have ac2 : w1.cell? ⟨g, 2, none⟩ = some (.bool false) := by rw [← HO.out]; exact H1.out.out0
          have ac3 : w1.cell? ⟨g, 3, none⟩ = some (.bool false) := by rw [← HO1.out]; exact H1.out.out1
          obtain ⟨aq, an, aj, ac4, ak4, _, _, am4, _, _, _, _, _⟩ := H1.out.mark0 HK.out
          obtain ⟨ap, an5, aj5, ac5, ak5, _, _, am5, _, _, _, _, _⟩ := H1.out.mark1 HK.out
          rw [← HSA.out] at am4
          rw [← HSB.out] at am5
          obtain ⟨aa, ana, aja, ac0, ak0, as0, _, _, _⟩ := H1.out.secR0 HK.out
          obtain ⟨ab, anb, ajb, ac1, ak1, as1, _, _, _⟩ := H1.out.secR1 HK.out
          rw [← HUU.out] at as0
          rw [← HVV.out] at as1
          have aS0 := Lib.hid as0
          have aS1 := Lib.hid as1
          have ai4 : (k : Int) < (an : Int) := by omega
          have ai5 : (k : Int) < (an5 : Int) := by omega
          have ai0 : (k : Int) < (ana : Int) := by omega
          have ai1 : (k : Int) < (anb : Int) := by omega
          clear as0 as1 ak4 ak5 ak0 ak1
          go_wp2_with fail
          go_ret2
          exact ⟨by rw [HRV.out]; rfl, by rw [HRX.out]; exact H1.out, BT1.out⟩
        | false =>
          cases gv with
          | true =>
            go_enter Try.func65, Try.ntmps65
            go_wp2_with fail
            refine HC.out.mono ?_
            rintro e w1 ⟨rfl, bw⟩
            have H1 := Lib.hid (H.out.below bw)
            have BT1 := Lib.hid (show But F w w1 from but_below bw)
            clear bw H
            have ac2 : w1.cell? ⟨g, 2, none⟩ = some (.bool false) := by rw [← HO.out]; exact H1.out.out0
            have ac3 : w1.cell? ⟨g, 3, none⟩ = some (.bool false) := by rw [← HO1.out]; exact H1.out.out1
            obtain ⟨aq, an, aj, ac4, ak4, _, _, am4, _, _, _, _, _⟩ := H1.out.mark0 HK.out
            obtain ⟨ap, an5, aj5, ac5, ak5, _, _, am5, _, _, _, _, _⟩ := H1.out.mark1 HK.out
            rw [← HSA.out] at am4
            rw [← HSB.out] at am5
            obtain ⟨aa, ana, aja, ac0, ak0, as0, _, _, _⟩ := H1.out.secR0 HK.out
            obtain ⟨ab, anb, ajb, ac1, ak1, as1, _, _, _⟩ := H1.out.secR1 HK.out
            rw [← HUU.out] at as0
            rw [← HVV.out] at as1
            have aS0 := Lib.hid as0
            have aS1 := Lib.hid as1
            have ai4 : (k : Int) < (an : Int) := by omega
            have ai5 : (k : Int) < (an5 : Int) := by omega
            have ai0 : (k : Int) < (ana : Int) := by omega
            have ai1 : (k : Int) < (anb : Int) := by omega
            clear as0 as1 ak4 ak5 ak0 ak1
            go_wp2_with (refine wpList_execg8 rfl (exec_load_at 38 (.tmp 63) rfl ⟨ab, k * 128, none⟩ rfl aS1.out Try.underlying38 rfl HIVL.out) ?_)
            refine (HGV.out _).mono ?_
            rintro e wg1 ⟨rfl, bw⟩
            clear ac2 ac3 ac4 am4 ac5 am5 ac0 ac1 aS0 aS1 ai4 ai5 ai0 ai1
            have Hg1 := Lib.hid (H1.out.below bw)
            have BTg1 := Lib.hid (BT1.out.trans (but_below bw))
            clear bw H1 BT1
            have bc2 : wg1.cell? ⟨g, 2, none⟩ = some (.bool false) := by rw [← HO.out]; exact Hg1.out.out0
            have bc3 : wg1.cell? ⟨g, 3, none⟩ = some (.bool false) := by rw [← HO1.out]; exact Hg1.out.out1
            obtain ⟨bq, bn, bj, bc4, bk4, _, _, bm4, _, _, _, _, _⟩ := Hg1.out.mark0 HK.out
            obtain ⟨bp, bn5, bj5, bc5, bk5, _, _, bm5, _, _, _, _, _⟩ := Hg1.out.mark1 HK.out
            rw [← HSA.out] at bm4
            rw [← HSB.out] at bm5
            obtain ⟨ba, bna, bja, bc0, bk0, bs0, _, _, _⟩ := Hg1.out.secR0 HK.out
            obtain ⟨bb, bnb, bjb, bc1, bk1, bs1, _, _, _⟩ := Hg1.out.secR1 HK.out
            rw [← HUU.out] at bs0
            rw [← HVV.out] at bs1
            have bS0 := Lib.hid bs0
            have bS1 := Lib.hid bs1
            have bi4 : (k : Int) < (bn : Int) := by omega
            have bi5 : (k : Int) < (bn5 : Int) := by omega
            have bi0 : (k : Int) < (bna : Int) := by omega
            have bi1 : (k : Int) < (bnb : Int) := by omega
            clear bs0 bs1 bk4 bk5 bk0 bk1
            go_upto_region 9 with fail
            refine wp_region_held_drew (S := fun w' => w'.cell? ⟨g, 0, none⟩ = some (.slice (some ⟨ba, 0, none⟩) bna bja) ∧ w'.cell? ⟨g, 1, none⟩ = some (.slice (some ⟨bb, 0, none⟩) bnb bjb) ∧ (∀ jj z, (bv u)[jj]? = some z → w'.cell? ((⟨ba, k * 128, none⟩ : Addr).add jj) = some z) ∧ (∀ jj z, (bv v)[jj]? = some z → w'.cell? ((⟨bb, k * 128, none⟩ : Addr).add jj) = some z)) (by kernel_rfl) ⟨bc0, bc1, bS0.out, bS1.out⟩ (fun hh => ?_)
            have HH := Lib.hid hh
            clear hh
            refine wpAnyH_take (i := 0) (v := ?vP20) rfl (by kernel_rfl) (by kernel_rfl) (by kernel_rfl) (fun _ _ _ h => h) (Or.inl ⟨by rfl, fun w' _ => ?yP20⟩) HH.out ?_
            case yP20 => (go_simp; try with_reducible rfl)
            refine wpAnyH_take (i := 1) (v := ?vP21) rfl (by kernel_rfl) (by kernel_rfl) (by kernel_rfl) (fun _ _ _ h => h) (Or.inl ⟨by rfl, fun w' _ => ?yP21⟩) HH.out ?_
            case yP21 => (go_simp; try with_reducible rfl)
            try simp only [List.getElem_toArray, List.getElem_cons_succ, List.getElem_cons_zero, Act.put, List.setIfInBounds_toArray, List.set_cons_zero, List.set_cons_succ]
            refine wpAnyH_take (i := 2) (v := undef) rfl (by kernel_rfl) (by kernel_rfl) (by kernel_rfl) (fun _ _ _ h => h) (Or.inr ⟨by rfl, rfl⟩) HH.out ?_
            refine wpAnyH_take (i := 3) (v := ?vP23) rfl (by kernel_rfl) (by kernel_rfl) (by kernel_rfl) (fun _ _ _ h => h) (Or.inl ⟨by rfl, fun w' _ => ?yP23⟩) HH.out ?_
            case yP23 => (go_simp; try with_reducible rfl)
            refine wpAnyH_take (i := 4) (v := ?vP24) rfl (by kernel_rfl) (by kernel_rfl) (by kernel_rfl) (fun _ _ _ h => h) (Or.inl ⟨by rfl, fun w' _ => ?yP24⟩) HH.out ?_
            case yP24 => (go_simp; try with_reducible rfl)
            try simp only [List.getElem_toArray, List.getElem_cons_succ, List.getElem_cons_zero, Act.put, List.setIfInBounds_toArray, List.set_cons_zero, List.set_cons_succ]
            refine wpAnyH_take (i := 5) (v := undef) rfl (by kernel_rfl) (by kernel_rfl) (by kernel_rfl) (fun _ _ _ h => h) (Or.inr ⟨by rfl, rfl⟩) HH.out ?_
            refine wpAnyH_take (i := 6) (v := undef) rfl (by kernel_rfl) (by kernel_rfl) (by kernel_rfl) (fun _ _ _ h => h) (Or.inr ⟨by rfl, rfl⟩) HH.out ?_
            refine wpAnyH_take (i := 7) (v := undef) rfl (by kernel_rfl) (by kernel_rfl) (by kernel_rfl) (fun _ _ _ h => h) (Or.inr ⟨by rfl, rfl⟩) HH.out ?_
            try simp only [List.getElem_toArray, List.getElem_cons_succ, List.getElem_cons_zero, Act.put, List.setIfInBounds_toArray, List.set_cons_zero, List.set_cons_succ]
            refine wpAnyH_take (i := 8) (v := undef) rfl (by kernel_rfl) (by kernel_rfl) (by kernel_rfl) (fun _ _ _ h => h) (Or.inr ⟨by rfl, rfl⟩) HH.out ?_
            refine wpAnyH_take (i := 9) (v := undef) rfl (by kernel_rfl) (by kernel_rfl) (by kernel_rfl) (fun _ _ _ h => h) (Or.inr ⟨by rfl, rfl⟩) HH.out ?_
            refine wpAnyH_take (i := 10) (v := undef) rfl (by kernel_rfl) (by kernel_rfl) (by kernel_rfl) (fun _ _ _ h => h) (Or.inr ⟨by rfl, rfl⟩) HH.out ?_
            try simp only [List.getElem_toArray, List.getElem_cons_succ, List.getElem_cons_zero, Act.put, List.setIfInBounds_toArray, List.set_cons_zero, List.set_cons_succ]
            refine wpAnyH_take (i := 11) (v := undef) rfl (by kernel_rfl) (by kernel_rfl) (by kernel_rfl) (fun _ _ _ h => h) (Or.inr ⟨by rfl, rfl⟩) HH.out ?_
            refine wpAnyH_take (i := 12) (v := undef) rfl (by kernel_rfl) (by kernel_rfl) (by kernel_rfl) (fun _ _ _ h => h) (Or.inr ⟨by rfl, rfl⟩) HH.out ?_
            refine wpAnyH_take (i := 13) (v := undef) rfl (by kernel_rfl) (by kernel_rfl) (by kernel_rfl) (fun _ _ _ h => h) (Or.inr ⟨by rfl, rfl⟩) HH.out ?_
            try simp only [List.getElem_toArray, List.getElem_cons_succ, List.getElem_cons_zero, Act.put, List.setIfInBounds_toArray, List.set_cons_zero, List.set_cons_succ]
            refine wpAnyH_take (i := 14) (v := undef) rfl (by kernel_rfl) (by kernel_rfl) (by kernel_rfl) (fun _ _ _ h => h) (Or.inr ⟨by rfl, rfl⟩) HH.out ?_
            refine wpAnyH_take (i := 15) (v := undef) rfl (by kernel_rfl) (by kernel_rfl) (by kernel_rfl) (fun _ _ _ h => h) (Or.inr ⟨by rfl, rfl⟩) HH.out ?_
            refine wpAnyH_take (i := 16) (v := undef) rfl (by kernel_rfl) (by kernel_rfl) (by kernel_rfl) (fun _ _ _ h => h) (Or.inr ⟨by rfl, rfl⟩) HH.out ?_
            try simp only [List.getElem_toArray, List.getElem_cons_succ, List.getElem_cons_zero, Act.put, List.setIfInBounds_toArray, List.set_cons_zero, List.set_cons_succ]
            refine wpAnyH_take (i := 17) (v := undef) rfl (by kernel_rfl) (by kernel_rfl) (by kernel_rfl) (fun _ _ _ h => h) (Or.inr ⟨by rfl, rfl⟩) HH.out ?_
            refine wpAnyH_take (i := 18) (v := undef) rfl (by kernel_rfl) (by kernel_rfl) (by kernel_rfl) (fun _ _ _ h => h) (Or.inr ⟨by rfl, rfl⟩) HH.out ?_
            refine wpAnyH_take (i := 19) (v := undef) rfl (by kernel_rfl) (by kernel_rfl) (by kernel_rfl) (fun _ _ _ h => h) (Or.inr ⟨by rfl, rfl⟩) HH.out ?_
            try simp only [List.getElem_toArray, List.getElem_cons_succ, List.getElem_cons_zero, Act.put, List.setIfInBounds_toArray, List.set_cons_zero, List.set_cons_succ]
            refine wpAnyH_take (i := 20) (v := undef) rfl (by kernel_rfl) (by kernel_rfl) (by kernel_rfl) (fun _ _ _ h => h) (Or.inr ⟨by rfl, rfl⟩) HH.out ?_
            refine wpAnyH_take (i := 21) (v := undef) rfl (by kernel_rfl) (by kernel_rfl) (by kernel_rfl) (fun _ _ _ h => h) (Or.inr ⟨by rfl, rfl⟩) HH.out ?_
            refine wpAnyH_take (i := 22) (v := ?vP222) rfl (by kernel_rfl) (by kernel_rfl) (by kernel_rfl) (fun _ _ _ h => h) (Or.inl ⟨by rfl, fun w' _ => ?yP222⟩) HH.out ?_
            case yP222 => (go_simp; try with_reducible rfl)
            try simp only [List.getElem_toArray, List.getElem_cons_succ, List.getElem_cons_zero, Act.put, List.setIfInBounds_toArray, List.set_cons_zero, List.set_cons_succ]
            refine wpAnyH_done (by kernel_rfl) ?_ _
            obtain ⟨tq, tn, tj, tc, tk, _, _, _, _, tth, tqg, tF, tl, tne, tset⟩ := Hg1.out.sect0 HK.out
            have TSET := Lib.hid (tset v HV3.out)
            have TTH := Lib.hid (show wg1.drew.drew.there tq (k * 128) 128 from tth)
            have TQG := Lib.hid tqg
            have TF := Lib.hid tF
            have TNE := Lib.hid (show bb ≠ tq from tne bb ⟨_, _, bc1⟩)
            have TC := Lib.hid tc
            have tki : (k : Int) < (tn : Int) := by omega
            clear tk tth tqg tF tl tne tset tc HH
            have wz0 : IntKind.i64.wrap 0 = 0 := IntWalk.i64_in 0 (by omega)
            have wz1 : IntKind.i64.wrap 1 = 1 := IntWalk.i64_in 1 (by omega)
            go_upto_region 14 with fail
            refine wp_region_held_drew (S := fun w' => w'.cell? ⟨g, 0, none⟩ = some (.slice (some ⟨tq, 0, none⟩) tn tj) ∧ w'.cell? ⟨g, 1, none⟩ = some (.slice (some ⟨bb, 0, none⟩) bnb bjb) ∧ (∀ jj z, (bv v)[jj]? = some z → w'.cell? ((⟨bb, k * 128, none⟩ : Addr).add jj) = some z)) (by kernel_rfl) ⟨TC.out, bc1, bS1.out⟩ (fun hh => ?_)
            have HH := Lib.hid hh
            clear hh
            refine wpAnyH_take (i := 0) (v := ?vP2s0) rfl (by kernel_rfl) (by kernel_rfl) (by kernel_rfl) (fun _ _ _ h => h) (Or.inl ⟨by rfl, fun w' _ => ?yP2s0⟩) HH.out ?_
            case yP2s0 => (go_simp; try with_reducible rfl)
            refine wpAnyH_take (i := 1) (v := ?vP2s1) rfl (by kernel_rfl) (by kernel_rfl) (by kernel_rfl) (fun _ _ _ h => h) (Or.inl ⟨by rfl, fun w' _ => ?yP2s1⟩) HH.out ?_
            case yP2s1 => (go_simp; try with_reducible rfl)
            try simp only [List.getElem_toArray, List.getElem_cons_succ, List.getElem_cons_zero, Act.put, List.setIfInBounds_toArray, List.set_cons_zero, List.set_cons_succ]
            refine wpAnyH_take (i := 2) (v := ?vP2s2) rfl (by kernel_rfl) (by kernel_rfl) (by kernel_rfl) (fun _ _ _ h => h) (Or.inl ⟨by rfl, fun w' _ => ?yP2s2⟩) HH.out ?_
            case yP2s2 => (go_simp; try with_reducible rfl)
            refine wpAnyH_take (i := 3) (v := ?vP2s3) rfl (by kernel_rfl) (by kernel_rfl) (by kernel_rfl) (fun _ _ _ h => h) (Or.inl ⟨by rfl, fun w' _ => ?yP2s3⟩) HH.out ?_
            case yP2s3 => (go_simp; try with_reducible rfl)
            refine wpAnyH_take (i := 4) (v := ?vP2s4) rfl (by kernel_rfl) (by kernel_rfl) (by kernel_rfl) (fun _ _ _ h => h) (Or.inl ⟨by rfl, fun w' _ => ?yP2s4⟩) HH.out ?_
            case yP2s4 => (go_simp; try with_reducible rfl)
            try simp only [List.getElem_toArray, List.getElem_cons_succ, List.getElem_cons_zero, Act.put, List.setIfInBounds_toArray, List.set_cons_zero, List.set_cons_succ]
            refine wpAnyH_take (i := 5) (v := ?vP2s5) rfl (by kernel_rfl) (by kernel_rfl) (by kernel_rfl) (fun _ _ _ h => h) (Or.inl ⟨by rfl, fun w' _ => ?yP2s5⟩) HH.out ?_
            case yP2s5 => (go_simp; try with_reducible rfl)
            try simp only [List.getElem_toArray, List.getElem_cons_succ, List.getElem_cons_zero, Act.put, List.setIfInBounds_toArray, List.set_cons_zero, List.set_cons_succ]
            refine wpAnyH_take (i := 6) (v := .slice (some ⟨tq, 0, none⟩) tn tj) rfl (by kernel_rfl) (by kernel_rfl) (by kernel_rfl) (fun _ _ _ h => h) (Or.inl ⟨by rfl, fun w' hw' => ?yP2s6⟩) HH.out ?_
            case yP2s6 => (have hc := hw'.1; go_simp; try with_reducible rfl)
            refine wpAnyH_take (i := 7) (v := ?vP2s7) rfl (by kernel_rfl) (by kernel_rfl) (by kernel_rfl) (fun _ _ _ h => h) (Or.inl ⟨by rfl, fun w' _ => ?yP2s7⟩) HH.out ?_
            case yP2s7 => (go_simp; try with_reducible rfl)
            try simp only [List.getElem_toArray, List.getElem_cons_succ, List.getElem_cons_zero, Act.put, List.setIfInBounds_toArray, List.set_cons_zero, List.set_cons_succ]
            refine wpAnyH_take (i := 8) (v := ?vP2s8) rfl (by kernel_rfl) (by kernel_rfl) (by kernel_rfl) (fun _ _ _ h => h) (Or.inl ⟨by rfl, fun w' _ => ?yP2s8⟩) HH.out ?_
            case yP2s8 => (go_simp; try with_reducible rfl)
            refine wpAnyH_take (i := 9) (v := ?vP2s9) rfl (by kernel_rfl) (by kernel_rfl) (by kernel_rfl) (fun _ _ _ h => h) (Or.inl ⟨by rfl, fun w' _ => ?yP2s9⟩) HH.out ?_
            case yP2s9 => (go_simp; try with_reducible rfl)
            refine wpAnyH_take (i := 10) (v := ?vP2s10) rfl (by kernel_rfl) (by kernel_rfl) (by kernel_rfl) (fun _ _ _ h => h) (Or.inl ⟨by rfl, fun w' _ => ?yP2s10⟩) HH.out ?_
            case yP2s10 => (go_simp; try with_reducible rfl)
            try simp only [List.getElem_toArray, List.getElem_cons_succ, List.getElem_cons_zero, Act.put, List.setIfInBounds_toArray, List.set_cons_zero, List.set_cons_succ]
            refine wpAnyH_take (i := 11) (v := ?vP2s11) rfl (by kernel_rfl) (by kernel_rfl) (by kernel_rfl) (fun _ _ _ h => h) (Or.inl ⟨by rfl, fun w' _ => ?yP2s11⟩) HH.out ?_
            case yP2s11 => (go_simp; try with_reducible rfl)
            refine wpAnyH_take (i := 12) (v := ?vP2s12) rfl (by kernel_rfl) (by kernel_rfl) (by kernel_rfl) (fun _ _ _ h => h) (Or.inl ⟨by rfl, fun w' _ => ?yP2s12⟩) HH.out ?_
            case yP2s12 => (go_simp; try with_reducible rfl)
            try simp only [List.getElem_toArray, List.getElem_cons_succ, List.getElem_cons_zero, Act.put, List.setIfInBounds_toArray, List.set_cons_zero, List.set_cons_succ]
            refine wpAnyH_take (i := 13) (v := .slice (some ⟨bb, 0, none⟩) bnb bjb) rfl (by kernel_rfl) (by kernel_rfl) (by kernel_rfl) (fun _ _ _ h => h) (Or.inl ⟨by rfl, fun w' hw' => ?yP2s13⟩) HH.out ?_
            case yP2s13 => (have hc := hw'.2.1; go_simp; try with_reducible rfl)
            try simp only [List.getElem_toArray, List.getElem_cons_succ, List.getElem_cons_zero, Act.put, List.setIfInBounds_toArray, List.set_cons_zero, List.set_cons_succ]
            refine wpAnyH_take (i := 14) (v := ?vP2s14) rfl (by kernel_rfl) (by kernel_rfl) (by kernel_rfl) (fun _ _ _ h => h) (Or.inl ⟨by rfl, fun w' _ => ?yP2s14⟩) HH.out ?_
            case yP2s14 => (go_simp; try with_reducible rfl)
            refine wpAnyH_take (i := 15) (v := ?vP2s15) rfl (by kernel_rfl) (by kernel_rfl) (by kernel_rfl) (fun _ _ _ h => h) (Or.inl ⟨by rfl, fun w' _ => ?yP2s15⟩) HH.out ?_
            case yP2s15 => (go_simp; try with_reducible rfl)
            try simp only [List.getElem_toArray, List.getElem_cons_succ, List.getElem_cons_zero, Act.put, List.setIfInBounds_toArray, List.set_cons_zero, List.set_cons_succ]
            refine wpAnyH_take (i := 16) (v := .agg (bva v)) rfl (by kernel_rfl) (by kernel_rfl) (by kernel_rfl) (fun _ _ _ h => h) (Or.inl ⟨by rfl, fun w' hw' => ?yP2s16⟩) HH.out ?_
            case yP2s16 => exact exec_load_at 38 (.tmp 113) rfl ⟨bb, k * 128, none⟩ rfl hw'.2.2 Try.underlying38 rfl HIVL.out
            try simp only [List.getElem_toArray, List.getElem_cons_succ, List.getElem_cons_zero, Act.put, List.setIfInBounds_toArray, List.set_cons_zero, List.set_cons_succ]
            refine wpAnyH_take (i := 17) (v := ?vP2s17) rfl (by kernel_rfl) (by kernel_rfl) (by kernel_rfl) (fun _ _ _ h => h) (Or.inl ⟨by rfl, fun w' _ => ?yP2s17⟩) HH.out ?_
            case yP2s17 => (go_simp; try with_reducible rfl)
            try simp only [List.getElem_toArray, List.getElem_cons_succ, List.getElem_cons_zero, Act.put, List.setIfInBounds_toArray, List.set_cons_zero, List.set_cons_succ]
            refine wpAnyH_ready (rs := [18]) (by kernel_rfl) (by simp) (AllReadyH.cons rfl (fun K hK => ?_) AllReadyH.nil)
            rw [if_pos (by rfl)]
            refine wp_store_mid 38 (.tmp 115) (.tmp 114) rfl tq (k * 128) (bva v) rfl rfl (by rw [bva_size, HV3.out]; exact TTH.out) HIV.out (bva_one _) ?_
            refine hK.out _ _ ⟨?kq0, ?kq1, ?kq2⟩ (fun hh => ?_)
            case kq0 => exact cells_other (show wg1.drew.drew.cell? ⟨g, 0, none⟩ = _ from TC.out) (fun e => TQG.out e.symm)
            case kq1 => exact cells_other (show wg1.drew.drew.cell? ⟨g, 1, none⟩ = _ from bc1) (fun e => TQG.out e.symm)
            case kq2 => exact fun jj z hz => (grown_setCells tq _ _ _).cell (show wg1.drew.drew.cell? _ = _ from bS1.out jj z hz) (by rw [add_block]; intro e; injection e with e; exact TNE.out e)
            clear hh hK K HH
            try simp only [List.getElem_toArray, List.getElem_cons_succ, List.getElem_cons_zero, Act.put]
            refine wpAnyH_done (by kernel_rfl) ?_ _
            obtain ⟨wb, hwb⟩ : ∃ wb, wb = World.setCells wg1.drew.drew tq (k * 128) (bva v).toList := ⟨_, rfl⟩
            rw [← hwb]
            have HBB := Lib.hid (show But (fun y => y = tq) wg1 wb from by rw [hwb]; exact (((But.refl wg1).drew).drew.trans (but_cells _ _ _ _)))
            have HMB := Lib.hid (show RmAt wb g (x.setL 0 k v) F from by rw [hwb]; exact rm_drewL2 TSET.out)
            have HTB := Lib.hid (BTg1.out.trans (HBB.out.mono (fun y hy => by rw [show y = tq from hy]; exact TF.out)))
            have hxb : k < (x.setL 0 k v).a.length := HK.out
            obtain ⟨mq, mn, mj, mc, mk, _, _, mcell, mfree, mqg, mF, _, mset⟩ := HMB.out.mark0 hxb
            have MSET := Lib.hid (mset false)
            have MF := Lib.hid mF
            have mki : (k : Int) < (mn : Int) := by omega
            clear bc2 bc3 bc4 bm4 bc5 bm5 bc0 bc1 bS0 bS1 bi4 bi5 bi0 bi1
            clear hwb mk mqg mF mset tki hxb
            go_wp2_with fail
            go_ret2
            refine ⟨?_, ?_, HTB.out.trans ((but_one (w := wb) (g := mq) (o := k) (.bool false)).mono (fun y hy => by rw [show y = mq from hy]; exact MF.out))⟩
            · rw [HRV.out, if_neg (by simp), if_pos (by rfl)]; rfl
            · rw [HRX.out, if_neg (by simp), if_pos (by rfl)]; exact MSET.out
          | false =>
            go_enter Try.func65, Try.ntmps65
            go_wp2_with fail
            refine HC.out.mono ?_
            rintro e w1 ⟨rfl, bw⟩
            have H1 := Lib.hid (H.out.below bw)
            have BT1 := Lib.hid (show But F w w1 from but_below bw)
            clear bw H
            have ac2 : w1.cell? ⟨g, 2, none⟩ = some (.bool false) := by rw [← HO.out]; exact H1.out.out0
            have ac3 : w1.cell? ⟨g, 3, none⟩ = some (.bool false) := by rw [← HO1.out]; exact H1.out.out1
            obtain ⟨aq, an, aj, ac4, ak4, _, _, am4, _, _, _, _, _⟩ := H1.out.mark0 HK.out
            obtain ⟨ap, an5, aj5, ac5, ak5, _, _, am5, _, _, _, _, _⟩ := H1.out.mark1 HK.out
            rw [← HSA.out] at am4
            rw [← HSB.out] at am5
            obtain ⟨aa, ana, aja, ac0, ak0, as0, _, _, _⟩ := H1.out.secR0 HK.out
            obtain ⟨ab, anb, ajb, ac1, ak1, as1, _, _, _⟩ := H1.out.secR1 HK.out
            rw [← HUU.out] at as0
            rw [← HVV.out] at as1
            have aS0 := Lib.hid as0
            have aS1 := Lib.hid as1
            have ai4 : (k : Int) < (an : Int) := by omega
            have ai5 : (k : Int) < (an5 : Int) := by omega
            have ai0 : (k : Int) < (ana : Int) := by omega
            have ai1 : (k : Int) < (anb : Int) := by omega
            clear as0 as1 ak4 ak5 ak0 ak1
            go_wp2_with (refine wpList_execg8 rfl (exec_load_at 38 (.tmp 63) rfl ⟨ab, k * 128, none⟩ rfl aS1.out Try.underlying38 rfl HIVL.out) ?_)
            refine (HGV.out _).mono ?_
            rintro e wg2 ⟨rfl, bw⟩
            clear ac2 ac3 ac4 am4 ac5 am5 ac0 ac1 aS0 aS1 ai4 ai5 ai0 ai1
            have Hg2 := Lib.hid (H1.out.below bw)
            have BTg2 := Lib.hid (BT1.out.trans (but_below bw))
            clear bw H1 BT1
            have bc2 : wg2.cell? ⟨g, 2, none⟩ = some (.bool false) := by rw [← HO.out]; exact Hg2.out.out0
            have bc3 : wg2.cell? ⟨g, 3, none⟩ = some (.bool false) := by rw [← HO1.out]; exact Hg2.out.out1
            obtain ⟨bq, bn, bj, bc4, bk4, _, _, bm4, _, _, _, _, _⟩ := Hg2.out.mark0 HK.out
            obtain ⟨bp, bn5, bj5, bc5, bk5, _, _, bm5, _, _, _, _, _⟩ := Hg2.out.mark1 HK.out
            rw [← HSA.out] at bm4
            rw [← HSB.out] at bm5
            obtain ⟨ba, bna, bja, bc0, bk0, bs0, _, _, _⟩ := Hg2.out.secR0 HK.out
            obtain ⟨bb, bnb, bjb, bc1, bk1, bs1, _, _, _⟩ := Hg2.out.secR1 HK.out
            rw [← HUU.out] at bs0
            rw [← HVV.out] at bs1
            have bS0 := Lib.hid bs0
            have bS1 := Lib.hid bs1
            have bi4 : (k : Int) < (bn : Int) := by omega
            have bi5 : (k : Int) < (bn5 : Int) := by omega
            have bi0 : (k : Int) < (bna : Int) := by omega
            have bi1 : (k : Int) < (bnb : Int) := by omega
            clear bs0 bs1 bk4 bk5 bk0 bk1
            go_wp2_with fail
            go_ret2
            exact ⟨by rw [HRV.out]; rfl, by rw [HRX.out]; exact Hg2.out, BTg2.out⟩
      | false =>
        cases gu with
        | true =>
          cases sb with
          | true =>
            go_enter Try.func65, Try.ntmps65
            go_wp2_with fail
            refine HC.out.mono ?_
            rintro e w1 ⟨rfl, bw⟩
            have H1 := Lib.hid (H.out.below bw)
            have BT1 := Lib.hid (show But F w w1 from but_below bw)
            clear bw H
            have ac2 : w1.cell? ⟨g, 2, none⟩ = some (.bool false) := by rw [← HO.out]; exact H1.out.out0
            have ac3 : w1.cell? ⟨g, 3, none⟩ = some (.bool false) := by rw [← HO1.out]; exact H1.out.out1
            obtain ⟨aq, an, aj, ac4, ak4, _, _, am4, _, _, _, _, _⟩ := H1.out.mark0 HK.out
            obtain ⟨ap, an5, aj5, ac5, ak5, _, _, am5, _, _, _, _, _⟩ := H1.out.mark1 HK.out
            rw [← HSA.out] at am4
            rw [← HSB.out] at am5
            obtain ⟨aa, ana, aja, ac0, ak0, as0, _, _, _⟩ := H1.out.secR0 HK.out
            obtain ⟨ab, anb, ajb, ac1, ak1, as1, _, _, _⟩ := H1.out.secR1 HK.out
            rw [← HUU.out] at as0
            rw [← HVV.out] at as1
            have aS0 := Lib.hid as0
            have aS1 := Lib.hid as1
            have ai4 : (k : Int) < (an : Int) := by omega
            have ai5 : (k : Int) < (an5 : Int) := by omega
            have ai0 : (k : Int) < (ana : Int) := by omega
            have ai1 : (k : Int) < (anb : Int) := by omega
            clear as0 as1 ak4 ak5 ak0 ak1
            go_wp2_with (refine wpList_execg8 rfl (exec_load_at 38 (.tmp 42) rfl ⟨aa, k * 128, none⟩ rfl aS0.out Try.underlying38 rfl HIUL.out) ?_)
            refine (HGU.out _).mono ?_
            rintro e wg3 ⟨rfl, bw⟩
            clear ac2 ac3 ac4 am4 ac5 am5 ac0 ac1 aS0 aS1 ai4 ai5 ai0 ai1
            have Hg3 := Lib.hid (H1.out.below bw)
            have BTg3 := Lib.hid (BT1.out.trans (but_below bw))
            clear bw H1 BT1
            have bc2 : wg3.cell? ⟨g, 2, none⟩ = some (.bool false) := by rw [← HO.out]; exact Hg3.out.out0
            have bc3 : wg3.cell? ⟨g, 3, none⟩ = some (.bool false) := by rw [← HO1.out]; exact Hg3.out.out1
            obtain ⟨bq, bn, bj, bc4, bk4, _, _, bm4, _, _, _, _, _⟩ := Hg3.out.mark0 HK.out
            obtain ⟨bp, bn5, bj5, bc5, bk5, _, _, bm5, _, _, _, _, _⟩ := Hg3.out.mark1 HK.out
            rw [← HSA.out] at bm4
            rw [← HSB.out] at bm5
            obtain ⟨ba, bna, bja, bc0, bk0, bs0, _, _, _⟩ := Hg3.out.secR0 HK.out
            obtain ⟨bb, bnb, bjb, bc1, bk1, bs1, _, _, _⟩ := Hg3.out.secR1 HK.out
            rw [← HUU.out] at bs0
            rw [← HVV.out] at bs1
            have bS0 := Lib.hid bs0
            have bS1 := Lib.hid bs1
            have bi4 : (k : Int) < (bn : Int) := by omega
            have bi5 : (k : Int) < (bn5 : Int) := by omega
            have bi0 : (k : Int) < (bna : Int) := by omega
            have bi1 : (k : Int) < (bnb : Int) := by omega
            clear bs0 bs1 bk4 bk5 bk0 bk1
            go_upto_region 9 with fail
            refine wp_region_held_drew (S := fun w' => w'.cell? ⟨g, 0, none⟩ = some (.slice (some ⟨ba, 0, none⟩) bna bja) ∧ w'.cell? ⟨g, 1, none⟩ = some (.slice (some ⟨bb, 0, none⟩) bnb bjb) ∧ (∀ jj z, (bv u)[jj]? = some z → w'.cell? ((⟨ba, k * 128, none⟩ : Addr).add jj) = some z) ∧ (∀ jj z, (bv v)[jj]? = some z → w'.cell? ((⟨bb, k * 128, none⟩ : Addr).add jj) = some z)) (by kernel_rfl) ⟨bc0, bc1, bS0.out, bS1.out⟩ (fun hh => ?_)
            have HH := Lib.hid hh
            clear hh
            refine wpAnyH_take (i := 0) (v := ?vP40) rfl (by kernel_rfl) (by kernel_rfl) (by kernel_rfl) (fun _ _ _ h => h) (Or.inl ⟨by rfl, fun w' _ => ?yP40⟩) HH.out ?_
            case yP40 => (go_simp; try with_reducible rfl)
            refine wpAnyH_take (i := 1) (v := ?vP41) rfl (by kernel_rfl) (by kernel_rfl) (by kernel_rfl) (fun _ _ _ h => h) (Or.inl ⟨by rfl, fun w' _ => ?yP41⟩) HH.out ?_
            case yP41 => (go_simp; try with_reducible rfl)
            try simp only [List.getElem_toArray, List.getElem_cons_succ, List.getElem_cons_zero, Act.put, List.setIfInBounds_toArray, List.set_cons_zero, List.set_cons_succ]
            refine wpAnyH_take (i := 2) (v := ?vP42) rfl (by kernel_rfl) (by kernel_rfl) (by kernel_rfl) (fun _ _ _ h => h) (Or.inl ⟨by rfl, fun w' _ => ?yP42⟩) HH.out ?_
            case yP42 => (go_simp; try with_reducible rfl)
            refine wpAnyH_take (i := 3) (v := ?vP43) rfl (by kernel_rfl) (by kernel_rfl) (by kernel_rfl) (fun _ _ _ h => h) (Or.inl ⟨by rfl, fun w' _ => ?yP43⟩) HH.out ?_
            case yP43 => (go_simp; try with_reducible rfl)
            refine wpAnyH_take (i := 4) (v := ?vP44) rfl (by kernel_rfl) (by kernel_rfl) (by kernel_rfl) (fun _ _ _ h => h) (Or.inl ⟨by rfl, fun w' _ => ?yP44⟩) HH.out ?_
            case yP44 => (go_simp; try with_reducible rfl)
            try simp only [List.getElem_toArray, List.getElem_cons_succ, List.getElem_cons_zero, Act.put, List.setIfInBounds_toArray, List.set_cons_zero, List.set_cons_succ]
            refine wpAnyH_take (i := 5) (v := undef) rfl (by kernel_rfl) (by kernel_rfl) (by kernel_rfl) (fun _ _ _ h => h) (Or.inr ⟨by rfl, rfl⟩) HH.out ?_
            refine wpAnyH_take (i := 6) (v := undef) rfl (by kernel_rfl) (by kernel_rfl) (by kernel_rfl) (fun _ _ _ h => h) (Or.inr ⟨by rfl, rfl⟩) HH.out ?_
            refine wpAnyH_take (i := 7) (v := undef) rfl (by kernel_rfl) (by kernel_rfl) (by kernel_rfl) (fun _ _ _ h => h) (Or.inr ⟨by rfl, rfl⟩) HH.out ?_
            try simp only [List.getElem_toArray, List.getElem_cons_succ, List.getElem_cons_zero, Act.put, List.setIfInBounds_toArray, List.set_cons_zero, List.set_cons_succ]
            refine wpAnyH_take (i := 8) (v := undef) rfl (by kernel_rfl) (by kernel_rfl) (by kernel_rfl) (fun _ _ _ h => h) (Or.inr ⟨by rfl, rfl⟩) HH.out ?_
            refine wpAnyH_take (i := 9) (v := undef) rfl (by kernel_rfl) (by kernel_rfl) (by kernel_rfl) (fun _ _ _ h => h) (Or.inr ⟨by rfl, rfl⟩) HH.out ?_
            refine wpAnyH_take (i := 10) (v := undef) rfl (by kernel_rfl) (by kernel_rfl) (by kernel_rfl) (fun _ _ _ h => h) (Or.inr ⟨by rfl, rfl⟩) HH.out ?_
            try simp only [List.getElem_toArray, List.getElem_cons_succ, List.getElem_cons_zero, Act.put, List.setIfInBounds_toArray, List.set_cons_zero, List.set_cons_succ]
            refine wpAnyH_take (i := 11) (v := undef) rfl (by kernel_rfl) (by kernel_rfl) (by kernel_rfl) (fun _ _ _ h => h) (Or.inr ⟨by rfl, rfl⟩) HH.out ?_
            refine wpAnyH_take (i := 12) (v := undef) rfl (by kernel_rfl) (by kernel_rfl) (by kernel_rfl) (fun _ _ _ h => h) (Or.inr ⟨by rfl, rfl⟩) HH.out ?_
            refine wpAnyH_take (i := 13) (v := undef) rfl (by kernel_rfl) (by kernel_rfl) (by kernel_rfl) (fun _ _ _ h => h) (Or.inr ⟨by rfl, rfl⟩) HH.out ?_
            try simp only [List.getElem_toArray, List.getElem_cons_succ, List.getElem_cons_zero, Act.put, List.setIfInBounds_toArray, List.set_cons_zero, List.set_cons_succ]
            refine wpAnyH_take (i := 14) (v := undef) rfl (by kernel_rfl) (by kernel_rfl) (by kernel_rfl) (fun _ _ _ h => h) (Or.inr ⟨by rfl, rfl⟩) HH.out ?_
            refine wpAnyH_take (i := 15) (v := undef) rfl (by kernel_rfl) (by kernel_rfl) (by kernel_rfl) (fun _ _ _ h => h) (Or.inr ⟨by rfl, rfl⟩) HH.out ?_
            refine wpAnyH_take (i := 16) (v := undef) rfl (by kernel_rfl) (by kernel_rfl) (by kernel_rfl) (fun _ _ _ h => h) (Or.inr ⟨by rfl, rfl⟩) HH.out ?_
            try simp only [List.getElem_toArray, List.getElem_cons_succ, List.getElem_cons_zero, Act.put, List.setIfInBounds_toArray, List.set_cons_zero, List.set_cons_succ]
            refine wpAnyH_take (i := 17) (v := undef) rfl (by kernel_rfl) (by kernel_rfl) (by kernel_rfl) (fun _ _ _ h => h) (Or.inr ⟨by rfl, rfl⟩) HH.out ?_
            refine wpAnyH_take (i := 18) (v := undef) rfl (by kernel_rfl) (by kernel_rfl) (by kernel_rfl) (fun _ _ _ h => h) (Or.inr ⟨by rfl, rfl⟩) HH.out ?_
            refine wpAnyH_take (i := 19) (v := undef) rfl (by kernel_rfl) (by kernel_rfl) (by kernel_rfl) (fun _ _ _ h => h) (Or.inr ⟨by rfl, rfl⟩) HH.out ?_
            try simp only [List.getElem_toArray, List.getElem_cons_succ, List.getElem_cons_zero, Act.put, List.setIfInBounds_toArray, List.set_cons_zero, List.set_cons_succ]
            refine wpAnyH_take (i := 20) (v := undef) rfl (by kernel_rfl) (by kernel_rfl) (by kernel_rfl) (fun _ _ _ h => h) (Or.inr ⟨by rfl, rfl⟩) HH.out ?_
            refine wpAnyH_take (i := 21) (v := undef) rfl (by kernel_rfl) (by kernel_rfl) (by kernel_rfl) (fun _ _ _ h => h) (Or.inr ⟨by rfl, rfl⟩) HH.out ?_
            refine wpAnyH_take (i := 22) (v := ?vP422) rfl (by kernel_rfl) (by kernel_rfl) (by kernel_rfl) (fun _ _ _ h => h) (Or.inl ⟨by rfl, fun w' _ => ?yP422⟩) HH.out ?_
            case yP422 => (go_simp; try with_reducible rfl)
            try simp only [List.getElem_toArray, List.getElem_cons_succ, List.getElem_cons_zero, Act.put, List.setIfInBounds_toArray, List.set_cons_zero, List.set_cons_succ]
            refine wpAnyH_done (by kernel_rfl) ?_ _
            obtain ⟨tq, tn, tj, tc, tk, _, _, _, _, tth, tqg, tF, tl, tne, tset⟩ := Hg3.out.sect1 HK.out
            have TSET := Lib.hid (tset u HU3.out)
            have TTH := Lib.hid (show wg3.drew.drew.there tq (k * 128) 128 from tth)
            have TQG := Lib.hid tqg
            have TF := Lib.hid tF
            have TNE := Lib.hid (show ba ≠ tq from tne ba ⟨_, _, bc0⟩)
            have TC := Lib.hid tc
            have tki : (k : Int) < (tn : Int) := by omega
            clear tk tth tqg tF tl tne tset tc HH
            have wz0 : IntKind.i64.wrap 0 = 0 := IntWalk.i64_in 0 (by omega)
            have wz1 : IntKind.i64.wrap 1 = 1 := IntWalk.i64_in 1 (by omega)
            go_upto_region 14 with fail
            refine wp_region_held_drew (S := fun w' => w'.cell? ⟨g, 1, none⟩ = some (.slice (some ⟨tq, 0, none⟩) tn tj) ∧ w'.cell? ⟨g, 0, none⟩ = some (.slice (some ⟨ba, 0, none⟩) bna bja) ∧ (∀ jj z, (bv u)[jj]? = some z → w'.cell? ((⟨ba, k * 128, none⟩ : Addr).add jj) = some z)) (by kernel_rfl) ⟨TC.out, bc0, bS0.out⟩ (fun hh => ?_)
            have HH := Lib.hid hh
            clear hh
            refine wpAnyH_take (i := 0) (v := ?vP4s0) rfl (by kernel_rfl) (by kernel_rfl) (by kernel_rfl) (fun _ _ _ h => h) (Or.inl ⟨by rfl, fun w' _ => ?yP4s0⟩) HH.out ?_
            case yP4s0 => (go_simp; try with_reducible rfl)
            refine wpAnyH_take (i := 1) (v := ?vP4s1) rfl (by kernel_rfl) (by kernel_rfl) (by kernel_rfl) (fun _ _ _ h => h) (Or.inl ⟨by rfl, fun w' _ => ?yP4s1⟩) HH.out ?_
            case yP4s1 => (go_simp; try with_reducible rfl)
            try simp only [List.getElem_toArray, List.getElem_cons_succ, List.getElem_cons_zero, Act.put, List.setIfInBounds_toArray, List.set_cons_zero, List.set_cons_succ]
            refine wpAnyH_take (i := 2) (v := ?vP4s2) rfl (by kernel_rfl) (by kernel_rfl) (by kernel_rfl) (fun _ _ _ h => h) (Or.inl ⟨by rfl, fun w' _ => ?yP4s2⟩) HH.out ?_
            case yP4s2 => (go_simp; try with_reducible rfl)
            refine wpAnyH_take (i := 3) (v := ?vP4s3) rfl (by kernel_rfl) (by kernel_rfl) (by kernel_rfl) (fun _ _ _ h => h) (Or.inl ⟨by rfl, fun w' _ => ?yP4s3⟩) HH.out ?_
            case yP4s3 => (go_simp; try with_reducible rfl)
            refine wpAnyH_take (i := 4) (v := ?vP4s4) rfl (by kernel_rfl) (by kernel_rfl) (by kernel_rfl) (fun _ _ _ h => h) (Or.inl ⟨by rfl, fun w' _ => ?yP4s4⟩) HH.out ?_
            case yP4s4 => (go_simp; try with_reducible rfl)
            try simp only [List.getElem_toArray, List.getElem_cons_succ, List.getElem_cons_zero, Act.put, List.setIfInBounds_toArray, List.set_cons_zero, List.set_cons_succ]
            refine wpAnyH_take (i := 5) (v := ?vP4s5) rfl (by kernel_rfl) (by kernel_rfl) (by kernel_rfl) (fun _ _ _ h => h) (Or.inl ⟨by rfl, fun w' _ => ?yP4s5⟩) HH.out ?_
            case yP4s5 => (go_simp; try with_reducible rfl)
            try simp only [List.getElem_toArray, List.getElem_cons_succ, List.getElem_cons_zero, Act.put, List.setIfInBounds_toArray, List.set_cons_zero, List.set_cons_succ]
            refine wpAnyH_take (i := 6) (v := .slice (some ⟨tq, 0, none⟩) tn tj) rfl (by kernel_rfl) (by kernel_rfl) (by kernel_rfl) (fun _ _ _ h => h) (Or.inl ⟨by rfl, fun w' hw' => ?yP4s6⟩) HH.out ?_
            case yP4s6 => (have hc := hw'.1; go_simp; try with_reducible rfl)
            refine wpAnyH_take (i := 7) (v := ?vP4s7) rfl (by kernel_rfl) (by kernel_rfl) (by kernel_rfl) (fun _ _ _ h => h) (Or.inl ⟨by rfl, fun w' _ => ?yP4s7⟩) HH.out ?_
            case yP4s7 => (go_simp; try with_reducible rfl)
            try simp only [List.getElem_toArray, List.getElem_cons_succ, List.getElem_cons_zero, Act.put, List.setIfInBounds_toArray, List.set_cons_zero, List.set_cons_succ]
            refine wpAnyH_take (i := 8) (v := ?vP4s8) rfl (by kernel_rfl) (by kernel_rfl) (by kernel_rfl) (fun _ _ _ h => h) (Or.inl ⟨by rfl, fun w' _ => ?yP4s8⟩) HH.out ?_
            case yP4s8 => (go_simp; try with_reducible rfl)
            refine wpAnyH_take (i := 9) (v := ?vP4s9) rfl (by kernel_rfl) (by kernel_rfl) (by kernel_rfl) (fun _ _ _ h => h) (Or.inl ⟨by rfl, fun w' _ => ?yP4s9⟩) HH.out ?_
            case yP4s9 => (go_simp; try with_reducible rfl)
            refine wpAnyH_take (i := 10) (v := ?vP4s10) rfl (by kernel_rfl) (by kernel_rfl) (by kernel_rfl) (fun _ _ _ h => h) (Or.inl ⟨by rfl, fun w' _ => ?yP4s10⟩) HH.out ?_
            case yP4s10 => (go_simp; try with_reducible rfl)
            try simp only [List.getElem_toArray, List.getElem_cons_succ, List.getElem_cons_zero, Act.put, List.setIfInBounds_toArray, List.set_cons_zero, List.set_cons_succ]
            refine wpAnyH_take (i := 11) (v := ?vP4s11) rfl (by kernel_rfl) (by kernel_rfl) (by kernel_rfl) (fun _ _ _ h => h) (Or.inl ⟨by rfl, fun w' _ => ?yP4s11⟩) HH.out ?_
            case yP4s11 => (go_simp; try with_reducible rfl)
            refine wpAnyH_take (i := 12) (v := ?vP4s12) rfl (by kernel_rfl) (by kernel_rfl) (by kernel_rfl) (fun _ _ _ h => h) (Or.inl ⟨by rfl, fun w' _ => ?yP4s12⟩) HH.out ?_
            case yP4s12 => (go_simp; try with_reducible rfl)
            try simp only [List.getElem_toArray, List.getElem_cons_succ, List.getElem_cons_zero, Act.put, List.setIfInBounds_toArray, List.set_cons_zero, List.set_cons_succ]
            refine wpAnyH_take (i := 13) (v := .slice (some ⟨ba, 0, none⟩) bna bja) rfl (by kernel_rfl) (by kernel_rfl) (by kernel_rfl) (fun _ _ _ h => h) (Or.inl ⟨by rfl, fun w' hw' => ?yP4s13⟩) HH.out ?_
            case yP4s13 => (have hc := hw'.2.1; go_simp; try with_reducible rfl)
            try simp only [List.getElem_toArray, List.getElem_cons_succ, List.getElem_cons_zero, Act.put, List.setIfInBounds_toArray, List.set_cons_zero, List.set_cons_succ]
            refine wpAnyH_take (i := 14) (v := ?vP4s14) rfl (by kernel_rfl) (by kernel_rfl) (by kernel_rfl) (fun _ _ _ h => h) (Or.inl ⟨by rfl, fun w' _ => ?yP4s14⟩) HH.out ?_
            case yP4s14 => (go_simp; try with_reducible rfl)
            refine wpAnyH_take (i := 15) (v := ?vP4s15) rfl (by kernel_rfl) (by kernel_rfl) (by kernel_rfl) (fun _ _ _ h => h) (Or.inl ⟨by rfl, fun w' _ => ?yP4s15⟩) HH.out ?_
            case yP4s15 => (go_simp; try with_reducible rfl)
            try simp only [List.getElem_toArray, List.getElem_cons_succ, List.getElem_cons_zero, Act.put, List.setIfInBounds_toArray, List.set_cons_zero, List.set_cons_succ]
            refine wpAnyH_take (i := 16) (v := .agg (bva u)) rfl (by kernel_rfl) (by kernel_rfl) (by kernel_rfl) (fun _ _ _ h => h) (Or.inl ⟨by rfl, fun w' hw' => ?yP4s16⟩) HH.out ?_
            case yP4s16 => exact exec_load_at 38 (.tmp 113) rfl ⟨ba, k * 128, none⟩ rfl hw'.2.2 Try.underlying38 rfl HIUL.out
            try simp only [List.getElem_toArray, List.getElem_cons_succ, List.getElem_cons_zero, Act.put, List.setIfInBounds_toArray, List.set_cons_zero, List.set_cons_succ]
            refine wpAnyH_take (i := 17) (v := ?vP4s17) rfl (by kernel_rfl) (by kernel_rfl) (by kernel_rfl) (fun _ _ _ h => h) (Or.inl ⟨by rfl, fun w' _ => ?yP4s17⟩) HH.out ?_
            case yP4s17 => (go_simp; try with_reducible rfl)
            try simp only [List.getElem_toArray, List.getElem_cons_succ, List.getElem_cons_zero, Act.put, List.setIfInBounds_toArray, List.set_cons_zero, List.set_cons_succ]
            refine wpAnyH_ready (rs := [18]) (by kernel_rfl) (by simp) (AllReadyH.cons rfl (fun K hK => ?_) AllReadyH.nil)
            rw [if_pos (by rfl)]
            refine wp_store_mid 38 (.tmp 115) (.tmp 114) rfl tq (k * 128) (bva u) rfl rfl (by rw [bva_size, HU3.out]; exact TTH.out) HIU.out (bva_one _) ?_
            refine hK.out _ _ ⟨?kq0, ?kq1, ?kq2⟩ (fun hh => ?_)
            case kq0 => exact cells_other (show wg3.drew.drew.cell? ⟨g, 1, none⟩ = _ from TC.out) (fun e => TQG.out e.symm)
            case kq1 => exact cells_other (show wg3.drew.drew.cell? ⟨g, 0, none⟩ = _ from bc0) (fun e => TQG.out e.symm)
            case kq2 => exact fun jj z hz => (grown_setCells tq _ _ _).cell (show wg3.drew.drew.cell? _ = _ from bS0.out jj z hz) (by rw [add_block]; intro e; injection e with e; exact TNE.out e)
            clear hh hK K HH
            try simp only [List.getElem_toArray, List.getElem_cons_succ, List.getElem_cons_zero, Act.put]
            refine wpAnyH_done (by kernel_rfl) ?_ _
            obtain ⟨wb, hwb⟩ : ∃ wb, wb = World.setCells wg3.drew.drew tq (k * 128) (bva u).toList := ⟨_, rfl⟩
            rw [← hwb]
            have HBB := Lib.hid (show But (fun y => y = tq) wg3 wb from by rw [hwb]; exact (((But.refl wg3).drew).drew.trans (but_cells _ _ _ _)))
            have HMB := Lib.hid (show RmAt wb g (x.setL 1 k u) F from by rw [hwb]; exact rm_drewL2 TSET.out)
            have HTB := Lib.hid (BTg3.out.trans (HBB.out.mono (fun y hy => by rw [show y = tq from hy]; exact TF.out)))
            have hxb : k < (x.setL 1 k u).a.length := HK.out
            obtain ⟨mq, mn, mj, mc, mk, _, _, mcell, mfree, mqg, mF, _, mset⟩ := HMB.out.mark1 hxb
            have MSET := Lib.hid (mset false)
            have MF := Lib.hid mF
            have mki : (k : Int) < (mn : Int) := by omega
            clear bc2 bc3 bc4 bm4 bc5 bm5 bc0 bc1 bS0 bS1 bi4 bi5 bi0 bi1
            clear hwb mk mqg mF mset tki hxb
            go_wp2_with fail
            go_ret2
            refine ⟨?_, ?_, HTB.out.trans ((but_one (w := wb) (g := mq) (o := k) (.bool false)).mono (fun y hy => by rw [show y = mq from hy]; exact MF.out))⟩
            · rw [HRV.out, if_pos (by rfl), if_neg (by simp)]; rfl
            · rw [HRX.out, if_pos (by rfl), if_neg (by simp)]; exact MSET.out
          | false =>
            cases gv with
            | true =>
              by_cases huv : u = v
              ·
                have HUV := Lib.hid huv
                have HEV := Lib.hid (show ∀ W, (Op.equalIn 10000 38 (.agg (bva u)) (.agg (bva v))).run Try.prog W = .ok true W from fun W => by rw [HEQ.out, decide_eq_true huv])
                clear huv
                go_enter Try.func65, Try.ntmps65
                go_wp2_with fail
                refine HC.out.mono ?_
                rintro e w1 ⟨rfl, bw⟩
                have H1 := Lib.hid (H.out.below bw)
                have BT1 := Lib.hid (show But F w w1 from but_below bw)
                clear bw H
                have ac2 : w1.cell? ⟨g, 2, none⟩ = some (.bool false) := by rw [← HO.out]; exact H1.out.out0
                have ac3 : w1.cell? ⟨g, 3, none⟩ = some (.bool false) := by rw [← HO1.out]; exact H1.out.out1
                obtain ⟨aq, an, aj, ac4, ak4, _, _, am4, _, _, _, _, _⟩ := H1.out.mark0 HK.out
                obtain ⟨ap, an5, aj5, ac5, ak5, _, _, am5, _, _, _, _, _⟩ := H1.out.mark1 HK.out
                rw [← HSA.out] at am4
                rw [← HSB.out] at am5
                obtain ⟨aa, ana, aja, ac0, ak0, as0, _, _, _⟩ := H1.out.secR0 HK.out
                obtain ⟨ab, anb, ajb, ac1, ak1, as1, _, _, _⟩ := H1.out.secR1 HK.out
                rw [← HUU.out] at as0
                rw [← HVV.out] at as1
                have aS0 := Lib.hid as0
                have aS1 := Lib.hid as1
                have ai4 : (k : Int) < (an : Int) := by omega
                have ai5 : (k : Int) < (an5 : Int) := by omega
                have ai0 : (k : Int) < (ana : Int) := by omega
                have ai1 : (k : Int) < (anb : Int) := by omega
                clear as0 as1 ak4 ak5 ak0 ak1
                go_wp2_with (refine wpList_execg8 rfl (exec_load_at 38 (.tmp 42) rfl ⟨aa, k * 128, none⟩ rfl aS0.out Try.underlying38 rfl HIUL.out) ?_)
                refine (HGU.out _).mono ?_
                rintro e wg4 ⟨rfl, bw⟩
                clear ac2 ac3 ac4 am4 ac5 am5 ac0 ac1 aS0 aS1 ai4 ai5 ai0 ai1
                have Hg4 := Lib.hid (H1.out.below bw)
                have BTg4 := Lib.hid (BT1.out.trans (but_below bw))
                clear bw H1 BT1
                have bc2 : wg4.cell? ⟨g, 2, none⟩ = some (.bool false) := by rw [← HO.out]; exact Hg4.out.out0
                have bc3 : wg4.cell? ⟨g, 3, none⟩ = some (.bool false) := by rw [← HO1.out]; exact Hg4.out.out1
                obtain ⟨bq, bn, bj, bc4, bk4, _, _, bm4, _, _, _, _, _⟩ := Hg4.out.mark0 HK.out
                obtain ⟨bp, bn5, bj5, bc5, bk5, _, _, bm5, _, _, _, _, _⟩ := Hg4.out.mark1 HK.out
                rw [← HSA.out] at bm4
                rw [← HSB.out] at bm5
                obtain ⟨ba, bna, bja, bc0, bk0, bs0, _, _, _⟩ := Hg4.out.secR0 HK.out
                obtain ⟨bb, bnb, bjb, bc1, bk1, bs1, _, _, _⟩ := Hg4.out.secR1 HK.out
                rw [← HUU.out] at bs0
                rw [← HVV.out] at bs1
                have bS0 := Lib.hid bs0
                have bS1 := Lib.hid bs1
                have bi4 : (k : Int) < (bn : Int) := by omega
                have bi5 : (k : Int) < (bn5 : Int) := by omega
                have bi0 : (k : Int) < (bna : Int) := by omega
                have bi1 : (k : Int) < (bnb : Int) := by omega
                clear bs0 bs1 bk4 bk5 bk0 bk1
                go_wp2_with (refine wpList_execg8 rfl (exec_load_at 38 (.tmp 63) rfl ⟨bb, k * 128, none⟩ rfl bS1.out Try.underlying38 rfl HIVL.out) ?_)
                refine (HGV.out _).mono ?_
                rintro e wg5 ⟨rfl, bw⟩
                clear bc2 bc3 bc4 bm4 bc5 bm5 bc0 bc1 bS0 bS1 bi4 bi5 bi0 bi1
                have Hg5 := Lib.hid (Hg4.out.below bw)
                have BTg5 := Lib.hid (BTg4.out.trans (but_below bw))
                clear bw Hg4 BTg4
                have dc2 : wg5.cell? ⟨g, 2, none⟩ = some (.bool false) := by rw [← HO.out]; exact Hg5.out.out0
                have dc3 : wg5.cell? ⟨g, 3, none⟩ = some (.bool false) := by rw [← HO1.out]; exact Hg5.out.out1
                obtain ⟨dq, dn, dj, dc4, dk4, _, _, dm4, _, _, _, _, _⟩ := Hg5.out.mark0 HK.out
                obtain ⟨dp, dn5, dj5, dc5, dk5, _, _, dm5, _, _, _, _, _⟩ := Hg5.out.mark1 HK.out
                rw [← HSA.out] at dm4
                rw [← HSB.out] at dm5
                obtain ⟨da, dna, dja, dc0, dk0, ds0, _, _, _⟩ := Hg5.out.secR0 HK.out
                obtain ⟨db, dnb, djb, dc1, dk1, ds1, _, _, _⟩ := Hg5.out.secR1 HK.out
                rw [← HUU.out] at ds0
                rw [← HVV.out] at ds1
                have dS0 := Lib.hid ds0
                have dS1 := Lib.hid ds1
                have di4 : (k : Int) < (dn : Int) := by omega
                have di5 : (k : Int) < (dn5 : Int) := by omega
                have di0 : (k : Int) < (dna : Int) := by omega
                have di1 : (k : Int) < (dnb : Int) := by omega
                clear ds0 ds1 dk4 dk5 dk0 dk1
                go_upto_region 9 with fail
                refine wp_region_held_drew (S := fun w' => w'.cell? ⟨g, 0, none⟩ = some (.slice (some ⟨da, 0, none⟩) dna dja) ∧ w'.cell? ⟨g, 1, none⟩ = some (.slice (some ⟨db, 0, none⟩) dnb djb) ∧ (∀ jj z, (bv u)[jj]? = some z → w'.cell? ((⟨da, k * 128, none⟩ : Addr).add jj) = some z) ∧ (∀ jj z, (bv v)[jj]? = some z → w'.cell? ((⟨db, k * 128, none⟩ : Addr).add jj) = some z)) (by kernel_rfl) ⟨dc0, dc1, dS0.out, dS1.out⟩ (fun hh => ?_)
                have HH := Lib.hid hh
                clear hh
                refine wpAnyH_take (i := 0) (v := ?vP50) rfl (by kernel_rfl) (by kernel_rfl) (by kernel_rfl) (fun _ _ _ h => h) (Or.inl ⟨by rfl, fun w' _ => ?yP50⟩) HH.out ?_
                case yP50 => (go_simp; try with_reducible rfl)
                refine wpAnyH_take (i := 1) (v := ?vP51) rfl (by kernel_rfl) (by kernel_rfl) (by kernel_rfl) (fun _ _ _ h => h) (Or.inl ⟨by rfl, fun w' _ => ?yP51⟩) HH.out ?_
                case yP51 => (go_simp; try with_reducible rfl)
                try simp only [List.getElem_toArray, List.getElem_cons_succ, List.getElem_cons_zero, Act.put, List.setIfInBounds_toArray, List.set_cons_zero, List.set_cons_succ]
                refine wpAnyH_take (i := 2) (v := ?vP52) rfl (by kernel_rfl) (by kernel_rfl) (by kernel_rfl) (fun _ _ _ h => h) (Or.inl ⟨by rfl, fun w' _ => ?yP52⟩) HH.out ?_
                case yP52 => (go_simp; try with_reducible rfl)
                refine wpAnyH_take (i := 3) (v := ?vP53) rfl (by kernel_rfl) (by kernel_rfl) (by kernel_rfl) (fun _ _ _ h => h) (Or.inl ⟨by rfl, fun w' _ => ?yP53⟩) HH.out ?_
                case yP53 => (go_simp; try with_reducible rfl)
                refine wpAnyH_take (i := 4) (v := ?vP54) rfl (by kernel_rfl) (by kernel_rfl) (by kernel_rfl) (fun _ _ _ h => h) (Or.inl ⟨by rfl, fun w' _ => ?yP54⟩) HH.out ?_
                case yP54 => (go_simp; try with_reducible rfl)
                try simp only [List.getElem_toArray, List.getElem_cons_succ, List.getElem_cons_zero, Act.put, List.setIfInBounds_toArray, List.set_cons_zero, List.set_cons_succ]
                refine wpAnyH_take (i := 5) (v := ?vP55) rfl (by kernel_rfl) (by kernel_rfl) (by kernel_rfl) (fun _ _ _ h => h) (Or.inl ⟨by rfl, fun w' _ => ?yP55⟩) HH.out ?_
                case yP55 => (go_simp; try with_reducible rfl)
                try simp only [List.getElem_toArray, List.getElem_cons_succ, List.getElem_cons_zero, Act.put, List.setIfInBounds_toArray, List.set_cons_zero, List.set_cons_succ]
                refine wpAnyH_take (i := 6) (v := ?vP56) rfl (by kernel_rfl) (by kernel_rfl) (by kernel_rfl) (fun _ _ _ h => h) (Or.inl ⟨by rfl, fun w' _ => ?yP56⟩) HH.out ?_
                case yP56 => (go_simp; try with_reducible rfl)
                try simp only [List.getElem_toArray, List.getElem_cons_succ, List.getElem_cons_zero, Act.put, List.setIfInBounds_toArray, List.set_cons_zero, List.set_cons_succ]
                refine wpAnyH_take (i := 7) (v := ?vP57) rfl (by kernel_rfl) (by kernel_rfl) (by kernel_rfl) (fun _ _ _ h => h) (Or.inl ⟨by rfl, fun w' _ => ?yP57⟩) HH.out ?_
                case yP57 => (go_simp; try with_reducible rfl)
                try simp only [List.getElem_toArray, List.getElem_cons_succ, List.getElem_cons_zero, Act.put, List.setIfInBounds_toArray, List.set_cons_zero, List.set_cons_succ]
                refine wpAnyH_take (i := 8) (v := ?vP58) rfl (by kernel_rfl) (by kernel_rfl) (by kernel_rfl) (fun _ _ _ h => h) (Or.inl ⟨by rfl, fun w' _ => ?yP58⟩) HH.out ?_
                case yP58 => (go_simp; try with_reducible rfl)
                try simp only [List.getElem_toArray, List.getElem_cons_succ, List.getElem_cons_zero, Act.put, List.setIfInBounds_toArray, List.set_cons_zero, List.set_cons_succ]
                refine wpAnyH_take (i := 9) (v := .slice (some ⟨da, 0, none⟩) dna dja) rfl (by kernel_rfl) (by kernel_rfl) (by kernel_rfl) (fun _ _ _ h => h) (Or.inl ⟨by rfl, fun w' hw' => ?yP59⟩) HH.out ?_
                case yP59 => (have hc := hw'.1; go_simp; try with_reducible rfl)
                try simp only [List.getElem_toArray, List.getElem_cons_succ, List.getElem_cons_zero, Act.put, List.setIfInBounds_toArray, List.set_cons_zero, List.set_cons_succ]
                refine wpAnyH_take (i := 10) (v := ?vP510) rfl (by kernel_rfl) (by kernel_rfl) (by kernel_rfl) (fun _ _ _ h => h) (Or.inl ⟨by rfl, fun w' _ => ?yP510⟩) HH.out ?_
                case yP510 => (go_simp; try with_reducible rfl)
                try simp only [List.getElem_toArray, List.getElem_cons_succ, List.getElem_cons_zero, Act.put, List.setIfInBounds_toArray, List.set_cons_zero, List.set_cons_succ]
                refine wpAnyH_take (i := 11) (v := ?vP511) rfl (by kernel_rfl) (by kernel_rfl) (by kernel_rfl) (fun _ _ _ h => h) (Or.inl ⟨by rfl, fun w' _ => ?yP511⟩) HH.out ?_
                case yP511 => (go_simp; try with_reducible rfl)
                try simp only [List.getElem_toArray, List.getElem_cons_succ, List.getElem_cons_zero, Act.put, List.setIfInBounds_toArray, List.set_cons_zero, List.set_cons_succ]
                refine wpAnyH_take (i := 12) (v := .agg (bva u)) rfl (by kernel_rfl) (by kernel_rfl) (by kernel_rfl) (fun _ _ _ h => h) (Or.inl ⟨by rfl, fun w' hw' => ?yP512⟩) HH.out ?_
                case yP512 => exact exec_load_at 38 (.tmp 84) rfl ⟨da, k * 128, none⟩ rfl hw'.2.2.1 Try.underlying38 rfl HIUL.out
                try simp only [List.getElem_toArray, List.getElem_cons_succ, List.getElem_cons_zero, Act.put, List.setIfInBounds_toArray, List.set_cons_zero, List.set_cons_succ]
                refine wpAnyH_take (i := 13) (v := ?vP513) rfl (by kernel_rfl) (by kernel_rfl) (by kernel_rfl) (fun _ _ _ h => h) (Or.inl ⟨by rfl, fun w' _ => ?yP513⟩) HH.out ?_
                case yP513 => (go_simp; try with_reducible rfl)
                try simp only [List.getElem_toArray, List.getElem_cons_succ, List.getElem_cons_zero, Act.put, List.setIfInBounds_toArray, List.set_cons_zero, List.set_cons_succ]
                refine wpAnyH_take (i := 14) (v := ?vP514) rfl (by kernel_rfl) (by kernel_rfl) (by kernel_rfl) (fun _ _ _ h => h) (Or.inl ⟨by rfl, fun w' _ => ?yP514⟩) HH.out ?_
                case yP514 => (go_simp; try with_reducible rfl)
                try simp only [List.getElem_toArray, List.getElem_cons_succ, List.getElem_cons_zero, Act.put, List.setIfInBounds_toArray, List.set_cons_zero, List.set_cons_succ]
                refine wpAnyH_take (i := 15) (v := ?vP515) rfl (by kernel_rfl) (by kernel_rfl) (by kernel_rfl) (fun _ _ _ h => h) (Or.inl ⟨by rfl, fun w' _ => ?yP515⟩) HH.out ?_
                case yP515 => (go_simp; try with_reducible rfl)
                try simp only [List.getElem_toArray, List.getElem_cons_succ, List.getElem_cons_zero, Act.put, List.setIfInBounds_toArray, List.set_cons_zero, List.set_cons_succ]
                refine wpAnyH_take (i := 16) (v := ?vP516) rfl (by kernel_rfl) (by kernel_rfl) (by kernel_rfl) (fun _ _ _ h => h) (Or.inl ⟨by rfl, fun w' _ => ?yP516⟩) HH.out ?_
                case yP516 => (go_simp; try with_reducible rfl)
                try simp only [List.getElem_toArray, List.getElem_cons_succ, List.getElem_cons_zero, Act.put, List.setIfInBounds_toArray, List.set_cons_zero, List.set_cons_succ]
                try simp only [List.getElem_toArray, List.getElem_cons_succ, List.getElem_cons_zero, Act.put, List.setIfInBounds_toArray, List.set_cons_zero, List.set_cons_succ]
                refine wpAnyH_take (i := 17) (v := .slice (some ⟨db, 0, none⟩) dnb djb) rfl (by kernel_rfl) (by kernel_rfl) (by kernel_rfl) (fun _ _ _ h => h) (Or.inl ⟨by rfl, fun w' hw' => ?yP517⟩) HH.out ?_
                case yP517 => (have hc := hw'.2.1; go_simp; try with_reducible rfl)
                try simp only [List.getElem_toArray, List.getElem_cons_succ, List.getElem_cons_zero, Act.put, List.setIfInBounds_toArray, List.set_cons_zero, List.set_cons_succ]
                refine wpAnyH_take (i := 18) (v := ?vP518) rfl (by kernel_rfl) (by kernel_rfl) (by kernel_rfl) (fun _ _ _ h => h) (Or.inl ⟨by rfl, fun w' _ => ?yP518⟩) HH.out ?_
                case yP518 => (go_simp; try with_reducible rfl)
                try simp only [List.getElem_toArray, List.getElem_cons_succ, List.getElem_cons_zero, Act.put, List.setIfInBounds_toArray, List.set_cons_zero, List.set_cons_succ]
                refine wpAnyH_take (i := 19) (v := ?vP519) rfl (by kernel_rfl) (by kernel_rfl) (by kernel_rfl) (fun _ _ _ h => h) (Or.inl ⟨by rfl, fun w' _ => ?yP519⟩) HH.out ?_
                case yP519 => (go_simp; try with_reducible rfl)
                try simp only [List.getElem_toArray, List.getElem_cons_succ, List.getElem_cons_zero, Act.put, List.setIfInBounds_toArray, List.set_cons_zero, List.set_cons_succ]
                try simp only [List.getElem_toArray, List.getElem_cons_succ, List.getElem_cons_zero, Act.put, List.setIfInBounds_toArray, List.set_cons_zero, List.set_cons_succ]
                refine wpAnyH_take (i := 20) (v := .agg (bva v)) rfl (by kernel_rfl) (by kernel_rfl) (by kernel_rfl) (fun _ _ _ h => h) (Or.inl ⟨by rfl, fun w' hw' => ?yP520⟩) HH.out ?_
                case yP520 => exact exec_load_at 38 (.tmp 92) rfl ⟨db, k * 128, none⟩ rfl hw'.2.2.2 Try.underlying38 rfl HIVL.out
                try simp only [List.getElem_toArray, List.getElem_cons_succ, List.getElem_cons_zero, Act.put, List.setIfInBounds_toArray, List.set_cons_zero, List.set_cons_succ]
                refine wpAnyH_take (i := 21) (v := .bool true) rfl (by kernel_rfl) (by kernel_rfl) (by kernel_rfl) (fun _ _ _ h => h) (Or.inl ⟨by rfl, fun w' hw' => ?yP521⟩) HH.out ?_
                case yP521 => (go_simp; rw [HEV.out]; rfl)
                refine wpAnyH_take (i := 22) (v := ?vP522) rfl (by kernel_rfl) (by kernel_rfl) (by kernel_rfl) (fun _ _ _ h => h) (Or.inl ⟨by rfl, fun w' _ => ?yP522⟩) HH.out ?_
                case yP522 => (go_simp; try with_reducible rfl)
                try simp only [List.getElem_toArray, List.getElem_cons_succ, List.getElem_cons_zero, Act.put, List.setIfInBounds_toArray, List.set_cons_zero, List.set_cons_succ]
                refine wpAnyH_done (by kernel_rfl) ?_ _
                go_wp2_with fail
                go_ret2
                exact ⟨by rw [HRV.out, if_pos (by rfl), if_pos (by simpa using HUV.out)]; rfl, by rw [HRX.out, if_pos (by rfl), if_pos (by simpa using HUV.out)]; exact Hg5.out.below (Below.refl _ _).drew, BTg5.out.drew⟩
              ·
                have HUV := Lib.hid huv
                have HEV := Lib.hid (show ∀ W, (Op.equalIn 10000 38 (.agg (bva u)) (.agg (bva v))).run Try.prog W = .ok false W from fun W => by rw [HEQ.out, decide_eq_false huv])
                clear huv
                go_enter Try.func65, Try.ntmps65
                go_wp2_with fail
                refine HC.out.mono ?_
                rintro e w1 ⟨rfl, bw⟩
                have H1 := Lib.hid (H.out.below bw)
                have BT1 := Lib.hid (show But F w w1 from but_below bw)
                clear bw H
                have ac2 : w1.cell? ⟨g, 2, none⟩ = some (.bool false) := by rw [← HO.out]; exact H1.out.out0
                have ac3 : w1.cell? ⟨g, 3, none⟩ = some (.bool false) := by rw [← HO1.out]; exact H1.out.out1
                obtain ⟨aq, an, aj, ac4, ak4, _, _, am4, _, _, _, _, _⟩ := H1.out.mark0 HK.out
                obtain ⟨ap, an5, aj5, ac5, ak5, _, _, am5, _, _, _, _, _⟩ := H1.out.mark1 HK.out
                rw [← HSA.out] at am4
                rw [← HSB.out] at am5
                obtain ⟨aa, ana, aja, ac0, ak0, as0, _, _, _⟩ := H1.out.secR0 HK.out
                obtain ⟨ab, anb, ajb, ac1, ak1, as1, _, _, _⟩ := H1.out.secR1 HK.out
                rw [← HUU.out] at as0
                rw [← HVV.out] at as1
                have aS0 := Lib.hid as0
                have aS1 := Lib.hid as1
                have ai4 : (k : Int) < (an : Int) := by omega
                have ai5 : (k : Int) < (an5 : Int) := by omega
                have ai0 : (k : Int) < (ana : Int) := by omega
                have ai1 : (k : Int) < (anb : Int) := by omega
                clear as0 as1 ak4 ak5 ak0 ak1
                go_wp2_with (refine wpList_execg8 rfl (exec_load_at 38 (.tmp 42) rfl ⟨aa, k * 128, none⟩ rfl aS0.out Try.underlying38 rfl HIUL.out) ?_)
                refine (HGU.out _).mono ?_
                rintro e wg6 ⟨rfl, bw⟩
                clear ac2 ac3 ac4 am4 ac5 am5 ac0 ac1 aS0 aS1 ai4 ai5 ai0 ai1
                have Hg6 := Lib.hid (H1.out.below bw)
                have BTg6 := Lib.hid (BT1.out.trans (but_below bw))
                clear bw H1 BT1
                have bc2 : wg6.cell? ⟨g, 2, none⟩ = some (.bool false) := by rw [← HO.out]; exact Hg6.out.out0
                have bc3 : wg6.cell? ⟨g, 3, none⟩ = some (.bool false) := by rw [← HO1.out]; exact Hg6.out.out1
                obtain ⟨bq, bn, bj, bc4, bk4, _, _, bm4, _, _, _, _, _⟩ := Hg6.out.mark0 HK.out
                obtain ⟨bp, bn5, bj5, bc5, bk5, _, _, bm5, _, _, _, _, _⟩ := Hg6.out.mark1 HK.out
                rw [← HSA.out] at bm4
                rw [← HSB.out] at bm5
                obtain ⟨ba, bna, bja, bc0, bk0, bs0, _, _, _⟩ := Hg6.out.secR0 HK.out
                obtain ⟨bb, bnb, bjb, bc1, bk1, bs1, _, _, _⟩ := Hg6.out.secR1 HK.out
                rw [← HUU.out] at bs0
                rw [← HVV.out] at bs1
                have bS0 := Lib.hid bs0
                have bS1 := Lib.hid bs1
                have bi4 : (k : Int) < (bn : Int) := by omega
                have bi5 : (k : Int) < (bn5 : Int) := by omega
                have bi0 : (k : Int) < (bna : Int) := by omega
                have bi1 : (k : Int) < (bnb : Int) := by omega
                clear bs0 bs1 bk4 bk5 bk0 bk1
                go_wp2_with (refine wpList_execg8 rfl (exec_load_at 38 (.tmp 63) rfl ⟨bb, k * 128, none⟩ rfl bS1.out Try.underlying38 rfl HIVL.out) ?_)
                refine (HGV.out _).mono ?_
                rintro e wg7 ⟨rfl, bw⟩
                clear bc2 bc3 bc4 bm4 bc5 bm5 bc0 bc1 bS0 bS1 bi4 bi5 bi0 bi1
                have Hg7 := Lib.hid (Hg6.out.below bw)
                have BTg7 := Lib.hid (BTg6.out.trans (but_below bw))
                clear bw Hg6 BTg6
                have dc2 : wg7.cell? ⟨g, 2, none⟩ = some (.bool false) := by rw [← HO.out]; exact Hg7.out.out0
                have dc3 : wg7.cell? ⟨g, 3, none⟩ = some (.bool false) := by rw [← HO1.out]; exact Hg7.out.out1
                obtain ⟨dq, dn, dj, dc4, dk4, _, _, dm4, _, _, _, _, _⟩ := Hg7.out.mark0 HK.out
                obtain ⟨dp, dn5, dj5, dc5, dk5, _, _, dm5, _, _, _, _, _⟩ := Hg7.out.mark1 HK.out
                rw [← HSA.out] at dm4
                rw [← HSB.out] at dm5
                obtain ⟨da, dna, dja, dc0, dk0, ds0, _, _, _⟩ := Hg7.out.secR0 HK.out
                obtain ⟨db, dnb, djb, dc1, dk1, ds1, _, _, _⟩ := Hg7.out.secR1 HK.out
                rw [← HUU.out] at ds0
                rw [← HVV.out] at ds1
                have dS0 := Lib.hid ds0
                have dS1 := Lib.hid ds1
                have di4 : (k : Int) < (dn : Int) := by omega
                have di5 : (k : Int) < (dn5 : Int) := by omega
                have di0 : (k : Int) < (dna : Int) := by omega
                have di1 : (k : Int) < (dnb : Int) := by omega
                clear ds0 ds1 dk4 dk5 dk0 dk1
                go_upto_region 9 with fail
                refine wp_region_held_drew (S := fun w' => w'.cell? ⟨g, 0, none⟩ = some (.slice (some ⟨da, 0, none⟩) dna dja) ∧ w'.cell? ⟨g, 1, none⟩ = some (.slice (some ⟨db, 0, none⟩) dnb djb) ∧ (∀ jj z, (bv u)[jj]? = some z → w'.cell? ((⟨da, k * 128, none⟩ : Addr).add jj) = some z) ∧ (∀ jj z, (bv v)[jj]? = some z → w'.cell? ((⟨db, k * 128, none⟩ : Addr).add jj) = some z)) (by kernel_rfl) ⟨dc0, dc1, dS0.out, dS1.out⟩ (fun hh => ?_)
                have HH := Lib.hid hh
                clear hh
                refine wpAnyH_take (i := 0) (v := ?vP60) rfl (by kernel_rfl) (by kernel_rfl) (by kernel_rfl) (fun _ _ _ h => h) (Or.inl ⟨by rfl, fun w' _ => ?yP60⟩) HH.out ?_
                case yP60 => (go_simp; try with_reducible rfl)
                refine wpAnyH_take (i := 1) (v := ?vP61) rfl (by kernel_rfl) (by kernel_rfl) (by kernel_rfl) (fun _ _ _ h => h) (Or.inl ⟨by rfl, fun w' _ => ?yP61⟩) HH.out ?_
                case yP61 => (go_simp; try with_reducible rfl)
                try simp only [List.getElem_toArray, List.getElem_cons_succ, List.getElem_cons_zero, Act.put, List.setIfInBounds_toArray, List.set_cons_zero, List.set_cons_succ]
                refine wpAnyH_take (i := 2) (v := ?vP62) rfl (by kernel_rfl) (by kernel_rfl) (by kernel_rfl) (fun _ _ _ h => h) (Or.inl ⟨by rfl, fun w' _ => ?yP62⟩) HH.out ?_
                case yP62 => (go_simp; try with_reducible rfl)
                refine wpAnyH_take (i := 3) (v := ?vP63) rfl (by kernel_rfl) (by kernel_rfl) (by kernel_rfl) (fun _ _ _ h => h) (Or.inl ⟨by rfl, fun w' _ => ?yP63⟩) HH.out ?_
                case yP63 => (go_simp; try with_reducible rfl)
                refine wpAnyH_take (i := 4) (v := ?vP64) rfl (by kernel_rfl) (by kernel_rfl) (by kernel_rfl) (fun _ _ _ h => h) (Or.inl ⟨by rfl, fun w' _ => ?yP64⟩) HH.out ?_
                case yP64 => (go_simp; try with_reducible rfl)
                try simp only [List.getElem_toArray, List.getElem_cons_succ, List.getElem_cons_zero, Act.put, List.setIfInBounds_toArray, List.set_cons_zero, List.set_cons_succ]
                refine wpAnyH_take (i := 5) (v := ?vP65) rfl (by kernel_rfl) (by kernel_rfl) (by kernel_rfl) (fun _ _ _ h => h) (Or.inl ⟨by rfl, fun w' _ => ?yP65⟩) HH.out ?_
                case yP65 => (go_simp; try with_reducible rfl)
                try simp only [List.getElem_toArray, List.getElem_cons_succ, List.getElem_cons_zero, Act.put, List.setIfInBounds_toArray, List.set_cons_zero, List.set_cons_succ]
                refine wpAnyH_take (i := 6) (v := ?vP66) rfl (by kernel_rfl) (by kernel_rfl) (by kernel_rfl) (fun _ _ _ h => h) (Or.inl ⟨by rfl, fun w' _ => ?yP66⟩) HH.out ?_
                case yP66 => (go_simp; try with_reducible rfl)
                try simp only [List.getElem_toArray, List.getElem_cons_succ, List.getElem_cons_zero, Act.put, List.setIfInBounds_toArray, List.set_cons_zero, List.set_cons_succ]
                refine wpAnyH_take (i := 7) (v := ?vP67) rfl (by kernel_rfl) (by kernel_rfl) (by kernel_rfl) (fun _ _ _ h => h) (Or.inl ⟨by rfl, fun w' _ => ?yP67⟩) HH.out ?_
                case yP67 => (go_simp; try with_reducible rfl)
                try simp only [List.getElem_toArray, List.getElem_cons_succ, List.getElem_cons_zero, Act.put, List.setIfInBounds_toArray, List.set_cons_zero, List.set_cons_succ]
                refine wpAnyH_take (i := 8) (v := ?vP68) rfl (by kernel_rfl) (by kernel_rfl) (by kernel_rfl) (fun _ _ _ h => h) (Or.inl ⟨by rfl, fun w' _ => ?yP68⟩) HH.out ?_
                case yP68 => (go_simp; try with_reducible rfl)
                try simp only [List.getElem_toArray, List.getElem_cons_succ, List.getElem_cons_zero, Act.put, List.setIfInBounds_toArray, List.set_cons_zero, List.set_cons_succ]
                refine wpAnyH_take (i := 9) (v := .slice (some ⟨da, 0, none⟩) dna dja) rfl (by kernel_rfl) (by kernel_rfl) (by kernel_rfl) (fun _ _ _ h => h) (Or.inl ⟨by rfl, fun w' hw' => ?yP69⟩) HH.out ?_
                case yP69 => (have hc := hw'.1; go_simp; try with_reducible rfl)
                try simp only [List.getElem_toArray, List.getElem_cons_succ, List.getElem_cons_zero, Act.put, List.setIfInBounds_toArray, List.set_cons_zero, List.set_cons_succ]
                refine wpAnyH_take (i := 10) (v := ?vP610) rfl (by kernel_rfl) (by kernel_rfl) (by kernel_rfl) (fun _ _ _ h => h) (Or.inl ⟨by rfl, fun w' _ => ?yP610⟩) HH.out ?_
                case yP610 => (go_simp; try with_reducible rfl)
                try simp only [List.getElem_toArray, List.getElem_cons_succ, List.getElem_cons_zero, Act.put, List.setIfInBounds_toArray, List.set_cons_zero, List.set_cons_succ]
                refine wpAnyH_take (i := 11) (v := ?vP611) rfl (by kernel_rfl) (by kernel_rfl) (by kernel_rfl) (fun _ _ _ h => h) (Or.inl ⟨by rfl, fun w' _ => ?yP611⟩) HH.out ?_
                case yP611 => (go_simp; try with_reducible rfl)
                try simp only [List.getElem_toArray, List.getElem_cons_succ, List.getElem_cons_zero, Act.put, List.setIfInBounds_toArray, List.set_cons_zero, List.set_cons_succ]
                refine wpAnyH_take (i := 12) (v := .agg (bva u)) rfl (by kernel_rfl) (by kernel_rfl) (by kernel_rfl) (fun _ _ _ h => h) (Or.inl ⟨by rfl, fun w' hw' => ?yP612⟩) HH.out ?_
                case yP612 => exact exec_load_at 38 (.tmp 84) rfl ⟨da, k * 128, none⟩ rfl hw'.2.2.1 Try.underlying38 rfl HIUL.out
                try simp only [List.getElem_toArray, List.getElem_cons_succ, List.getElem_cons_zero, Act.put, List.setIfInBounds_toArray, List.set_cons_zero, List.set_cons_succ]
                refine wpAnyH_take (i := 13) (v := ?vP613) rfl (by kernel_rfl) (by kernel_rfl) (by kernel_rfl) (fun _ _ _ h => h) (Or.inl ⟨by rfl, fun w' _ => ?yP613⟩) HH.out ?_
                case yP613 => (go_simp; try with_reducible rfl)
                try simp only [List.getElem_toArray, List.getElem_cons_succ, List.getElem_cons_zero, Act.put, List.setIfInBounds_toArray, List.set_cons_zero, List.set_cons_succ]
                refine wpAnyH_take (i := 14) (v := ?vP614) rfl (by kernel_rfl) (by kernel_rfl) (by kernel_rfl) (fun _ _ _ h => h) (Or.inl ⟨by rfl, fun w' _ => ?yP614⟩) HH.out ?_
                case yP614 => (go_simp; try with_reducible rfl)
                try simp only [List.getElem_toArray, List.getElem_cons_succ, List.getElem_cons_zero, Act.put, List.setIfInBounds_toArray, List.set_cons_zero, List.set_cons_succ]
                refine wpAnyH_take (i := 15) (v := ?vP615) rfl (by kernel_rfl) (by kernel_rfl) (by kernel_rfl) (fun _ _ _ h => h) (Or.inl ⟨by rfl, fun w' _ => ?yP615⟩) HH.out ?_
                case yP615 => (go_simp; try with_reducible rfl)
                try simp only [List.getElem_toArray, List.getElem_cons_succ, List.getElem_cons_zero, Act.put, List.setIfInBounds_toArray, List.set_cons_zero, List.set_cons_succ]
                refine wpAnyH_take (i := 16) (v := ?vP616) rfl (by kernel_rfl) (by kernel_rfl) (by kernel_rfl) (fun _ _ _ h => h) (Or.inl ⟨by rfl, fun w' _ => ?yP616⟩) HH.out ?_
                case yP616 => (go_simp; try with_reducible rfl)
                try simp only [List.getElem_toArray, List.getElem_cons_succ, List.getElem_cons_zero, Act.put, List.setIfInBounds_toArray, List.set_cons_zero, List.set_cons_succ]
                try simp only [List.getElem_toArray, List.getElem_cons_succ, List.getElem_cons_zero, Act.put, List.setIfInBounds_toArray, List.set_cons_zero, List.set_cons_succ]
                refine wpAnyH_take (i := 17) (v := .slice (some ⟨db, 0, none⟩) dnb djb) rfl (by kernel_rfl) (by kernel_rfl) (by kernel_rfl) (fun _ _ _ h => h) (Or.inl ⟨by rfl, fun w' hw' => ?yP617⟩) HH.out ?_
                case yP617 => (have hc := hw'.2.1; go_simp; try with_reducible rfl)
                try simp only [List.getElem_toArray, List.getElem_cons_succ, List.getElem_cons_zero, Act.put, List.setIfInBounds_toArray, List.set_cons_zero, List.set_cons_succ]
                refine wpAnyH_take (i := 18) (v := ?vP618) rfl (by kernel_rfl) (by kernel_rfl) (by kernel_rfl) (fun _ _ _ h => h) (Or.inl ⟨by rfl, fun w' _ => ?yP618⟩) HH.out ?_
                case yP618 => (go_simp; try with_reducible rfl)
                try simp only [List.getElem_toArray, List.getElem_cons_succ, List.getElem_cons_zero, Act.put, List.setIfInBounds_toArray, List.set_cons_zero, List.set_cons_succ]
                refine wpAnyH_take (i := 19) (v := ?vP619) rfl (by kernel_rfl) (by kernel_rfl) (by kernel_rfl) (fun _ _ _ h => h) (Or.inl ⟨by rfl, fun w' _ => ?yP619⟩) HH.out ?_
                case yP619 => (go_simp; try with_reducible rfl)
                try simp only [List.getElem_toArray, List.getElem_cons_succ, List.getElem_cons_zero, Act.put, List.setIfInBounds_toArray, List.set_cons_zero, List.set_cons_succ]
                try simp only [List.getElem_toArray, List.getElem_cons_succ, List.getElem_cons_zero, Act.put, List.setIfInBounds_toArray, List.set_cons_zero, List.set_cons_succ]
                refine wpAnyH_take (i := 20) (v := .agg (bva v)) rfl (by kernel_rfl) (by kernel_rfl) (by kernel_rfl) (fun _ _ _ h => h) (Or.inl ⟨by rfl, fun w' hw' => ?yP620⟩) HH.out ?_
                case yP620 => exact exec_load_at 38 (.tmp 92) rfl ⟨db, k * 128, none⟩ rfl hw'.2.2.2 Try.underlying38 rfl HIVL.out
                try simp only [List.getElem_toArray, List.getElem_cons_succ, List.getElem_cons_zero, Act.put, List.setIfInBounds_toArray, List.set_cons_zero, List.set_cons_succ]
                refine wpAnyH_take (i := 21) (v := .bool false) rfl (by kernel_rfl) (by kernel_rfl) (by kernel_rfl) (fun _ _ _ h => h) (Or.inl ⟨by rfl, fun w' hw' => ?yP621⟩) HH.out ?_
                case yP621 => (go_simp; rw [HEV.out]; rfl)
                refine wpAnyH_take (i := 22) (v := ?vP622) rfl (by kernel_rfl) (by kernel_rfl) (by kernel_rfl) (fun _ _ _ h => h) (Or.inl ⟨by rfl, fun w' _ => ?yP622⟩) HH.out ?_
                case yP622 => (go_simp; try with_reducible rfl)
                try simp only [List.getElem_toArray, List.getElem_cons_succ, List.getElem_cons_zero, Act.put, List.setIfInBounds_toArray, List.set_cons_zero, List.set_cons_succ]
                refine wpAnyH_done (by kernel_rfl) ?_ _
                obtain ⟨tq, tn, tj, tc, tk, _, _, _, _, tth, tqg, tF, tl, tne, tset⟩ := Hg7.out.sect1 HK.out
                have TSET := Lib.hid (tset u HU3.out)
                have TTH := Lib.hid (show wg7.drew.drew.there tq (k * 128) 128 from tth)
                have TQG := Lib.hid tqg
                have TF := Lib.hid tF
                have TNE := Lib.hid (show da ≠ tq from tne da ⟨_, _, dc0⟩)
                have TC := Lib.hid tc
                have tki : (k : Int) < (tn : Int) := by omega
                clear tk tth tqg tF tl tne tset tc HH
                have wz0 : IntKind.i64.wrap 0 = 0 := IntWalk.i64_in 0 (by omega)
                have wz1 : IntKind.i64.wrap 1 = 1 := IntWalk.i64_in 1 (by omega)
                go_upto_region 14 with fail
                refine wp_region_held_drew (S := fun w' => w'.cell? ⟨g, 1, none⟩ = some (.slice (some ⟨tq, 0, none⟩) tn tj) ∧ w'.cell? ⟨g, 0, none⟩ = some (.slice (some ⟨da, 0, none⟩) dna dja) ∧ (∀ jj z, (bv u)[jj]? = some z → w'.cell? ((⟨da, k * 128, none⟩ : Addr).add jj) = some z)) (by kernel_rfl) ⟨TC.out, dc0, dS0.out⟩ (fun hh => ?_)
                have HH := Lib.hid hh
                clear hh
                refine wpAnyH_take (i := 0) (v := ?vP6s0) rfl (by kernel_rfl) (by kernel_rfl) (by kernel_rfl) (fun _ _ _ h => h) (Or.inl ⟨by rfl, fun w' _ => ?yP6s0⟩) HH.out ?_
                case yP6s0 => (go_simp; try with_reducible rfl)
                refine wpAnyH_take (i := 1) (v := ?vP6s1) rfl (by kernel_rfl) (by kernel_rfl) (by kernel_rfl) (fun _ _ _ h => h) (Or.inl ⟨by rfl, fun w' _ => ?yP6s1⟩) HH.out ?_
                case yP6s1 => (go_simp; try with_reducible rfl)
                try simp only [List.getElem_toArray, List.getElem_cons_succ, List.getElem_cons_zero, Act.put, List.setIfInBounds_toArray, List.set_cons_zero, List.set_cons_succ]
                refine wpAnyH_take (i := 2) (v := ?vP6s2) rfl (by kernel_rfl) (by kernel_rfl) (by kernel_rfl) (fun _ _ _ h => h) (Or.inl ⟨by rfl, fun w' _ => ?yP6s2⟩) HH.out ?_
                case yP6s2 => (go_simp; try with_reducible rfl)
                refine wpAnyH_take (i := 3) (v := ?vP6s3) rfl (by kernel_rfl) (by kernel_rfl) (by kernel_rfl) (fun _ _ _ h => h) (Or.inl ⟨by rfl, fun w' _ => ?yP6s3⟩) HH.out ?_
                case yP6s3 => (go_simp; try with_reducible rfl)
                refine wpAnyH_take (i := 4) (v := ?vP6s4) rfl (by kernel_rfl) (by kernel_rfl) (by kernel_rfl) (fun _ _ _ h => h) (Or.inl ⟨by rfl, fun w' _ => ?yP6s4⟩) HH.out ?_
                case yP6s4 => (go_simp; try with_reducible rfl)
                try simp only [List.getElem_toArray, List.getElem_cons_succ, List.getElem_cons_zero, Act.put, List.setIfInBounds_toArray, List.set_cons_zero, List.set_cons_succ]
                refine wpAnyH_take (i := 5) (v := ?vP6s5) rfl (by kernel_rfl) (by kernel_rfl) (by kernel_rfl) (fun _ _ _ h => h) (Or.inl ⟨by rfl, fun w' _ => ?yP6s5⟩) HH.out ?_
                case yP6s5 => (go_simp; try with_reducible rfl)
                try simp only [List.getElem_toArray, List.getElem_cons_succ, List.getElem_cons_zero, Act.put, List.setIfInBounds_toArray, List.set_cons_zero, List.set_cons_succ]
                refine wpAnyH_take (i := 6) (v := .slice (some ⟨tq, 0, none⟩) tn tj) rfl (by kernel_rfl) (by kernel_rfl) (by kernel_rfl) (fun _ _ _ h => h) (Or.inl ⟨by rfl, fun w' hw' => ?yP6s6⟩) HH.out ?_
                case yP6s6 => (have hc := hw'.1; go_simp; try with_reducible rfl)
                refine wpAnyH_take (i := 7) (v := ?vP6s7) rfl (by kernel_rfl) (by kernel_rfl) (by kernel_rfl) (fun _ _ _ h => h) (Or.inl ⟨by rfl, fun w' _ => ?yP6s7⟩) HH.out ?_
                case yP6s7 => (go_simp; try with_reducible rfl)
                try simp only [List.getElem_toArray, List.getElem_cons_succ, List.getElem_cons_zero, Act.put, List.setIfInBounds_toArray, List.set_cons_zero, List.set_cons_succ]
                refine wpAnyH_take (i := 8) (v := ?vP6s8) rfl (by kernel_rfl) (by kernel_rfl) (by kernel_rfl) (fun _ _ _ h => h) (Or.inl ⟨by rfl, fun w' _ => ?yP6s8⟩) HH.out ?_
                case yP6s8 => (go_simp; try with_reducible rfl)
                refine wpAnyH_take (i := 9) (v := ?vP6s9) rfl (by kernel_rfl) (by kernel_rfl) (by kernel_rfl) (fun _ _ _ h => h) (Or.inl ⟨by rfl, fun w' _ => ?yP6s9⟩) HH.out ?_
                case yP6s9 => (go_simp; try with_reducible rfl)
                refine wpAnyH_take (i := 10) (v := ?vP6s10) rfl (by kernel_rfl) (by kernel_rfl) (by kernel_rfl) (fun _ _ _ h => h) (Or.inl ⟨by rfl, fun w' _ => ?yP6s10⟩) HH.out ?_
                case yP6s10 => (go_simp; try with_reducible rfl)
                try simp only [List.getElem_toArray, List.getElem_cons_succ, List.getElem_cons_zero, Act.put, List.setIfInBounds_toArray, List.set_cons_zero, List.set_cons_succ]
                refine wpAnyH_take (i := 11) (v := ?vP6s11) rfl (by kernel_rfl) (by kernel_rfl) (by kernel_rfl) (fun _ _ _ h => h) (Or.inl ⟨by rfl, fun w' _ => ?yP6s11⟩) HH.out ?_
                case yP6s11 => (go_simp; try with_reducible rfl)
                refine wpAnyH_take (i := 12) (v := ?vP6s12) rfl (by kernel_rfl) (by kernel_rfl) (by kernel_rfl) (fun _ _ _ h => h) (Or.inl ⟨by rfl, fun w' _ => ?yP6s12⟩) HH.out ?_
                case yP6s12 => (go_simp; try with_reducible rfl)
                try simp only [List.getElem_toArray, List.getElem_cons_succ, List.getElem_cons_zero, Act.put, List.setIfInBounds_toArray, List.set_cons_zero, List.set_cons_succ]
                refine wpAnyH_take (i := 13) (v := .slice (some ⟨da, 0, none⟩) dna dja) rfl (by kernel_rfl) (by kernel_rfl) (by kernel_rfl) (fun _ _ _ h => h) (Or.inl ⟨by rfl, fun w' hw' => ?yP6s13⟩) HH.out ?_
                case yP6s13 => (have hc := hw'.2.1; go_simp; try with_reducible rfl)
                try simp only [List.getElem_toArray, List.getElem_cons_succ, List.getElem_cons_zero, Act.put, List.setIfInBounds_toArray, List.set_cons_zero, List.set_cons_succ]
                refine wpAnyH_take (i := 14) (v := ?vP6s14) rfl (by kernel_rfl) (by kernel_rfl) (by kernel_rfl) (fun _ _ _ h => h) (Or.inl ⟨by rfl, fun w' _ => ?yP6s14⟩) HH.out ?_
                case yP6s14 => (go_simp; try with_reducible rfl)
                refine wpAnyH_take (i := 15) (v := ?vP6s15) rfl (by kernel_rfl) (by kernel_rfl) (by kernel_rfl) (fun _ _ _ h => h) (Or.inl ⟨by rfl, fun w' _ => ?yP6s15⟩) HH.out ?_
                case yP6s15 => (go_simp; try with_reducible rfl)
                try simp only [List.getElem_toArray, List.getElem_cons_succ, List.getElem_cons_zero, Act.put, List.setIfInBounds_toArray, List.set_cons_zero, List.set_cons_succ]
                refine wpAnyH_take (i := 16) (v := .agg (bva u)) rfl (by kernel_rfl) (by kernel_rfl) (by kernel_rfl) (fun _ _ _ h => h) (Or.inl ⟨by rfl, fun w' hw' => ?yP6s16⟩) HH.out ?_
                case yP6s16 => exact exec_load_at 38 (.tmp 113) rfl ⟨da, k * 128, none⟩ rfl hw'.2.2 Try.underlying38 rfl HIUL.out
                try simp only [List.getElem_toArray, List.getElem_cons_succ, List.getElem_cons_zero, Act.put, List.setIfInBounds_toArray, List.set_cons_zero, List.set_cons_succ]
                refine wpAnyH_take (i := 17) (v := ?vP6s17) rfl (by kernel_rfl) (by kernel_rfl) (by kernel_rfl) (fun _ _ _ h => h) (Or.inl ⟨by rfl, fun w' _ => ?yP6s17⟩) HH.out ?_
                case yP6s17 => (go_simp; try with_reducible rfl)
                try simp only [List.getElem_toArray, List.getElem_cons_succ, List.getElem_cons_zero, Act.put, List.setIfInBounds_toArray, List.set_cons_zero, List.set_cons_succ]
                refine wpAnyH_ready (rs := [18]) (by kernel_rfl) (by simp) (AllReadyH.cons rfl (fun K hK => ?_) AllReadyH.nil)
                rw [if_pos (by rfl)]
                refine wp_store_mid 38 (.tmp 115) (.tmp 114) rfl tq (k * 128) (bva u) rfl rfl (by rw [bva_size, HU3.out]; exact TTH.out) HIU.out (bva_one _) ?_
                refine hK.out _ _ ⟨?kq0, ?kq1, ?kq2⟩ (fun hh => ?_)
                case kq0 => exact cells_other (show wg7.drew.drew.cell? ⟨g, 1, none⟩ = _ from TC.out) (fun e => TQG.out e.symm)
                case kq1 => exact cells_other (show wg7.drew.drew.cell? ⟨g, 0, none⟩ = _ from dc0) (fun e => TQG.out e.symm)
                case kq2 => exact fun jj z hz => (grown_setCells tq _ _ _).cell (show wg7.drew.drew.cell? _ = _ from dS0.out jj z hz) (by rw [add_block]; intro e; injection e with e; exact TNE.out e)
                clear hh hK K HH
                try simp only [List.getElem_toArray, List.getElem_cons_succ, List.getElem_cons_zero, Act.put]
                refine wpAnyH_done (by kernel_rfl) ?_ _
                obtain ⟨wb, hwb⟩ : ∃ wb, wb = World.setCells wg7.drew.drew tq (k * 128) (bva u).toList := ⟨_, rfl⟩
                rw [← hwb]
                have HBB := Lib.hid (show But (fun y => y = tq) wg7 wb from by rw [hwb]; exact (((But.refl wg7).drew).drew.trans (but_cells _ _ _ _)))
                have HMB := Lib.hid (show RmAt wb g (x.setL 1 k u) F from by rw [hwb]; exact rm_drewL2 TSET.out)
                have HTB := Lib.hid (BTg7.out.trans (HBB.out.mono (fun y hy => by rw [show y = tq from hy]; exact TF.out)))
                have hxb : k < (x.setL 1 k u).a.length := HK.out
                obtain ⟨mq, mn, mj, mc, mk, _, _, mcell, mfree, mqg, mF, _, mset⟩ := HMB.out.mark1 hxb
                have MSET := Lib.hid (mset false)
                have MF := Lib.hid mF
                have mki : (k : Int) < (mn : Int) := by omega
                clear dc2 dc3 dc4 dm4 dc5 dm5 dc0 dc1 dS0 dS1 di4 di5 di0 di1
                clear hwb mk mqg mF mset tki hxb
                go_wp2_with fail
                go_ret2
                refine ⟨?_, ?_, HTB.out.trans ((but_one (w := wb) (g := mq) (o := k) (.bool false)).mono (fun y hy => by rw [show y = mq from hy]; exact MF.out))⟩
                · rw [HRV.out, if_pos (by rfl), if_neg (by simpa using HUV.out)]; rfl
                · rw [HRX.out, if_pos (by rfl), if_neg (by simpa using HUV.out)]; exact MSET.out
            | false =>
              go_enter Try.func65, Try.ntmps65
              go_wp2_with fail
              refine HC.out.mono ?_
              rintro e w1 ⟨rfl, bw⟩
              have H1 := Lib.hid (H.out.below bw)
              have BT1 := Lib.hid (show But F w w1 from but_below bw)
              clear bw H
              have ac2 : w1.cell? ⟨g, 2, none⟩ = some (.bool false) := by rw [← HO.out]; exact H1.out.out0
              have ac3 : w1.cell? ⟨g, 3, none⟩ = some (.bool false) := by rw [← HO1.out]; exact H1.out.out1
              obtain ⟨aq, an, aj, ac4, ak4, _, _, am4, _, _, _, _, _⟩ := H1.out.mark0 HK.out
              obtain ⟨ap, an5, aj5, ac5, ak5, _, _, am5, _, _, _, _, _⟩ := H1.out.mark1 HK.out
              rw [← HSA.out] at am4
              rw [← HSB.out] at am5
              obtain ⟨aa, ana, aja, ac0, ak0, as0, _, _, _⟩ := H1.out.secR0 HK.out
              obtain ⟨ab, anb, ajb, ac1, ak1, as1, _, _, _⟩ := H1.out.secR1 HK.out
              rw [← HUU.out] at as0
              rw [← HVV.out] at as1
              have aS0 := Lib.hid as0
              have aS1 := Lib.hid as1
              have ai4 : (k : Int) < (an : Int) := by omega
              have ai5 : (k : Int) < (an5 : Int) := by omega
              have ai0 : (k : Int) < (ana : Int) := by omega
              have ai1 : (k : Int) < (anb : Int) := by omega
              clear as0 as1 ak4 ak5 ak0 ak1
              go_wp2_with (refine wpList_execg8 rfl (exec_load_at 38 (.tmp 42) rfl ⟨aa, k * 128, none⟩ rfl aS0.out Try.underlying38 rfl HIUL.out) ?_)
              refine (HGU.out _).mono ?_
              rintro e wg8 ⟨rfl, bw⟩
              clear ac2 ac3 ac4 am4 ac5 am5 ac0 ac1 aS0 aS1 ai4 ai5 ai0 ai1
              have Hg8 := Lib.hid (H1.out.below bw)
              have BTg8 := Lib.hid (BT1.out.trans (but_below bw))
              clear bw H1 BT1
              have bc2 : wg8.cell? ⟨g, 2, none⟩ = some (.bool false) := by rw [← HO.out]; exact Hg8.out.out0
              have bc3 : wg8.cell? ⟨g, 3, none⟩ = some (.bool false) := by rw [← HO1.out]; exact Hg8.out.out1
              obtain ⟨bq, bn, bj, bc4, bk4, _, _, bm4, _, _, _, _, _⟩ := Hg8.out.mark0 HK.out
              obtain ⟨bp, bn5, bj5, bc5, bk5, _, _, bm5, _, _, _, _, _⟩ := Hg8.out.mark1 HK.out
              rw [← HSA.out] at bm4
              rw [← HSB.out] at bm5
              obtain ⟨ba, bna, bja, bc0, bk0, bs0, _, _, _⟩ := Hg8.out.secR0 HK.out
              obtain ⟨bb, bnb, bjb, bc1, bk1, bs1, _, _, _⟩ := Hg8.out.secR1 HK.out
              rw [← HUU.out] at bs0
              rw [← HVV.out] at bs1
              have bS0 := Lib.hid bs0
              have bS1 := Lib.hid bs1
              have bi4 : (k : Int) < (bn : Int) := by omega
              have bi5 : (k : Int) < (bn5 : Int) := by omega
              have bi0 : (k : Int) < (bna : Int) := by omega
              have bi1 : (k : Int) < (bnb : Int) := by omega
              clear bs0 bs1 bk4 bk5 bk0 bk1
              go_wp2_with (refine wpList_execg8 rfl (exec_load_at 38 (.tmp 63) rfl ⟨bb, k * 128, none⟩ rfl bS1.out Try.underlying38 rfl HIVL.out) ?_)
              refine (HGV.out _).mono ?_
              rintro e wg9 ⟨rfl, bw⟩
              clear bc2 bc3 bc4 bm4 bc5 bm5 bc0 bc1 bS0 bS1 bi4 bi5 bi0 bi1
              have Hg9 := Lib.hid (Hg8.out.below bw)
              have BTg9 := Lib.hid (BTg8.out.trans (but_below bw))
              clear bw Hg8 BTg8
              have dc2 : wg9.cell? ⟨g, 2, none⟩ = some (.bool false) := by rw [← HO.out]; exact Hg9.out.out0
              have dc3 : wg9.cell? ⟨g, 3, none⟩ = some (.bool false) := by rw [← HO1.out]; exact Hg9.out.out1
              obtain ⟨dq, dn, dj, dc4, dk4, _, _, dm4, _, _, _, _, _⟩ := Hg9.out.mark0 HK.out
              obtain ⟨dp, dn5, dj5, dc5, dk5, _, _, dm5, _, _, _, _, _⟩ := Hg9.out.mark1 HK.out
              rw [← HSA.out] at dm4
              rw [← HSB.out] at dm5
              obtain ⟨da, dna, dja, dc0, dk0, ds0, _, _, _⟩ := Hg9.out.secR0 HK.out
              obtain ⟨db, dnb, djb, dc1, dk1, ds1, _, _, _⟩ := Hg9.out.secR1 HK.out
              rw [← HUU.out] at ds0
              rw [← HVV.out] at ds1
              have dS0 := Lib.hid ds0
              have dS1 := Lib.hid ds1
              have di4 : (k : Int) < (dn : Int) := by omega
              have di5 : (k : Int) < (dn5 : Int) := by omega
              have di0 : (k : Int) < (dna : Int) := by omega
              have di1 : (k : Int) < (dnb : Int) := by omega
              clear ds0 ds1 dk4 dk5 dk0 dk1
              go_upto_region 9 with fail
              refine wp_region_held_drew (S := fun w' => w'.cell? ⟨g, 0, none⟩ = some (.slice (some ⟨da, 0, none⟩) dna dja) ∧ w'.cell? ⟨g, 1, none⟩ = some (.slice (some ⟨db, 0, none⟩) dnb djb) ∧ (∀ jj z, (bv u)[jj]? = some z → w'.cell? ((⟨da, k * 128, none⟩ : Addr).add jj) = some z) ∧ (∀ jj z, (bv v)[jj]? = some z → w'.cell? ((⟨db, k * 128, none⟩ : Addr).add jj) = some z)) (by kernel_rfl) ⟨dc0, dc1, dS0.out, dS1.out⟩ (fun hh => ?_)
              have HH := Lib.hid hh
              clear hh
              refine wpAnyH_take (i := 0) (v := ?vP70) rfl (by kernel_rfl) (by kernel_rfl) (by kernel_rfl) (fun _ _ _ h => h) (Or.inl ⟨by rfl, fun w' _ => ?yP70⟩) HH.out ?_
              case yP70 => (go_simp; try with_reducible rfl)
              refine wpAnyH_take (i := 1) (v := ?vP71) rfl (by kernel_rfl) (by kernel_rfl) (by kernel_rfl) (fun _ _ _ h => h) (Or.inl ⟨by rfl, fun w' _ => ?yP71⟩) HH.out ?_
              case yP71 => (go_simp; try with_reducible rfl)
              try simp only [List.getElem_toArray, List.getElem_cons_succ, List.getElem_cons_zero, Act.put, List.setIfInBounds_toArray, List.set_cons_zero, List.set_cons_succ]
              refine wpAnyH_take (i := 2) (v := ?vP72) rfl (by kernel_rfl) (by kernel_rfl) (by kernel_rfl) (fun _ _ _ h => h) (Or.inl ⟨by rfl, fun w' _ => ?yP72⟩) HH.out ?_
              case yP72 => (go_simp; try with_reducible rfl)
              refine wpAnyH_take (i := 3) (v := ?vP73) rfl (by kernel_rfl) (by kernel_rfl) (by kernel_rfl) (fun _ _ _ h => h) (Or.inl ⟨by rfl, fun w' _ => ?yP73⟩) HH.out ?_
              case yP73 => (go_simp; try with_reducible rfl)
              refine wpAnyH_take (i := 4) (v := ?vP74) rfl (by kernel_rfl) (by kernel_rfl) (by kernel_rfl) (fun _ _ _ h => h) (Or.inl ⟨by rfl, fun w' _ => ?yP74⟩) HH.out ?_
              case yP74 => (go_simp; try with_reducible rfl)
              try simp only [List.getElem_toArray, List.getElem_cons_succ, List.getElem_cons_zero, Act.put, List.setIfInBounds_toArray, List.set_cons_zero, List.set_cons_succ]
              refine wpAnyH_take (i := 5) (v := undef) rfl (by kernel_rfl) (by kernel_rfl) (by kernel_rfl) (fun _ _ _ h => h) (Or.inr ⟨by rfl, rfl⟩) HH.out ?_
              refine wpAnyH_take (i := 6) (v := undef) rfl (by kernel_rfl) (by kernel_rfl) (by kernel_rfl) (fun _ _ _ h => h) (Or.inr ⟨by rfl, rfl⟩) HH.out ?_
              refine wpAnyH_take (i := 7) (v := undef) rfl (by kernel_rfl) (by kernel_rfl) (by kernel_rfl) (fun _ _ _ h => h) (Or.inr ⟨by rfl, rfl⟩) HH.out ?_
              try simp only [List.getElem_toArray, List.getElem_cons_succ, List.getElem_cons_zero, Act.put, List.setIfInBounds_toArray, List.set_cons_zero, List.set_cons_succ]
              refine wpAnyH_take (i := 8) (v := undef) rfl (by kernel_rfl) (by kernel_rfl) (by kernel_rfl) (fun _ _ _ h => h) (Or.inr ⟨by rfl, rfl⟩) HH.out ?_
              refine wpAnyH_take (i := 9) (v := undef) rfl (by kernel_rfl) (by kernel_rfl) (by kernel_rfl) (fun _ _ _ h => h) (Or.inr ⟨by rfl, rfl⟩) HH.out ?_
              refine wpAnyH_take (i := 10) (v := undef) rfl (by kernel_rfl) (by kernel_rfl) (by kernel_rfl) (fun _ _ _ h => h) (Or.inr ⟨by rfl, rfl⟩) HH.out ?_
              try simp only [List.getElem_toArray, List.getElem_cons_succ, List.getElem_cons_zero, Act.put, List.setIfInBounds_toArray, List.set_cons_zero, List.set_cons_succ]
              refine wpAnyH_take (i := 11) (v := undef) rfl (by kernel_rfl) (by kernel_rfl) (by kernel_rfl) (fun _ _ _ h => h) (Or.inr ⟨by rfl, rfl⟩) HH.out ?_
              refine wpAnyH_take (i := 12) (v := undef) rfl (by kernel_rfl) (by kernel_rfl) (by kernel_rfl) (fun _ _ _ h => h) (Or.inr ⟨by rfl, rfl⟩) HH.out ?_
              refine wpAnyH_take (i := 13) (v := undef) rfl (by kernel_rfl) (by kernel_rfl) (by kernel_rfl) (fun _ _ _ h => h) (Or.inr ⟨by rfl, rfl⟩) HH.out ?_
              try simp only [List.getElem_toArray, List.getElem_cons_succ, List.getElem_cons_zero, Act.put, List.setIfInBounds_toArray, List.set_cons_zero, List.set_cons_succ]
              refine wpAnyH_take (i := 14) (v := undef) rfl (by kernel_rfl) (by kernel_rfl) (by kernel_rfl) (fun _ _ _ h => h) (Or.inr ⟨by rfl, rfl⟩) HH.out ?_
              refine wpAnyH_take (i := 15) (v := undef) rfl (by kernel_rfl) (by kernel_rfl) (by kernel_rfl) (fun _ _ _ h => h) (Or.inr ⟨by rfl, rfl⟩) HH.out ?_
              refine wpAnyH_take (i := 16) (v := undef) rfl (by kernel_rfl) (by kernel_rfl) (by kernel_rfl) (fun _ _ _ h => h) (Or.inr ⟨by rfl, rfl⟩) HH.out ?_
              try simp only [List.getElem_toArray, List.getElem_cons_succ, List.getElem_cons_zero, Act.put, List.setIfInBounds_toArray, List.set_cons_zero, List.set_cons_succ]
              refine wpAnyH_take (i := 17) (v := undef) rfl (by kernel_rfl) (by kernel_rfl) (by kernel_rfl) (fun _ _ _ h => h) (Or.inr ⟨by rfl, rfl⟩) HH.out ?_
              refine wpAnyH_take (i := 18) (v := undef) rfl (by kernel_rfl) (by kernel_rfl) (by kernel_rfl) (fun _ _ _ h => h) (Or.inr ⟨by rfl, rfl⟩) HH.out ?_
              refine wpAnyH_take (i := 19) (v := undef) rfl (by kernel_rfl) (by kernel_rfl) (by kernel_rfl) (fun _ _ _ h => h) (Or.inr ⟨by rfl, rfl⟩) HH.out ?_
              try simp only [List.getElem_toArray, List.getElem_cons_succ, List.getElem_cons_zero, Act.put, List.setIfInBounds_toArray, List.set_cons_zero, List.set_cons_succ]
              refine wpAnyH_take (i := 20) (v := undef) rfl (by kernel_rfl) (by kernel_rfl) (by kernel_rfl) (fun _ _ _ h => h) (Or.inr ⟨by rfl, rfl⟩) HH.out ?_
              refine wpAnyH_take (i := 21) (v := undef) rfl (by kernel_rfl) (by kernel_rfl) (by kernel_rfl) (fun _ _ _ h => h) (Or.inr ⟨by rfl, rfl⟩) HH.out ?_
              refine wpAnyH_take (i := 22) (v := ?vP722) rfl (by kernel_rfl) (by kernel_rfl) (by kernel_rfl) (fun _ _ _ h => h) (Or.inl ⟨by rfl, fun w' _ => ?yP722⟩) HH.out ?_
              case yP722 => (go_simp; try with_reducible rfl)
              try simp only [List.getElem_toArray, List.getElem_cons_succ, List.getElem_cons_zero, Act.put, List.setIfInBounds_toArray, List.set_cons_zero, List.set_cons_succ]
              refine wpAnyH_done (by kernel_rfl) ?_ _
              obtain ⟨tq, tn, tj, tc, tk, _, _, _, _, tth, tqg, tF, tl, tne, tset⟩ := Hg9.out.sect1 HK.out
              have TSET := Lib.hid (tset u HU3.out)
              have TTH := Lib.hid (show wg9.drew.drew.there tq (k * 128) 128 from tth)
              have TQG := Lib.hid tqg
              have TF := Lib.hid tF
              have TNE := Lib.hid (show da ≠ tq from tne da ⟨_, _, dc0⟩)
              have TC := Lib.hid tc
              have tki : (k : Int) < (tn : Int) := by omega
              clear tk tth tqg tF tl tne tset tc HH
              have wz0 : IntKind.i64.wrap 0 = 0 := IntWalk.i64_in 0 (by omega)
              have wz1 : IntKind.i64.wrap 1 = 1 := IntWalk.i64_in 1 (by omega)
              go_upto_region 14 with fail
              refine wp_region_held_drew (S := fun w' => w'.cell? ⟨g, 1, none⟩ = some (.slice (some ⟨tq, 0, none⟩) tn tj) ∧ w'.cell? ⟨g, 0, none⟩ = some (.slice (some ⟨da, 0, none⟩) dna dja) ∧ (∀ jj z, (bv u)[jj]? = some z → w'.cell? ((⟨da, k * 128, none⟩ : Addr).add jj) = some z)) (by kernel_rfl) ⟨TC.out, dc0, dS0.out⟩ (fun hh => ?_)
              have HH := Lib.hid hh
              clear hh
              refine wpAnyH_take (i := 0) (v := ?vP7s0) rfl (by kernel_rfl) (by kernel_rfl) (by kernel_rfl) (fun _ _ _ h => h) (Or.inl ⟨by rfl, fun w' _ => ?yP7s0⟩) HH.out ?_
              case yP7s0 => (go_simp; try with_reducible rfl)
              refine wpAnyH_take (i := 1) (v := ?vP7s1) rfl (by kernel_rfl) (by kernel_rfl) (by kernel_rfl) (fun _ _ _ h => h) (Or.inl ⟨by rfl, fun w' _ => ?yP7s1⟩) HH.out ?_
              case yP7s1 => (go_simp; try with_reducible rfl)
              try simp only [List.getElem_toArray, List.getElem_cons_succ, List.getElem_cons_zero, Act.put, List.setIfInBounds_toArray, List.set_cons_zero, List.set_cons_succ]
              refine wpAnyH_take (i := 2) (v := ?vP7s2) rfl (by kernel_rfl) (by kernel_rfl) (by kernel_rfl) (fun _ _ _ h => h) (Or.inl ⟨by rfl, fun w' _ => ?yP7s2⟩) HH.out ?_
              case yP7s2 => (go_simp; try with_reducible rfl)
              refine wpAnyH_take (i := 3) (v := ?vP7s3) rfl (by kernel_rfl) (by kernel_rfl) (by kernel_rfl) (fun _ _ _ h => h) (Or.inl ⟨by rfl, fun w' _ => ?yP7s3⟩) HH.out ?_
              case yP7s3 => (go_simp; try with_reducible rfl)
              refine wpAnyH_take (i := 4) (v := ?vP7s4) rfl (by kernel_rfl) (by kernel_rfl) (by kernel_rfl) (fun _ _ _ h => h) (Or.inl ⟨by rfl, fun w' _ => ?yP7s4⟩) HH.out ?_
              case yP7s4 => (go_simp; try with_reducible rfl)
              try simp only [List.getElem_toArray, List.getElem_cons_succ, List.getElem_cons_zero, Act.put, List.setIfInBounds_toArray, List.set_cons_zero, List.set_cons_succ]
              refine wpAnyH_take (i := 5) (v := ?vP7s5) rfl (by kernel_rfl) (by kernel_rfl) (by kernel_rfl) (fun _ _ _ h => h) (Or.inl ⟨by rfl, fun w' _ => ?yP7s5⟩) HH.out ?_
              case yP7s5 => (go_simp; try with_reducible rfl)
              try simp only [List.getElem_toArray, List.getElem_cons_succ, List.getElem_cons_zero, Act.put, List.setIfInBounds_toArray, List.set_cons_zero, List.set_cons_succ]
              refine wpAnyH_take (i := 6) (v := .slice (some ⟨tq, 0, none⟩) tn tj) rfl (by kernel_rfl) (by kernel_rfl) (by kernel_rfl) (fun _ _ _ h => h) (Or.inl ⟨by rfl, fun w' hw' => ?yP7s6⟩) HH.out ?_
              case yP7s6 => (have hc := hw'.1; go_simp; try with_reducible rfl)
              refine wpAnyH_take (i := 7) (v := ?vP7s7) rfl (by kernel_rfl) (by kernel_rfl) (by kernel_rfl) (fun _ _ _ h => h) (Or.inl ⟨by rfl, fun w' _ => ?yP7s7⟩) HH.out ?_
              case yP7s7 => (go_simp; try with_reducible rfl)
              try simp only [List.getElem_toArray, List.getElem_cons_succ, List.getElem_cons_zero, Act.put, List.setIfInBounds_toArray, List.set_cons_zero, List.set_cons_succ]
              refine wpAnyH_take (i := 8) (v := ?vP7s8) rfl (by kernel_rfl) (by kernel_rfl) (by kernel_rfl) (fun _ _ _ h => h) (Or.inl ⟨by rfl, fun w' _ => ?yP7s8⟩) HH.out ?_
              case yP7s8 => (go_simp; try with_reducible rfl)
              refine wpAnyH_take (i := 9) (v := ?vP7s9) rfl (by kernel_rfl) (by kernel_rfl) (by kernel_rfl) (fun _ _ _ h => h) (Or.inl ⟨by rfl, fun w' _ => ?yP7s9⟩) HH.out ?_
              case yP7s9 => (go_simp; try with_reducible rfl)
              refine wpAnyH_take (i := 10) (v := ?vP7s10) rfl (by kernel_rfl) (by kernel_rfl) (by kernel_rfl) (fun _ _ _ h => h) (Or.inl ⟨by rfl, fun w' _ => ?yP7s10⟩) HH.out ?_
              case yP7s10 => (go_simp; try with_reducible rfl)
              try simp only [List.getElem_toArray, List.getElem_cons_succ, List.getElem_cons_zero, Act.put, List.setIfInBounds_toArray, List.set_cons_zero, List.set_cons_succ]
              refine wpAnyH_take (i := 11) (v := ?vP7s11) rfl (by kernel_rfl) (by kernel_rfl) (by kernel_rfl) (fun _ _ _ h => h) (Or.inl ⟨by rfl, fun w' _ => ?yP7s11⟩) HH.out ?_
              case yP7s11 => (go_simp; try with_reducible rfl)
              refine wpAnyH_take (i := 12) (v := ?vP7s12) rfl (by kernel_rfl) (by kernel_rfl) (by kernel_rfl) (fun _ _ _ h => h) (Or.inl ⟨by rfl, fun w' _ => ?yP7s12⟩) HH.out ?_
              case yP7s12 => (go_simp; try with_reducible rfl)
              try simp only [List.getElem_toArray, List.getElem_cons_succ, List.getElem_cons_zero, Act.put, List.setIfInBounds_toArray, List.set_cons_zero, List.set_cons_succ]
              refine wpAnyH_take (i := 13) (v := .slice (some ⟨da, 0, none⟩) dna dja) rfl (by kernel_rfl) (by kernel_rfl) (by kernel_rfl) (fun _ _ _ h => h) (Or.inl ⟨by rfl, fun w' hw' => ?yP7s13⟩) HH.out ?_
              case yP7s13 => (have hc := hw'.2.1; go_simp; try with_reducible rfl)
              try simp only [List.getElem_toArray, List.getElem_cons_succ, List.getElem_cons_zero, Act.put, List.setIfInBounds_toArray, List.set_cons_zero, List.set_cons_succ]
              refine wpAnyH_take (i := 14) (v := ?vP7s14) rfl (by kernel_rfl) (by kernel_rfl) (by kernel_rfl) (fun _ _ _ h => h) (Or.inl ⟨by rfl, fun w' _ => ?yP7s14⟩) HH.out ?_
              case yP7s14 => (go_simp; try with_reducible rfl)
              refine wpAnyH_take (i := 15) (v := ?vP7s15) rfl (by kernel_rfl) (by kernel_rfl) (by kernel_rfl) (fun _ _ _ h => h) (Or.inl ⟨by rfl, fun w' _ => ?yP7s15⟩) HH.out ?_
              case yP7s15 => (go_simp; try with_reducible rfl)
              try simp only [List.getElem_toArray, List.getElem_cons_succ, List.getElem_cons_zero, Act.put, List.setIfInBounds_toArray, List.set_cons_zero, List.set_cons_succ]
              refine wpAnyH_take (i := 16) (v := .agg (bva u)) rfl (by kernel_rfl) (by kernel_rfl) (by kernel_rfl) (fun _ _ _ h => h) (Or.inl ⟨by rfl, fun w' hw' => ?yP7s16⟩) HH.out ?_
              case yP7s16 => exact exec_load_at 38 (.tmp 113) rfl ⟨da, k * 128, none⟩ rfl hw'.2.2 Try.underlying38 rfl HIUL.out
              try simp only [List.getElem_toArray, List.getElem_cons_succ, List.getElem_cons_zero, Act.put, List.setIfInBounds_toArray, List.set_cons_zero, List.set_cons_succ]
              refine wpAnyH_take (i := 17) (v := ?vP7s17) rfl (by kernel_rfl) (by kernel_rfl) (by kernel_rfl) (fun _ _ _ h => h) (Or.inl ⟨by rfl, fun w' _ => ?yP7s17⟩) HH.out ?_
              case yP7s17 => (go_simp; try with_reducible rfl)
              try simp only [List.getElem_toArray, List.getElem_cons_succ, List.getElem_cons_zero, Act.put, List.setIfInBounds_toArray, List.set_cons_zero, List.set_cons_succ]
              refine wpAnyH_ready (rs := [18]) (by kernel_rfl) (by simp) (AllReadyH.cons rfl (fun K hK => ?_) AllReadyH.nil)
              rw [if_pos (by rfl)]
              refine wp_store_mid 38 (.tmp 115) (.tmp 114) rfl tq (k * 128) (bva u) rfl rfl (by rw [bva_size, HU3.out]; exact TTH.out) HIU.out (bva_one _) ?_
              refine hK.out _ _ ⟨?kq0, ?kq1, ?kq2⟩ (fun hh => ?_)
              case kq0 => exact cells_other (show wg9.drew.drew.cell? ⟨g, 1, none⟩ = _ from TC.out) (fun e => TQG.out e.symm)
              case kq1 => exact cells_other (show wg9.drew.drew.cell? ⟨g, 0, none⟩ = _ from dc0) (fun e => TQG.out e.symm)
              case kq2 => exact fun jj z hz => (grown_setCells tq _ _ _).cell (show wg9.drew.drew.cell? _ = _ from dS0.out jj z hz) (by rw [add_block]; intro e; injection e with e; exact TNE.out e)
              clear hh hK K HH
              try simp only [List.getElem_toArray, List.getElem_cons_succ, List.getElem_cons_zero, Act.put]
              refine wpAnyH_done (by kernel_rfl) ?_ _
              obtain ⟨wb, hwb⟩ : ∃ wb, wb = World.setCells wg9.drew.drew tq (k * 128) (bva u).toList := ⟨_, rfl⟩
              rw [← hwb]
              have HBB := Lib.hid (show But (fun y => y = tq) wg9 wb from by rw [hwb]; exact (((But.refl wg9).drew).drew.trans (but_cells _ _ _ _)))
              have HMB := Lib.hid (show RmAt wb g (x.setL 1 k u) F from by rw [hwb]; exact rm_drewL2 TSET.out)
              have HTB := Lib.hid (BTg9.out.trans (HBB.out.mono (fun y hy => by rw [show y = tq from hy]; exact TF.out)))
              have hxb : k < (x.setL 1 k u).a.length := HK.out
              obtain ⟨mq, mn, mj, mc, mk, _, _, mcell, mfree, mqg, mF, _, mset⟩ := HMB.out.mark1 hxb
              have MSET := Lib.hid (mset false)
              have MF := Lib.hid mF
              have mki : (k : Int) < (mn : Int) := by omega
              clear dc2 dc3 dc4 dm4 dc5 dm5 dc0 dc1 dS0 dS1 di4 di5 di0 di1
              clear hwb mk mqg mF mset tki hxb
              go_wp2_with fail
              go_ret2
              refine ⟨?_, ?_, HTB.out.trans ((but_one (w := wb) (g := mq) (o := k) (.bool false)).mono (fun y hy => by rw [show y = mq from hy]; exact MF.out))⟩
              · rw [HRV.out, if_pos (by rfl), if_neg (by simp)]; rfl
              · rw [HRX.out, if_pos (by rfl), if_neg (by simp)]; exact MSET.out
        | false =>
          cases sb with
          | true =>
            go_enter Try.func65, Try.ntmps65
            go_wp2_with fail
            refine HC.out.mono ?_
            rintro e w1 ⟨rfl, bw⟩
            have H1 := Lib.hid (H.out.below bw)
            have BT1 := Lib.hid (show But F w w1 from but_below bw)
            clear bw H
            have ac2 : w1.cell? ⟨g, 2, none⟩ = some (.bool false) := by rw [← HO.out]; exact H1.out.out0
            have ac3 : w1.cell? ⟨g, 3, none⟩ = some (.bool false) := by rw [← HO1.out]; exact H1.out.out1
            obtain ⟨aq, an, aj, ac4, ak4, _, _, am4, _, _, _, _, _⟩ := H1.out.mark0 HK.out
            obtain ⟨ap, an5, aj5, ac5, ak5, _, _, am5, _, _, _, _, _⟩ := H1.out.mark1 HK.out
            rw [← HSA.out] at am4
            rw [← HSB.out] at am5
            obtain ⟨aa, ana, aja, ac0, ak0, as0, _, _, _⟩ := H1.out.secR0 HK.out
            obtain ⟨ab, anb, ajb, ac1, ak1, as1, _, _, _⟩ := H1.out.secR1 HK.out
            rw [← HUU.out] at as0
            rw [← HVV.out] at as1
            have aS0 := Lib.hid as0
            have aS1 := Lib.hid as1
            have ai4 : (k : Int) < (an : Int) := by omega
            have ai5 : (k : Int) < (an5 : Int) := by omega
            have ai0 : (k : Int) < (ana : Int) := by omega
            have ai1 : (k : Int) < (anb : Int) := by omega
            clear as0 as1 ak4 ak5 ak0 ak1
            go_wp2_with (refine wpList_execg8 rfl (exec_load_at 38 (.tmp 42) rfl ⟨aa, k * 128, none⟩ rfl aS0.out Try.underlying38 rfl HIUL.out) ?_)
            refine (HGU.out _).mono ?_
            rintro e wg10 ⟨rfl, bw⟩
            clear ac2 ac3 ac4 am4 ac5 am5 ac0 ac1 aS0 aS1 ai4 ai5 ai0 ai1
            have Hg10 := Lib.hid (H1.out.below bw)
            have BTg10 := Lib.hid (BT1.out.trans (but_below bw))
            clear bw H1 BT1
            have bc2 : wg10.cell? ⟨g, 2, none⟩ = some (.bool false) := by rw [← HO.out]; exact Hg10.out.out0
            have bc3 : wg10.cell? ⟨g, 3, none⟩ = some (.bool false) := by rw [← HO1.out]; exact Hg10.out.out1
            obtain ⟨bq, bn, bj, bc4, bk4, _, _, bm4, _, _, _, _, _⟩ := Hg10.out.mark0 HK.out
            obtain ⟨bp, bn5, bj5, bc5, bk5, _, _, bm5, _, _, _, _, _⟩ := Hg10.out.mark1 HK.out
            rw [← HSA.out] at bm4
            rw [← HSB.out] at bm5
            obtain ⟨ba, bna, bja, bc0, bk0, bs0, _, _, _⟩ := Hg10.out.secR0 HK.out
            obtain ⟨bb, bnb, bjb, bc1, bk1, bs1, _, _, _⟩ := Hg10.out.secR1 HK.out
            rw [← HUU.out] at bs0
            rw [← HVV.out] at bs1
            have bS0 := Lib.hid bs0
            have bS1 := Lib.hid bs1
            have bi4 : (k : Int) < (bn : Int) := by omega
            have bi5 : (k : Int) < (bn5 : Int) := by omega
            have bi0 : (k : Int) < (bna : Int) := by omega
            have bi1 : (k : Int) < (bnb : Int) := by omega
            clear bs0 bs1 bk4 bk5 bk0 bk1
            go_wp2_with fail
            go_ret2
            exact ⟨by rw [HRV.out]; rfl, by rw [HRX.out]; exact Hg10.out, BTg10.out⟩
          | false =>
            cases gv with
            | true =>
              go_enter Try.func65, Try.ntmps65
              go_wp2_with fail
              refine HC.out.mono ?_
              rintro e w1 ⟨rfl, bw⟩
              have H1 := Lib.hid (H.out.below bw)
              have BT1 := Lib.hid (show But F w w1 from but_below bw)
              clear bw H
              have ac2 : w1.cell? ⟨g, 2, none⟩ = some (.bool false) := by rw [← HO.out]; exact H1.out.out0
              have ac3 : w1.cell? ⟨g, 3, none⟩ = some (.bool false) := by rw [← HO1.out]; exact H1.out.out1
              obtain ⟨aq, an, aj, ac4, ak4, _, _, am4, _, _, _, _, _⟩ := H1.out.mark0 HK.out
              obtain ⟨ap, an5, aj5, ac5, ak5, _, _, am5, _, _, _, _, _⟩ := H1.out.mark1 HK.out
              rw [← HSA.out] at am4
              rw [← HSB.out] at am5
              obtain ⟨aa, ana, aja, ac0, ak0, as0, _, _, _⟩ := H1.out.secR0 HK.out
              obtain ⟨ab, anb, ajb, ac1, ak1, as1, _, _, _⟩ := H1.out.secR1 HK.out
              rw [← HUU.out] at as0
              rw [← HVV.out] at as1
              have aS0 := Lib.hid as0
              have aS1 := Lib.hid as1
              have ai4 : (k : Int) < (an : Int) := by omega
              have ai5 : (k : Int) < (an5 : Int) := by omega
              have ai0 : (k : Int) < (ana : Int) := by omega
              have ai1 : (k : Int) < (anb : Int) := by omega
              clear as0 as1 ak4 ak5 ak0 ak1
              go_wp2_with (refine wpList_execg8 rfl (exec_load_at 38 (.tmp 42) rfl ⟨aa, k * 128, none⟩ rfl aS0.out Try.underlying38 rfl HIUL.out) ?_)
              refine (HGU.out _).mono ?_
              rintro e wg11 ⟨rfl, bw⟩
              clear ac2 ac3 ac4 am4 ac5 am5 ac0 ac1 aS0 aS1 ai4 ai5 ai0 ai1
              have Hg11 := Lib.hid (H1.out.below bw)
              have BTg11 := Lib.hid (BT1.out.trans (but_below bw))
              clear bw H1 BT1
              have bc2 : wg11.cell? ⟨g, 2, none⟩ = some (.bool false) := by rw [← HO.out]; exact Hg11.out.out0
              have bc3 : wg11.cell? ⟨g, 3, none⟩ = some (.bool false) := by rw [← HO1.out]; exact Hg11.out.out1
              obtain ⟨bq, bn, bj, bc4, bk4, _, _, bm4, _, _, _, _, _⟩ := Hg11.out.mark0 HK.out
              obtain ⟨bp, bn5, bj5, bc5, bk5, _, _, bm5, _, _, _, _, _⟩ := Hg11.out.mark1 HK.out
              rw [← HSA.out] at bm4
              rw [← HSB.out] at bm5
              obtain ⟨ba, bna, bja, bc0, bk0, bs0, _, _, _⟩ := Hg11.out.secR0 HK.out
              obtain ⟨bb, bnb, bjb, bc1, bk1, bs1, _, _, _⟩ := Hg11.out.secR1 HK.out
              rw [← HUU.out] at bs0
              rw [← HVV.out] at bs1
              have bS0 := Lib.hid bs0
              have bS1 := Lib.hid bs1
              have bi4 : (k : Int) < (bn : Int) := by omega
              have bi5 : (k : Int) < (bn5 : Int) := by omega
              have bi0 : (k : Int) < (bna : Int) := by omega
              have bi1 : (k : Int) < (bnb : Int) := by omega
              clear bs0 bs1 bk4 bk5 bk0 bk1
              go_wp2_with (refine wpList_execg8 rfl (exec_load_at 38 (.tmp 63) rfl ⟨bb, k * 128, none⟩ rfl bS1.out Try.underlying38 rfl HIVL.out) ?_)
              refine (HGV.out _).mono ?_
              rintro e wg12 ⟨rfl, bw⟩
              clear bc2 bc3 bc4 bm4 bc5 bm5 bc0 bc1 bS0 bS1 bi4 bi5 bi0 bi1
              have Hg12 := Lib.hid (Hg11.out.below bw)
              have BTg12 := Lib.hid (BTg11.out.trans (but_below bw))
              clear bw Hg11 BTg11
              have dc2 : wg12.cell? ⟨g, 2, none⟩ = some (.bool false) := by rw [← HO.out]; exact Hg12.out.out0
              have dc3 : wg12.cell? ⟨g, 3, none⟩ = some (.bool false) := by rw [← HO1.out]; exact Hg12.out.out1
              obtain ⟨dq, dn, dj, dc4, dk4, _, _, dm4, _, _, _, _, _⟩ := Hg12.out.mark0 HK.out
              obtain ⟨dp, dn5, dj5, dc5, dk5, _, _, dm5, _, _, _, _, _⟩ := Hg12.out.mark1 HK.out
              rw [← HSA.out] at dm4
              rw [← HSB.out] at dm5
              obtain ⟨da, dna, dja, dc0, dk0, ds0, _, _, _⟩ := Hg12.out.secR0 HK.out
              obtain ⟨db, dnb, djb, dc1, dk1, ds1, _, _, _⟩ := Hg12.out.secR1 HK.out
              rw [← HUU.out] at ds0
              rw [← HVV.out] at ds1
              have dS0 := Lib.hid ds0
              have dS1 := Lib.hid ds1
              have di4 : (k : Int) < (dn : Int) := by omega
              have di5 : (k : Int) < (dn5 : Int) := by omega
              have di0 : (k : Int) < (dna : Int) := by omega
              have di1 : (k : Int) < (dnb : Int) := by omega
              clear ds0 ds1 dk4 dk5 dk0 dk1
              go_upto_region 9 with fail
              refine wp_region_held_drew (S := fun w' => w'.cell? ⟨g, 0, none⟩ = some (.slice (some ⟨da, 0, none⟩) dna dja) ∧ w'.cell? ⟨g, 1, none⟩ = some (.slice (some ⟨db, 0, none⟩) dnb djb) ∧ (∀ jj z, (bv u)[jj]? = some z → w'.cell? ((⟨da, k * 128, none⟩ : Addr).add jj) = some z) ∧ (∀ jj z, (bv v)[jj]? = some z → w'.cell? ((⟨db, k * 128, none⟩ : Addr).add jj) = some z)) (by kernel_rfl) ⟨dc0, dc1, dS0.out, dS1.out⟩ (fun hh => ?_)
              have HH := Lib.hid hh
              clear hh
              refine wpAnyH_take (i := 0) (v := ?vP90) rfl (by kernel_rfl) (by kernel_rfl) (by kernel_rfl) (fun _ _ _ h => h) (Or.inl ⟨by rfl, fun w' _ => ?yP90⟩) HH.out ?_
              case yP90 => (go_simp; try with_reducible rfl)
              refine wpAnyH_take (i := 1) (v := ?vP91) rfl (by kernel_rfl) (by kernel_rfl) (by kernel_rfl) (fun _ _ _ h => h) (Or.inl ⟨by rfl, fun w' _ => ?yP91⟩) HH.out ?_
              case yP91 => (go_simp; try with_reducible rfl)
              try simp only [List.getElem_toArray, List.getElem_cons_succ, List.getElem_cons_zero, Act.put, List.setIfInBounds_toArray, List.set_cons_zero, List.set_cons_succ]
              refine wpAnyH_take (i := 2) (v := undef) rfl (by kernel_rfl) (by kernel_rfl) (by kernel_rfl) (fun _ _ _ h => h) (Or.inr ⟨by rfl, rfl⟩) HH.out ?_
              refine wpAnyH_take (i := 3) (v := ?vP93) rfl (by kernel_rfl) (by kernel_rfl) (by kernel_rfl) (fun _ _ _ h => h) (Or.inl ⟨by rfl, fun w' _ => ?yP93⟩) HH.out ?_
              case yP93 => (go_simp; try with_reducible rfl)
              refine wpAnyH_take (i := 4) (v := ?vP94) rfl (by kernel_rfl) (by kernel_rfl) (by kernel_rfl) (fun _ _ _ h => h) (Or.inl ⟨by rfl, fun w' _ => ?yP94⟩) HH.out ?_
              case yP94 => (go_simp; try with_reducible rfl)
              try simp only [List.getElem_toArray, List.getElem_cons_succ, List.getElem_cons_zero, Act.put, List.setIfInBounds_toArray, List.set_cons_zero, List.set_cons_succ]
              refine wpAnyH_take (i := 5) (v := undef) rfl (by kernel_rfl) (by kernel_rfl) (by kernel_rfl) (fun _ _ _ h => h) (Or.inr ⟨by rfl, rfl⟩) HH.out ?_
              refine wpAnyH_take (i := 6) (v := undef) rfl (by kernel_rfl) (by kernel_rfl) (by kernel_rfl) (fun _ _ _ h => h) (Or.inr ⟨by rfl, rfl⟩) HH.out ?_
              refine wpAnyH_take (i := 7) (v := undef) rfl (by kernel_rfl) (by kernel_rfl) (by kernel_rfl) (fun _ _ _ h => h) (Or.inr ⟨by rfl, rfl⟩) HH.out ?_
              try simp only [List.getElem_toArray, List.getElem_cons_succ, List.getElem_cons_zero, Act.put, List.setIfInBounds_toArray, List.set_cons_zero, List.set_cons_succ]
              refine wpAnyH_take (i := 8) (v := undef) rfl (by kernel_rfl) (by kernel_rfl) (by kernel_rfl) (fun _ _ _ h => h) (Or.inr ⟨by rfl, rfl⟩) HH.out ?_
              refine wpAnyH_take (i := 9) (v := undef) rfl (by kernel_rfl) (by kernel_rfl) (by kernel_rfl) (fun _ _ _ h => h) (Or.inr ⟨by rfl, rfl⟩) HH.out ?_
              refine wpAnyH_take (i := 10) (v := undef) rfl (by kernel_rfl) (by kernel_rfl) (by kernel_rfl) (fun _ _ _ h => h) (Or.inr ⟨by rfl, rfl⟩) HH.out ?_
              try simp only [List.getElem_toArray, List.getElem_cons_succ, List.getElem_cons_zero, Act.put, List.setIfInBounds_toArray, List.set_cons_zero, List.set_cons_succ]
              refine wpAnyH_take (i := 11) (v := undef) rfl (by kernel_rfl) (by kernel_rfl) (by kernel_rfl) (fun _ _ _ h => h) (Or.inr ⟨by rfl, rfl⟩) HH.out ?_
              refine wpAnyH_take (i := 12) (v := undef) rfl (by kernel_rfl) (by kernel_rfl) (by kernel_rfl) (fun _ _ _ h => h) (Or.inr ⟨by rfl, rfl⟩) HH.out ?_
              refine wpAnyH_take (i := 13) (v := undef) rfl (by kernel_rfl) (by kernel_rfl) (by kernel_rfl) (fun _ _ _ h => h) (Or.inr ⟨by rfl, rfl⟩) HH.out ?_
              try simp only [List.getElem_toArray, List.getElem_cons_succ, List.getElem_cons_zero, Act.put, List.setIfInBounds_toArray, List.set_cons_zero, List.set_cons_succ]
              refine wpAnyH_take (i := 14) (v := undef) rfl (by kernel_rfl) (by kernel_rfl) (by kernel_rfl) (fun _ _ _ h => h) (Or.inr ⟨by rfl, rfl⟩) HH.out ?_
              refine wpAnyH_take (i := 15) (v := undef) rfl (by kernel_rfl) (by kernel_rfl) (by kernel_rfl) (fun _ _ _ h => h) (Or.inr ⟨by rfl, rfl⟩) HH.out ?_
              refine wpAnyH_take (i := 16) (v := undef) rfl (by kernel_rfl) (by kernel_rfl) (by kernel_rfl) (fun _ _ _ h => h) (Or.inr ⟨by rfl, rfl⟩) HH.out ?_
              try simp only [List.getElem_toArray, List.getElem_cons_succ, List.getElem_cons_zero, Act.put, List.setIfInBounds_toArray, List.set_cons_zero, List.set_cons_succ]
              refine wpAnyH_take (i := 17) (v := undef) rfl (by kernel_rfl) (by kernel_rfl) (by kernel_rfl) (fun _ _ _ h => h) (Or.inr ⟨by rfl, rfl⟩) HH.out ?_
              refine wpAnyH_take (i := 18) (v := undef) rfl (by kernel_rfl) (by kernel_rfl) (by kernel_rfl) (fun _ _ _ h => h) (Or.inr ⟨by rfl, rfl⟩) HH.out ?_
              refine wpAnyH_take (i := 19) (v := undef) rfl (by kernel_rfl) (by kernel_rfl) (by kernel_rfl) (fun _ _ _ h => h) (Or.inr ⟨by rfl, rfl⟩) HH.out ?_
              try simp only [List.getElem_toArray, List.getElem_cons_succ, List.getElem_cons_zero, Act.put, List.setIfInBounds_toArray, List.set_cons_zero, List.set_cons_succ]
              refine wpAnyH_take (i := 20) (v := undef) rfl (by kernel_rfl) (by kernel_rfl) (by kernel_rfl) (fun _ _ _ h => h) (Or.inr ⟨by rfl, rfl⟩) HH.out ?_
              refine wpAnyH_take (i := 21) (v := undef) rfl (by kernel_rfl) (by kernel_rfl) (by kernel_rfl) (fun _ _ _ h => h) (Or.inr ⟨by rfl, rfl⟩) HH.out ?_
              refine wpAnyH_take (i := 22) (v := ?vP922) rfl (by kernel_rfl) (by kernel_rfl) (by kernel_rfl) (fun _ _ _ h => h) (Or.inl ⟨by rfl, fun w' _ => ?yP922⟩) HH.out ?_
              case yP922 => (go_simp; try with_reducible rfl)
              try simp only [List.getElem_toArray, List.getElem_cons_succ, List.getElem_cons_zero, Act.put, List.setIfInBounds_toArray, List.set_cons_zero, List.set_cons_succ]
              refine wpAnyH_done (by kernel_rfl) ?_ _
              obtain ⟨tq, tn, tj, tc, tk, _, _, _, _, tth, tqg, tF, tl, tne, tset⟩ := Hg12.out.sect0 HK.out
              have TSET := Lib.hid (tset v HV3.out)
              have TTH := Lib.hid (show wg12.drew.drew.there tq (k * 128) 128 from tth)
              have TQG := Lib.hid tqg
              have TF := Lib.hid tF
              have TNE := Lib.hid (show db ≠ tq from tne db ⟨_, _, dc1⟩)
              have TC := Lib.hid tc
              have tki : (k : Int) < (tn : Int) := by omega
              clear tk tth tqg tF tl tne tset tc HH
              have wz0 : IntKind.i64.wrap 0 = 0 := IntWalk.i64_in 0 (by omega)
              have wz1 : IntKind.i64.wrap 1 = 1 := IntWalk.i64_in 1 (by omega)
              go_upto_region 14 with fail
              refine wp_region_held_drew (S := fun w' => w'.cell? ⟨g, 0, none⟩ = some (.slice (some ⟨tq, 0, none⟩) tn tj) ∧ w'.cell? ⟨g, 1, none⟩ = some (.slice (some ⟨db, 0, none⟩) dnb djb) ∧ (∀ jj z, (bv v)[jj]? = some z → w'.cell? ((⟨db, k * 128, none⟩ : Addr).add jj) = some z)) (by kernel_rfl) ⟨TC.out, dc1, dS1.out⟩ (fun hh => ?_)
              have HH := Lib.hid hh
              clear hh
              refine wpAnyH_take (i := 0) (v := ?vP9s0) rfl (by kernel_rfl) (by kernel_rfl) (by kernel_rfl) (fun _ _ _ h => h) (Or.inl ⟨by rfl, fun w' _ => ?yP9s0⟩) HH.out ?_
              case yP9s0 => (go_simp; try with_reducible rfl)
              refine wpAnyH_take (i := 1) (v := ?vP9s1) rfl (by kernel_rfl) (by kernel_rfl) (by kernel_rfl) (fun _ _ _ h => h) (Or.inl ⟨by rfl, fun w' _ => ?yP9s1⟩) HH.out ?_
              case yP9s1 => (go_simp; try with_reducible rfl)
              try simp only [List.getElem_toArray, List.getElem_cons_succ, List.getElem_cons_zero, Act.put, List.setIfInBounds_toArray, List.set_cons_zero, List.set_cons_succ]
              refine wpAnyH_take (i := 2) (v := ?vP9s2) rfl (by kernel_rfl) (by kernel_rfl) (by kernel_rfl) (fun _ _ _ h => h) (Or.inl ⟨by rfl, fun w' _ => ?yP9s2⟩) HH.out ?_
              case yP9s2 => (go_simp; try with_reducible rfl)
              refine wpAnyH_take (i := 3) (v := ?vP9s3) rfl (by kernel_rfl) (by kernel_rfl) (by kernel_rfl) (fun _ _ _ h => h) (Or.inl ⟨by rfl, fun w' _ => ?yP9s3⟩) HH.out ?_
              case yP9s3 => (go_simp; try with_reducible rfl)
              refine wpAnyH_take (i := 4) (v := ?vP9s4) rfl (by kernel_rfl) (by kernel_rfl) (by kernel_rfl) (fun _ _ _ h => h) (Or.inl ⟨by rfl, fun w' _ => ?yP9s4⟩) HH.out ?_
              case yP9s4 => (go_simp; try with_reducible rfl)
              try simp only [List.getElem_toArray, List.getElem_cons_succ, List.getElem_cons_zero, Act.put, List.setIfInBounds_toArray, List.set_cons_zero, List.set_cons_succ]
              refine wpAnyH_take (i := 5) (v := ?vP9s5) rfl (by kernel_rfl) (by kernel_rfl) (by kernel_rfl) (fun _ _ _ h => h) (Or.inl ⟨by rfl, fun w' _ => ?yP9s5⟩) HH.out ?_
              case yP9s5 => (go_simp; try with_reducible rfl)
              try simp only [List.getElem_toArray, List.getElem_cons_succ, List.getElem_cons_zero, Act.put, List.setIfInBounds_toArray, List.set_cons_zero, List.set_cons_succ]
              refine wpAnyH_take (i := 6) (v := .slice (some ⟨tq, 0, none⟩) tn tj) rfl (by kernel_rfl) (by kernel_rfl) (by kernel_rfl) (fun _ _ _ h => h) (Or.inl ⟨by rfl, fun w' hw' => ?yP9s6⟩) HH.out ?_
              case yP9s6 => (have hc := hw'.1; go_simp; try with_reducible rfl)
              refine wpAnyH_take (i := 7) (v := ?vP9s7) rfl (by kernel_rfl) (by kernel_rfl) (by kernel_rfl) (fun _ _ _ h => h) (Or.inl ⟨by rfl, fun w' _ => ?yP9s7⟩) HH.out ?_
              case yP9s7 => (go_simp; try with_reducible rfl)
              try simp only [List.getElem_toArray, List.getElem_cons_succ, List.getElem_cons_zero, Act.put, List.setIfInBounds_toArray, List.set_cons_zero, List.set_cons_succ]
              refine wpAnyH_take (i := 8) (v := ?vP9s8) rfl (by kernel_rfl) (by kernel_rfl) (by kernel_rfl) (fun _ _ _ h => h) (Or.inl ⟨by rfl, fun w' _ => ?yP9s8⟩) HH.out ?_
              case yP9s8 => (go_simp; try with_reducible rfl)
              refine wpAnyH_take (i := 9) (v := ?vP9s9) rfl (by kernel_rfl) (by kernel_rfl) (by kernel_rfl) (fun _ _ _ h => h) (Or.inl ⟨by rfl, fun w' _ => ?yP9s9⟩) HH.out ?_
              case yP9s9 => (go_simp; try with_reducible rfl)
              refine wpAnyH_take (i := 10) (v := ?vP9s10) rfl (by kernel_rfl) (by kernel_rfl) (by kernel_rfl) (fun _ _ _ h => h) (Or.inl ⟨by rfl, fun w' _ => ?yP9s10⟩) HH.out ?_
              case yP9s10 => (go_simp; try with_reducible rfl)
              try simp only [List.getElem_toArray, List.getElem_cons_succ, List.getElem_cons_zero, Act.put, List.setIfInBounds_toArray, List.set_cons_zero, List.set_cons_succ]
              refine wpAnyH_take (i := 11) (v := ?vP9s11) rfl (by kernel_rfl) (by kernel_rfl) (by kernel_rfl) (fun _ _ _ h => h) (Or.inl ⟨by rfl, fun w' _ => ?yP9s11⟩) HH.out ?_
              case yP9s11 => (go_simp; try with_reducible rfl)
              refine wpAnyH_take (i := 12) (v := ?vP9s12) rfl (by kernel_rfl) (by kernel_rfl) (by kernel_rfl) (fun _ _ _ h => h) (Or.inl ⟨by rfl, fun w' _ => ?yP9s12⟩) HH.out ?_
              case yP9s12 => (go_simp; try with_reducible rfl)
              try simp only [List.getElem_toArray, List.getElem_cons_succ, List.getElem_cons_zero, Act.put, List.setIfInBounds_toArray, List.set_cons_zero, List.set_cons_succ]
              refine wpAnyH_take (i := 13) (v := .slice (some ⟨db, 0, none⟩) dnb djb) rfl (by kernel_rfl) (by kernel_rfl) (by kernel_rfl) (fun _ _ _ h => h) (Or.inl ⟨by rfl, fun w' hw' => ?yP9s13⟩) HH.out ?_
              case yP9s13 => (have hc := hw'.2.1; go_simp; try with_reducible rfl)
              try simp only [List.getElem_toArray, List.getElem_cons_succ, List.getElem_cons_zero, Act.put, List.setIfInBounds_toArray, List.set_cons_zero, List.set_cons_succ]
              refine wpAnyH_take (i := 14) (v := ?vP9s14) rfl (by kernel_rfl) (by kernel_rfl) (by kernel_rfl) (fun _ _ _ h => h) (Or.inl ⟨by rfl, fun w' _ => ?yP9s14⟩) HH.out ?_
              case yP9s14 => (go_simp; try with_reducible rfl)
              refine wpAnyH_take (i := 15) (v := ?vP9s15) rfl (by kernel_rfl) (by kernel_rfl) (by kernel_rfl) (fun _ _ _ h => h) (Or.inl ⟨by rfl, fun w' _ => ?yP9s15⟩) HH.out ?_
              case yP9s15 => (go_simp; try with_reducible rfl)
              try simp only [List.getElem_toArray, List.getElem_cons_succ, List.getElem_cons_zero, Act.put, List.setIfInBounds_toArray, List.set_cons_zero, List.set_cons_succ]
              refine wpAnyH_take (i := 16) (v := .agg (bva v)) rfl (by kernel_rfl) (by kernel_rfl) (by kernel_rfl) (fun _ _ _ h => h) (Or.inl ⟨by rfl, fun w' hw' => ?yP9s16⟩) HH.out ?_
              case yP9s16 => exact exec_load_at 38 (.tmp 113) rfl ⟨db, k * 128, none⟩ rfl hw'.2.2 Try.underlying38 rfl HIVL.out
              try simp only [List.getElem_toArray, List.getElem_cons_succ, List.getElem_cons_zero, Act.put, List.setIfInBounds_toArray, List.set_cons_zero, List.set_cons_succ]
              refine wpAnyH_take (i := 17) (v := ?vP9s17) rfl (by kernel_rfl) (by kernel_rfl) (by kernel_rfl) (fun _ _ _ h => h) (Or.inl ⟨by rfl, fun w' _ => ?yP9s17⟩) HH.out ?_
              case yP9s17 => (go_simp; try with_reducible rfl)
              try simp only [List.getElem_toArray, List.getElem_cons_succ, List.getElem_cons_zero, Act.put, List.setIfInBounds_toArray, List.set_cons_zero, List.set_cons_succ]
              refine wpAnyH_ready (rs := [18]) (by kernel_rfl) (by simp) (AllReadyH.cons rfl (fun K hK => ?_) AllReadyH.nil)
              rw [if_pos (by rfl)]
              refine wp_store_mid 38 (.tmp 115) (.tmp 114) rfl tq (k * 128) (bva v) rfl rfl (by rw [bva_size, HV3.out]; exact TTH.out) HIV.out (bva_one _) ?_
              refine hK.out _ _ ⟨?kq0, ?kq1, ?kq2⟩ (fun hh => ?_)
              case kq0 => exact cells_other (show wg12.drew.drew.cell? ⟨g, 0, none⟩ = _ from TC.out) (fun e => TQG.out e.symm)
              case kq1 => exact cells_other (show wg12.drew.drew.cell? ⟨g, 1, none⟩ = _ from dc1) (fun e => TQG.out e.symm)
              case kq2 => exact fun jj z hz => (grown_setCells tq _ _ _).cell (show wg12.drew.drew.cell? _ = _ from dS1.out jj z hz) (by rw [add_block]; intro e; injection e with e; exact TNE.out e)
              clear hh hK K HH
              try simp only [List.getElem_toArray, List.getElem_cons_succ, List.getElem_cons_zero, Act.put]
              refine wpAnyH_done (by kernel_rfl) ?_ _
              obtain ⟨wb, hwb⟩ : ∃ wb, wb = World.setCells wg12.drew.drew tq (k * 128) (bva v).toList := ⟨_, rfl⟩
              rw [← hwb]
              have HBB := Lib.hid (show But (fun y => y = tq) wg12 wb from by rw [hwb]; exact (((But.refl wg12).drew).drew.trans (but_cells _ _ _ _)))
              have HMB := Lib.hid (show RmAt wb g (x.setL 0 k v) F from by rw [hwb]; exact rm_drewL2 TSET.out)
              have HTB := Lib.hid (BTg12.out.trans (HBB.out.mono (fun y hy => by rw [show y = tq from hy]; exact TF.out)))
              have hxb : k < (x.setL 0 k v).a.length := HK.out
              obtain ⟨mq, mn, mj, mc, mk, _, _, mcell, mfree, mqg, mF, _, mset⟩ := HMB.out.mark0 hxb
              have MSET := Lib.hid (mset false)
              have MF := Lib.hid mF
              have mki : (k : Int) < (mn : Int) := by omega
              clear dc2 dc3 dc4 dm4 dc5 dm5 dc0 dc1 dS0 dS1 di4 di5 di0 di1
              clear hwb mk mqg mF mset tki hxb
              go_wp2_with fail
              go_ret2
              refine ⟨?_, ?_, HTB.out.trans ((but_one (w := wb) (g := mq) (o := k) (.bool false)).mono (fun y hy => by rw [show y = mq from hy]; exact MF.out))⟩
              · rw [HRV.out, if_neg (by simp), if_pos (by rfl)]; rfl
              · rw [HRX.out, if_neg (by simp), if_pos (by rfl)]; exact MSET.out
            | false =>
              go_enter Try.func65, Try.ntmps65
              go_wp2_with fail
              refine HC.out.mono ?_
              rintro e w1 ⟨rfl, bw⟩
              have H1 := Lib.hid (H.out.below bw)
              have BT1 := Lib.hid (show But F w w1 from but_below bw)
              clear bw H
              have ac2 : w1.cell? ⟨g, 2, none⟩ = some (.bool false) := by rw [← HO.out]; exact H1.out.out0
              have ac3 : w1.cell? ⟨g, 3, none⟩ = some (.bool false) := by rw [← HO1.out]; exact H1.out.out1
              obtain ⟨aq, an, aj, ac4, ak4, _, _, am4, _, _, _, _, _⟩ := H1.out.mark0 HK.out
              obtain ⟨ap, an5, aj5, ac5, ak5, _, _, am5, _, _, _, _, _⟩ := H1.out.mark1 HK.out
              rw [← HSA.out] at am4
              rw [← HSB.out] at am5
              obtain ⟨aa, ana, aja, ac0, ak0, as0, _, _, _⟩ := H1.out.secR0 HK.out
              obtain ⟨ab, anb, ajb, ac1, ak1, as1, _, _, _⟩ := H1.out.secR1 HK.out
              rw [← HUU.out] at as0
              rw [← HVV.out] at as1
              have aS0 := Lib.hid as0
              have aS1 := Lib.hid as1
              have ai4 : (k : Int) < (an : Int) := by omega
              have ai5 : (k : Int) < (an5 : Int) := by omega
              have ai0 : (k : Int) < (ana : Int) := by omega
              have ai1 : (k : Int) < (anb : Int) := by omega
              clear as0 as1 ak4 ak5 ak0 ak1
              go_wp2_with (refine wpList_execg8 rfl (exec_load_at 38 (.tmp 42) rfl ⟨aa, k * 128, none⟩ rfl aS0.out Try.underlying38 rfl HIUL.out) ?_)
              refine (HGU.out _).mono ?_
              rintro e wg13 ⟨rfl, bw⟩
              clear ac2 ac3 ac4 am4 ac5 am5 ac0 ac1 aS0 aS1 ai4 ai5 ai0 ai1
              have Hg13 := Lib.hid (H1.out.below bw)
              have BTg13 := Lib.hid (BT1.out.trans (but_below bw))
              clear bw H1 BT1
              have bc2 : wg13.cell? ⟨g, 2, none⟩ = some (.bool false) := by rw [← HO.out]; exact Hg13.out.out0
              have bc3 : wg13.cell? ⟨g, 3, none⟩ = some (.bool false) := by rw [← HO1.out]; exact Hg13.out.out1
              obtain ⟨bq, bn, bj, bc4, bk4, _, _, bm4, _, _, _, _, _⟩ := Hg13.out.mark0 HK.out
              obtain ⟨bp, bn5, bj5, bc5, bk5, _, _, bm5, _, _, _, _, _⟩ := Hg13.out.mark1 HK.out
              rw [← HSA.out] at bm4
              rw [← HSB.out] at bm5
              obtain ⟨ba, bna, bja, bc0, bk0, bs0, _, _, _⟩ := Hg13.out.secR0 HK.out
              obtain ⟨bb, bnb, bjb, bc1, bk1, bs1, _, _, _⟩ := Hg13.out.secR1 HK.out
              rw [← HUU.out] at bs0
              rw [← HVV.out] at bs1
              have bS0 := Lib.hid bs0
              have bS1 := Lib.hid bs1
              have bi4 : (k : Int) < (bn : Int) := by omega
              have bi5 : (k : Int) < (bn5 : Int) := by omega
              have bi0 : (k : Int) < (bna : Int) := by omega
              have bi1 : (k : Int) < (bnb : Int) := by omega
              clear bs0 bs1 bk4 bk5 bk0 bk1
              go_wp2_with (refine wpList_execg8 rfl (exec_load_at 38 (.tmp 63) rfl ⟨bb, k * 128, none⟩ rfl bS1.out Try.underlying38 rfl HIVL.out) ?_)
              refine (HGV.out _).mono ?_
              rintro e wg14 ⟨rfl, bw⟩
              clear bc2 bc3 bc4 bm4 bc5 bm5 bc0 bc1 bS0 bS1 bi4 bi5 bi0 bi1
              have Hg14 := Lib.hid (Hg13.out.below bw)
              have BTg14 := Lib.hid (BTg13.out.trans (but_below bw))
              clear bw Hg13 BTg13
              have dc2 : wg14.cell? ⟨g, 2, none⟩ = some (.bool false) := by rw [← HO.out]; exact Hg14.out.out0
              have dc3 : wg14.cell? ⟨g, 3, none⟩ = some (.bool false) := by rw [← HO1.out]; exact Hg14.out.out1
              obtain ⟨dq, dn, dj, dc4, dk4, _, _, dm4, _, _, _, _, _⟩ := Hg14.out.mark0 HK.out
              obtain ⟨dp, dn5, dj5, dc5, dk5, _, _, dm5, _, _, _, _, _⟩ := Hg14.out.mark1 HK.out
              rw [← HSA.out] at dm4
              rw [← HSB.out] at dm5
              obtain ⟨da, dna, dja, dc0, dk0, ds0, _, _, _⟩ := Hg14.out.secR0 HK.out
              obtain ⟨db, dnb, djb, dc1, dk1, ds1, _, _, _⟩ := Hg14.out.secR1 HK.out
              rw [← HUU.out] at ds0
              rw [← HVV.out] at ds1
              have dS0 := Lib.hid ds0
              have dS1 := Lib.hid ds1
              have di4 : (k : Int) < (dn : Int) := by omega
              have di5 : (k : Int) < (dn5 : Int) := by omega
              have di0 : (k : Int) < (dna : Int) := by omega
              have di1 : (k : Int) < (dnb : Int) := by omega
              clear ds0 ds1 dk4 dk5 dk0 dk1
              go_wp2_with fail
              go_ret2
              exact ⟨by rw [HRV.out]; rfl, by rw [HRX.out]; exact Hg14.out, BTg14.out⟩
end
end Go.Proofs.Ytdjiagcnaogebaa.Mr
/-
  Sync of the reference's mirror.
-/
namespace Go.Proofs.Ytdjiagcnaogebaa.Mr
open Go.RowKit Kd Mi
attribute [local go_sem ↓] Go.wp_at_zero Go.wp_at_succ
theorem take_set {l : List Bool} {k : Nat} {v : Bool} : (l.set k v).take k = l.take k := by
  rw [List.take_set]; exact List.set_eq_of_length_le (by rw [List.length_take]; omega)
theorem getD_setB {l : List Bool} {k : Nat} (hk : k < l.length) (v : Bool) : (l.set k v).getD k false = v := by
  rw [List.getD_eq_getElem?_getD, List.getElem?_set_self hk]; rfl
section
variable {x : Md} {f : Int → List UInt8 → Bool} {k : Nat}
theorem catch1_no (i : Nat) (h : ((x.st i).getD k false && x.right f (1 - i) k) = false) : x.catch1 f i k = x := by unfold Md.catch1; rw [h, if_neg (by simp)]
theorem catch1_yes (i : Nat) (h : ((x.st i).getD k false && x.right f (1 - i) k) = true) : x.catch1 f i k = x.mend i k ((x.l (1 - i)).getD k zeroS) := by unfold Md.catch1; rw [h, if_pos rfl]
theorem catch1_len (i : Nat) : (x.catch1 f i k).a.length = x.a.length ∧ (x.catch1 f i k).b.length = x.b.length := by
  unfold Md.catch1
  split
  · unfold Md.mend Md.put Md.setL
    split <;> exact ⟨by simp, by simp⟩
  · exact ⟨rfl, rfl⟩
theorem catch1_a : (x.catch1 f 1 k).a = x.a := by
  unfold Md.catch1
  split
  · rfl
  · rfl
theorem catchTo_a : ∀ k, (x.catchTo f 1 k).a = x.a
  | 0 => rfl
  | k + 1 => by
    show ((x.catchTo f 1 k).catch1 f 1 k).a = x.a
    rw [catch1_a, catchTo_a k]
theorem catchTo_len (i : Nat) : ∀ k, (x.catchTo f i k).a.length = x.a.length ∧ (x.catchTo f i k).b.length = x.b.length
  | 0 => ⟨rfl, rfl⟩
  | k + 1 => by
    have h1 := catchTo_len i k
    have h2 := catch1_len (x := x.catchTo f i k) (f := f) (k := k) i
    exact ⟨h2.1.trans h1.1, h2.2.trans h1.2⟩
theorem left_a (hk : k < x.a.length) : cnt ((x.catch1 f 0 k).a.take (k + 1)) = cnt (x.a.take k) + if x.a.getD k false && !(x.right f 1 k) then 1 else 0 := by
  cases h : ((x.st 0).getD k false && x.right f 1 k) with
  | true =>
    rw [catch1_yes 0 h]
    show cnt ((x.a.set k false).take (k + 1)) = _
    rw [cnt_take (by simpa using hk), take_set, getD_setB hk]
    have h2 : x.right f 1 k = true := by simp at h; exact h.2
    rw [h2]; simp
  | false =>
    rw [catch1_no 0 h, cnt_take hk]
    have h2 : (x.a.getD k false && x.right f 1 k) = false := h
    cases h3 : x.a.getD k false with
    | true => rw [h3, Bool.true_and] at h2; rw [h2]; rfl
    | false => rfl
theorem left_b (hk : k < x.b.length) : cnt ((x.catch1 f 1 k).b.take (k + 1)) = cnt (x.b.take k) + if x.b.getD k false && !(x.right f 0 k) then 1 else 0 := by
  cases h : ((x.st 1).getD k false && x.right f 0 k) with
  | true =>
    rw [catch1_yes 1 h]
    show cnt ((x.b.set k false).take (k + 1)) = _
    rw [cnt_take (by simpa using hk), take_set, getD_setB hk]
    have h2 : x.right f 0 k = true := by simp at h; exact h.2
    rw [h2]; simp
  | false =>
    rw [catch1_no 1 h, cnt_take hk]
    have h2 : (x.b.getD k false && x.right f 0 k) = false := h
    cases h3 : x.b.getD k false with
    | true => rw [h3, Bool.true_and] at h2; rw [h2]; rfl
    | false => rfl
theorem sync_o (i n : Nat) (ho : x.o0 = false ∧ x.o1 = false) : (x.catchTo f i n).o0 = false ∧ (x.catchTo f i n).o1 = false := by
  obtain ⟨a, b, _⟩ := catchTo_o f x i n
  exact ⟨a.trans ho.1, b.trans ho.2⟩
end
/-- The mirror ahead of the device d, and how many were left till there. -/
def syX (x : Md) (N : Nat) : Nat → Md
  | 0 => x
  | 1 => x.catchTo goodN 0 N
  | _ => (x.catchTo goodN 0 N).catchTo goodN 1 N
def syL (x : Md) (N : Nat) : Nat → Nat
  | 0 => 0
  | 1 => cnt (x.catchTo goodN 0 N).a
  | _ => cnt (x.catchTo goodN 0 N).a + cnt ((x.catchTo goodN 0 N).catchTo goodN 1 N).b
section
variable {w : World} {g k q : Nat} {x : Md} {F : Nat → Prop}
theorem RmAt.headR (h : RmAt w g x F) : ∃ A c, w.cell? ⟨g, 0, none⟩ = some (.slice A x.a.length c) := by
  obtain ⟨n, A0, A1, B0, B1, c0, c1, e0, e1, h, _⟩ := h
  exact ⟨A0, c0, by rw [h.an]; exact h.blk.cell 0⟩
theorem rm_drewS {l : List UInt8} (h : RmAt (w.setCells q k (bv l)) g x F) : RmAt (w.drew.setCells q k (bva l).toList) g x F := by
  have e : w.drew.setCells q k (bva l).toList = (w.setCells q k (bv l)).drew := by
    rw [show (bva l).toList = bv l from rfl, cells_drew]
  rw [e]; exact RmAt.below h (Below.refl _ _).drew
set_option maxRecDepth 100000 in
set_option maxHeartbeats 25600000 in
theorem rsync_any (h : RmAt w g x F) (hN : x.a.length ≤ 4096) :
    Calls Try.prog 64 #[.pointer (some ⟨g, 0, none⟩)] w (fun e w' => RetRm (.int .i64 (x.sync goodN).1) g (x.sync goodN).2 F w e w') := by
  have H := Lib.hid h
  clear h
  cases ho0 : x.o0 with
  | true =>
    have c0 : w.cell? ⟨g, 2, none⟩ = some (.bool true) := by rw [← ho0]; exact H.out.out0
    have HS := Lib.hid (show x.sync goodN = (13, x) from by rw [Md.sync, ho0, if_pos (by rfl)])
    rw [HS.out]
    clear ho0
    go_enter Try.func64, Try.ntmps64
    go_wp2_with fail
    go_ret
    exact ⟨rfl, H.out, But.refl _⟩
  | false =>
  cases ho1 : x.o1 with
  | true =>
    have c0 : w.cell? ⟨g, 2, none⟩ = some (.bool false) := by rw [← ho0]; exact H.out.out0
    have c1 : w.cell? ⟨g, 3, none⟩ = some (.bool true) := by rw [← ho1]; exact H.out.out1
    have HS := Lib.hid (show x.sync goodN = (13, x) from by rw [Md.sync, ho0, ho1, if_pos (by rfl)])
    rw [HS.out]
    clear ho0 ho1
    go_enter Try.func64, Try.ntmps64
    go_wp2_with fail
    go_ret
    exact ⟨rfl, H.out, But.refl _⟩
  | false =>
    have c0 : w.cell? ⟨g, 2, none⟩ = some (.bool false) := by rw [← ho0]; exact H.out.out0
    have c1 : w.cell? ⟨g, 3, none⟩ = some (.bool false) := by rw [← ho1]; exact H.out.out1
    have HO := Lib.hid (show x.o0 = false ∧ x.o1 = false from ⟨ho0, ho1⟩)
    obtain ⟨N, hYtdjiagcnaogebaa⟩ : ∃ N, N = x.a.length := ⟨_, rfl⟩
    have HNL := Lib.hid hYtdjiagcnaogebaa
    have HNB := Lib.hid (show N ≤ 4096 by rw [hYtdjiagcnaogebaa]; exact hN)
    have HLB := Lib.hid (show x.b.length = N by rw [hYtdjiagcnaogebaa]; exact H.out.len.2.2.1)
    have HS := Lib.hid (show x.sync goodN = (if syL x N 2 = 0 then 0 else 9, syX x N 2) from by
      rw [Md.sync, ho0, ho1, if_neg (by simp), Md.caught, ← hYtdjiagcnaogebaa]
      show ((if cnt ((x.catchTo goodN 0 N).catchTo goodN 1 N).a = 0 ∧ cnt ((x.catchTo goodN 0 N).catchTo goodN 1 N).b = 0 then (0 : Int) else 9), _) = (if cnt (x.catchTo goodN 0 N).a + cnt ((x.catchTo goodN 0 N).catchTo goodN 1 N).b = 0 then 0 else 9, _)
      rw [catchTo_a]
      congr 1
      by_cases hc : cnt (x.catchTo goodN 0 N).a = 0 ∧ cnt ((x.catchTo goodN 0 N).catchTo goodN 1 N).b = 0
      · rw [if_pos hc, if_pos (by omega)]
      · rw [if_neg hc, if_neg (by omega)])
    rw [HS.out]
    obtain ⟨RV, hRV⟩ : ∃ RV, RV = (if syL x N 2 = 0 then (0 : Int) else 9) := ⟨_, rfl⟩
    have HRV := Lib.hid hRV
    rw [← hRV]
    clear ho0 ho1 hYtdjiagcnaogebaa hN hRV HS
    go_enter Try.func64, Try.ntmps64
    go_wp2_with fail
    go_loopw [3, 4] (fun lf i wr => ∃ (d L : Nat), (d = 0 ∧ i = .int .i64 0 ∨ d = 1 ∧ i = .int .i64 1 ∨ d = 2 ∧ i = .int .i64 2) ∧ lf = .int .i64 L ∧ L = syL x N d ∧ L ≤ d * N ∧ RmAt wr g (syX x N d) F ∧ But F w wr) (fun _ i _ => 2 - (intOf i).toNat)
    case atStart => exact ⟨0, 0, .inl ⟨rfl, rfl⟩, rfl, rfl, by omega, H.out, But.refl _⟩
    case round =>
      clear H c0 c1
      obtain ⟨d, L, hd, rfl, hL, hLB, hm, hb⟩ := hrel
      have HM := Lib.hid hm
      have HB := Lib.hid hb
      have HL := Lib.hid hL
      have HLL := Lib.hid hLB
      clear hm hb hL hLB
      rcases hd with ⟨rfl, rfl⟩ | ⟨rfl, rfl⟩ | ⟨rfl, rfl⟩
      ·
        obtain ⟨x0, hx0⟩ : ∃ x0, x0 = x := ⟨_, rfl⟩
        have HX0 := Lib.hid hx0
        have HLA := Lib.hid (show x0.a.length = N ∧ x0.b.length = N from by
          rw [hx0]
          exact ⟨HNL.out.symm, HLB.out⟩)
        have HOX := Lib.hid (show x0.o0 = false ∧ x0.o1 = false from by rw [hx0]; exact HO.out)
        obtain ⟨L0, hL0⟩ : ∃ L0, L0 = L := ⟨_, rfl⟩
        have HL0 := Lib.hid hL0
        have HM0 := Lib.hid (show RmAt wr g (x0.catchTo goodN 0 0) F from by rw [hx0]; exact HM.out)
        clear hx0 HM hL0
        go_wp2_with fail
        go_loopw [3, 5] (fun lf i wr => ∃ (n L : Nat), n ≤ N ∧ i = .int .i64 n ∧ lf = .int .i64 L ∧ L = L0 + cnt ((x0.catchTo goodN 0 n).a.take n) ∧ RmAt wr g (x0.catchTo goodN 0 n) F ∧ But F w wr) (fun _ i _ => N - (intOf i).toNat)
        case atStart => exact ⟨0, L, Nat.zero_le _, rfl, rfl, by rw [HL0.out]; simp [cnt], HM0.out, HB.out⟩
        case round =>
          clear HM0 HB
          obtain ⟨k, L1, hk, rfl, rfl, hL1, hm, hb⟩ := hrel
          obtain ⟨xk, hxk⟩ : ∃ xk, xk = x0.catchTo goodN 0 k := ⟨_, rfl⟩
          rw [← hxk] at hm hL1
          have HXK := Lib.hid hxk
          have HM := Lib.hid hm
          have HB := Lib.hid hb
          have HL1 := Lib.hid hL1
          have HK := Lib.hid hk
          have HAL := Lib.hid (show xk.a.length = N ∧ xk.b.length = N from by rw [hxk]; exact ⟨(catchTo_len 0 k).1.trans HLA.out.1, (catchTo_len 0 k).2.trans HLA.out.2⟩)
          have HOK := Lib.hid (show xk.o0 = false ∧ xk.o1 = false from by rw [hxk]; exact sync_o 0 k HOX.out)
          have HLM := Lib.hid (show L1 ≤ 0 * N + k from by
            have h1 : cnt (xk.a.take k) ≤ k := Nat.le_trans (cnt_le _) (by rw [List.length_take]; omega)
            have := HLL.out
            have := HL0.out
            omega)
          clear hm hb hL1 hk
          by_cases hlt : k < N
          · have HLT := Lib.hid hlt
            have HKA := Lib.hid (show k < xk.a.length by rw [HAL.out.1]; exact hlt)
            have HKB := Lib.hid (show k < xk.b.length by rw [HAL.out.2]; exact hlt)
            have kk0 : (0 : Int) ≤ (k : Int) := by omega
            have wk : IntKind.i64.wrap ((k : Int) + 1) = ((k + 1 : Nat) : Int) := IntWalk.i64_in _ (by have := HNB.out; omega)
            have wl : IntKind.i64.wrap ((L1 : Int) + 1) = ((L1 + 1 : Nat) : Int) := IntWalk.i64_in _ (by have := HNB.out; have := HLM.out; omega)
            have wz0 : IntKind.i64.wrap 0 = 0 := IntWalk.i64_in 0 (by omega)
            have wz1 : IntKind.i64.wrap 1 = 1 := IntWalk.i64_in 1 (by omega)
            obtain ⟨y, hy⟩ : ∃ y, y = xk.l1.getD k zeroS := ⟨_, rfl⟩
            have HYY := Lib.hid hy
            have HY3 := Lib.hid (show y.length = 128 by rw [hy]; obtain ⟨_, _, _, _, _, _, h, _⟩ := HM.out.secR1 HKA.out; exact h)
            have HIYL := Lib.hid (show (Try.prog.info? 38).map (·.size) = some (bv y).length by rw [bv_length, HY3.out]; exact info_sec)
            have HIY := Lib.hid (show (Try.prog.info? 38).map (·.size) = some (bva y).size by rw [bva_size, HY3.out]; exact info_sec)
            obtain ⟨gy, hgy⟩ : ∃ gy, gy = goodN k y := ⟨_, rfl⟩
            have HGY := Lib.hid (show ∀ W, Calls Try.prog 22 #[.int .i64 k, .agg (bva y)] W (RetB (.bool gy) W) from fun W => by rw [hgy]; exact good_any W k y HY3.out)
            obtain ⟨so, hso⟩ : ∃ so, so = xk.a.getD k false := ⟨_, rfl⟩
            obtain ⟨st, hst⟩ : ∃ st, st = xk.b.getD k false := ⟨_, rfl⟩
            have HSO := Lib.hid hso
            have HST := Lib.hid hst
            have hrt : xk.right goodN 1 k = (!st && gy) := by
              rw [Md.right, show xk.st 1 = xk.b from rfl, show xk.o 1 = xk.o1 from rfl, show xk.l 1 = xk.l1 from rfl, HOK.out.2, Bool.not_false, Bool.true_and, ← hy, ← hst, ← hgy]
            have HLE := Lib.hid (show cnt ((x0.catchTo goodN 0 (k + 1)).a.take (k + 1)) = cnt (xk.a.take k) + if so && !(!st && gy) then 1 else 0 from by
              show cnt (((x0.catchTo goodN 0 k).catch1 goodN 0 k).a.take (k + 1)) = _
              rw [← HXK.out, left_a HKA.out, hrt, ← hso])
            have HC0 := Lib.hid (show (so && (!st && gy)) = false → x0.catchTo goodN 0 (k + 1) = xk from fun h => by
              show (x0.catchTo goodN 0 k).catch1 goodN 0 k = _
              rw [← HXK.out]
              exact catch1_no 0 (by show (xk.a.getD k false && xk.right goodN 1 k) = false; rw [hrt, ← hso]; exact h))
            have HC1 := Lib.hid (show (so && (!st && gy)) = true → x0.catchTo goodN 0 (k + 1) = (xk.setL 0 k y).put 0 k false from fun h => by
              show (x0.catchTo goodN 0 k).catch1 goodN 0 k = _
              rw [← HXK.out, hy]
              exact catch1_yes 0 (by show (xk.a.getD k false && xk.right goodN 1 k) = true; rw [hrt, ← hso]; exact h))
            clear hy hgy hso hst hrt hlt hxk
            obtain ⟨aq, an, aj, ac4, ak4, _, _, am4, _, _, _, _, _⟩ := HM.out.mark0 HKA.out
            obtain ⟨ap, an5, aj5, ac5, ak5, _, _, am5, _, _, _, _, _⟩ := HM.out.mark1 HKA.out
            rw [← HSO.out] at am4
            rw [← HST.out] at am5
            obtain ⟨aa, ana, aja, ac0, ak0, as0, _, _, _⟩ := HM.out.secR0 HKA.out
            obtain ⟨ab, anb, ajb, ac1, ak1, as1, _, _, _⟩ := HM.out.secR1 HKA.out
            rw [← HYY.out] at as1
            have aS1 := Lib.hid as1
            have ai4 : (k : Int) < (an : Int) := by omega
            have ai5 : (k : Int) < (an5 : Int) := by omega
            have ai0 : (k : Int) < (ana : Int) := by omega
            have ai1 : (k : Int) < (anb : Int) := by omega
            clear as0 as1 ak4 ak5 ak0 ak1
            cases so with
            | false =>
              go_wp2_with fail
              go_roundw
              case rel => exact ⟨k + 1, L1, HLT.out, by go_num, by go_num, by rw [HLE.out]; have := HL1.out; simp; omega, by rw [HC0.out (by rfl)]; exact HM.out, HB.out⟩
              case measure => (have := HLT.out; simp [intOf]; omega)
            | true =>
              cases st with
              | true =>
                go_wp2_with fail
                go_roundw
                case rel => exact ⟨k + 1, (L1 + 1), HLT.out, by go_num, by go_num, by rw [HLE.out]; have := HL1.out; simp; omega, by rw [HC0.out (by rfl)]; exact HM.out, HB.out⟩
                case measure => (have := HLT.out; simp [intOf]; omega)
              | false =>
                go_wp2_with (refine wpList_execg8 rfl (exec_load_at 38 (.tmp 63) rfl ⟨ab, k * 128, none⟩ rfl aS1.out Try.underlying38 rfl HIYL.out) ?_)
                refine (HGY.out _).mono ?_
                rintro e wg ⟨rfl, bw⟩
                clear ac4 am4 ac5 am5 ai4 ai5 ac0 ac1 aS1 ai0 ai1
                have HG := Lib.hid (HM.out.below bw)
                have HBG := Lib.hid (HB.out.trans (but_below bw))
                clear bw HM HB
                obtain ⟨bq, bn, bj, bc4, bk4, _, _, bm4, _, _, _, _, _⟩ := HG.out.mark0 HKA.out
                obtain ⟨bp, bn5, bj5, bc5, bk5, _, _, bm5, _, _, _, _, _⟩ := HG.out.mark1 HKA.out
                rw [← HSO.out] at bm4
                rw [← HST.out] at bm5
                obtain ⟨ba, bna, bja, bc0, bk0, bs0, _, _, _⟩ := HG.out.secR0 HKA.out
                obtain ⟨bb, bnb, bjb, bc1, bk1, bs1, _, _, _⟩ := HG.out.secR1 HKA.out
                rw [← HYY.out] at bs1
                have bS1 := Lib.hid bs1
                have bi4 : (k : Int) < (bn : Int) := by omega
                have bi5 : (k : Int) < (bn5 : Int) := by omega
                have bi0 : (k : Int) < (bna : Int) := by omega
                have bi1 : (k : Int) < (bnb : Int) := by omega
                clear bs0 bs1 bk4 bk5 bk0 bk1
                cases gy with
                | false =>
                  go_wp2_with fail
                  go_roundw
                  case rel => exact ⟨k + 1, (L1 + 1), HLT.out, by go_num, by go_num, by rw [HLE.out]; have := HL1.out; simp; omega, by rw [HC0.out (by rfl)]; exact HG.out, HBG.out⟩
                  case measure => (have := HLT.out; simp [intOf]; omega)
                | true =>
                  go_upto_region 12 with fail
                  obtain ⟨tq, tn, tj, tc, tk, _, _, _, _, tth, tqg, tF, tl, tne, tset⟩ := HG.out.sect0 HKA.out
                  have TSET := Lib.hid (tset y HY3.out)
                  have TTH := Lib.hid (show wg.drew.there tq (k * 128) 128 from tth)
                  have TQG := Lib.hid tqg
                  have TF := Lib.hid tF
                  have TNE := Lib.hid (show bb ≠ tq from tne bb ⟨_, _, bc1⟩)
                  have TC := Lib.hid tc
                  have tki : (k : Int) < (tn : Int) := by omega
                  clear tk tth tqg tF tl tne tset tc bc0 bi0
                  refine wp_region_held_drew (S := fun w' => w'.cell? ⟨g, 0, none⟩ = some (.slice (some ⟨tq, 0, none⟩) tn tj) ∧ w'.cell? ⟨g, 1, none⟩ = some (.slice (some ⟨bb, 0, none⟩) bnb bjb) ∧ (∀ jj z, (bv y)[jj]? = some z → w'.cell? ((⟨bb, k * 128, none⟩ : Addr).add jj) = some z)) (by kernel_rfl) ⟨TC.out, bc1, bS1.out⟩ (fun hh => ?_)
                  have HH := Lib.hid hh
                  clear hh
                  refine wpAnyH_take (i := 0) (v := ?vQ00) rfl (by kernel_rfl) (by kernel_rfl) (by kernel_rfl) (fun _ _ _ h => h) (Or.inl ⟨by rfl, fun w' _ => ?yQ00⟩) HH.out ?_
                  case yQ00 => (go_simp; try with_reducible rfl)
                  refine wpAnyH_take (i := 1) (v := ?vQ01) rfl (by kernel_rfl) (by kernel_rfl) (by kernel_rfl) (fun _ _ _ h => h) (Or.inl ⟨by rfl, fun w' _ => ?yQ01⟩) HH.out ?_
                  case yQ01 => (go_simp; try with_reducible rfl)
                  try simp only [List.getElem_toArray, List.getElem_cons_succ, List.getElem_cons_zero, Act.put, List.setIfInBounds_toArray, List.set_cons_zero, List.set_cons_succ]
                  refine wpAnyH_take (i := 2) (v := ?vQ02) rfl (by kernel_rfl) (by kernel_rfl) (by kernel_rfl) (fun _ _ _ h => h) (Or.inl ⟨by rfl, fun w' _ => ?yQ02⟩) HH.out ?_
                  case yQ02 => (go_simp; try with_reducible rfl)
                  refine wpAnyH_take (i := 3) (v := ?vQ03) rfl (by kernel_rfl) (by kernel_rfl) (by kernel_rfl) (fun _ _ _ h => h) (Or.inl ⟨by rfl, fun w' _ => ?yQ03⟩) HH.out ?_
                  case yQ03 => (go_simp; try with_reducible rfl)
                  refine wpAnyH_take (i := 4) (v := ?vQ04) rfl (by kernel_rfl) (by kernel_rfl) (by kernel_rfl) (fun _ _ _ h => h) (Or.inl ⟨by rfl, fun w' _ => ?yQ04⟩) HH.out ?_
                  case yQ04 => (go_simp; try with_reducible rfl)
                  try simp only [List.getElem_toArray, List.getElem_cons_succ, List.getElem_cons_zero, Act.put, List.setIfInBounds_toArray, List.set_cons_zero, List.set_cons_succ]
                  try simp only [List.getElem_toArray, List.getElem_cons_succ, List.getElem_cons_zero, Act.put, List.setIfInBounds_toArray, List.set_cons_zero, List.set_cons_succ]
                  refine wpAnyH_take (i := 5) (v := .slice (some ⟨tq, 0, none⟩) tn tj) rfl (by kernel_rfl) (by kernel_rfl) (by kernel_rfl) (fun _ _ _ h => h) (Or.inl ⟨by rfl, fun w' hw' => ?yQ05⟩) HH.out ?_
                  case yQ05 => (have hc := hw'.1; go_simp; try with_reducible rfl)
                  refine wpAnyH_take (i := 6) (v := ?vQ06) rfl (by kernel_rfl) (by kernel_rfl) (by kernel_rfl) (fun _ _ _ h => h) (Or.inl ⟨by rfl, fun w' _ => ?yQ06⟩) HH.out ?_
                  case yQ06 => (go_simp; try with_reducible rfl)
                  refine wpAnyH_take (i := 7) (v := ?vQ07) rfl (by kernel_rfl) (by kernel_rfl) (by kernel_rfl) (fun _ _ _ h => h) (Or.inl ⟨by rfl, fun w' _ => ?yQ07⟩) HH.out ?_
                  case yQ07 => (go_simp; try with_reducible rfl)
                  try simp only [List.getElem_toArray, List.getElem_cons_succ, List.getElem_cons_zero, Act.put, List.setIfInBounds_toArray, List.set_cons_zero, List.set_cons_succ]
                  refine wpAnyH_take (i := 8) (v := ?vQ08) rfl (by kernel_rfl) (by kernel_rfl) (by kernel_rfl) (fun _ _ _ h => h) (Or.inl ⟨by rfl, fun w' _ => ?yQ08⟩) HH.out ?_
                  case yQ08 => (go_simp; try with_reducible rfl)
                  refine wpAnyH_take (i := 9) (v := ?vQ09) rfl (by kernel_rfl) (by kernel_rfl) (by kernel_rfl) (fun _ _ _ h => h) (Or.inl ⟨by rfl, fun w' _ => ?yQ09⟩) HH.out ?_
                  case yQ09 => (go_simp; try with_reducible rfl)
                  refine wpAnyH_take (i := 10) (v := ?vQ010) rfl (by kernel_rfl) (by kernel_rfl) (by kernel_rfl) (fun _ _ _ h => h) (Or.inl ⟨by rfl, fun w' _ => ?yQ010⟩) HH.out ?_
                  case yQ010 => (go_simp; try with_reducible rfl)
                  try simp only [List.getElem_toArray, List.getElem_cons_succ, List.getElem_cons_zero, Act.put, List.setIfInBounds_toArray, List.set_cons_zero, List.set_cons_succ]
                  refine wpAnyH_take (i := 11) (v := ?vQ011) rfl (by kernel_rfl) (by kernel_rfl) (by kernel_rfl) (fun _ _ _ h => h) (Or.inl ⟨by rfl, fun w' _ => ?yQ011⟩) HH.out ?_
                  case yQ011 => (go_simp; try with_reducible rfl)
                  refine wpAnyH_take (i := 12) (v := ?vQ012) rfl (by kernel_rfl) (by kernel_rfl) (by kernel_rfl) (fun _ _ _ h => h) (Or.inl ⟨by rfl, fun w' _ => ?yQ012⟩) HH.out ?_
                  case yQ012 => (go_simp; try with_reducible rfl)
                  try simp only [List.getElem_toArray, List.getElem_cons_succ, List.getElem_cons_zero, Act.put, List.setIfInBounds_toArray, List.set_cons_zero, List.set_cons_succ]
                  refine wpAnyH_take (i := 13) (v := .slice (some ⟨bb, 0, none⟩) bnb bjb) rfl (by kernel_rfl) (by kernel_rfl) (by kernel_rfl) (fun _ _ _ h => h) (Or.inl ⟨by rfl, fun w' hw' => ?yQ013⟩) HH.out ?_
                  case yQ013 => (have hc := hw'.2.1; go_simp; try with_reducible rfl)
                  try simp only [List.getElem_toArray, List.getElem_cons_succ, List.getElem_cons_zero, Act.put, List.setIfInBounds_toArray, List.set_cons_zero, List.set_cons_succ]
                  refine wpAnyH_take (i := 14) (v := ?vQ014) rfl (by kernel_rfl) (by kernel_rfl) (by kernel_rfl) (fun _ _ _ h => h) (Or.inl ⟨by rfl, fun w' _ => ?yQ014⟩) HH.out ?_
                  case yQ014 => (go_simp; try with_reducible rfl)
                  refine wpAnyH_take (i := 15) (v := ?vQ015) rfl (by kernel_rfl) (by kernel_rfl) (by kernel_rfl) (fun _ _ _ h => h) (Or.inl ⟨by rfl, fun w' _ => ?yQ015⟩) HH.out ?_
                  case yQ015 => (go_simp; try with_reducible rfl)
                  try simp only [List.getElem_toArray, List.getElem_cons_succ, List.getElem_cons_zero, Act.put, List.setIfInBounds_toArray, List.set_cons_zero, List.set_cons_succ]
                  refine wpAnyH_take (i := 16) (v := .agg (bva y)) rfl (by kernel_rfl) (by kernel_rfl) (by kernel_rfl) (fun _ _ _ h => h) (Or.inl ⟨by rfl, fun w' hw' => ?yQ016⟩) HH.out ?_
                  case yQ016 => exact exec_load_at 38 (.tmp 82) rfl ⟨bb, k * 128, none⟩ rfl hw'.2.2 Try.underlying38 rfl HIYL.out
                  try simp only [List.getElem_toArray, List.getElem_cons_succ, List.getElem_cons_zero, Act.put, List.setIfInBounds_toArray, List.set_cons_zero, List.set_cons_succ]
                  refine wpAnyH_take (i := 17) (v := ?vQ017) rfl (by kernel_rfl) (by kernel_rfl) (by kernel_rfl) (fun _ _ _ h => h) (Or.inl ⟨by rfl, fun w' _ => ?yQ017⟩) HH.out ?_
                  case yQ017 => (go_simp; try with_reducible rfl)
                  try simp only [List.getElem_toArray, List.getElem_cons_succ, List.getElem_cons_zero, Act.put, List.setIfInBounds_toArray, List.set_cons_zero, List.set_cons_succ]
                  refine wpAnyH_ready (rs := [18]) (by kernel_rfl) (by simp) (AllReadyH.cons rfl (fun K hK => ?_) AllReadyH.nil)
                  rw [if_pos (by rfl)]
                  refine wp_store_mid 38 (.tmp 84) (.tmp 83) rfl tq (k * 128) (bva y) rfl rfl (by rw [bva_size, HY3.out]; exact TTH.out) HIY.out (bva_one _) ?_
                  refine hK.out _ _ ⟨?kq0, ?kq1, ?kq2⟩ (fun hh => ?_)
                  case kq0 => exact cells_other (show wg.drew.cell? ⟨g, 0, none⟩ = _ from TC.out) (fun e => TQG.out e.symm)
                  case kq1 => exact cells_other (show wg.drew.cell? ⟨g, 1, none⟩ = _ from bc1) (fun e => TQG.out e.symm)
                  case kq2 => exact fun jj z hz => (grown_setCells tq _ _ _).cell (show wg.drew.cell? _ = _ from bS1.out jj z hz) (by rw [add_block]; intro e; injection e with e; exact TNE.out e)
                  clear hh hK K HH
                  try simp only [List.getElem_toArray, List.getElem_cons_succ, List.getElem_cons_zero, Act.put]
                  refine wpAnyH_done (by kernel_rfl) ?_ _
                  obtain ⟨wb, hwb⟩ : ∃ wb, wb = World.setCells wg.drew tq (k * 128) (bva y).toList := ⟨_, rfl⟩
                  rw [← hwb]
                  have HBB := Lib.hid (show But (fun y => y = tq) wg wb from by rw [hwb]; exact ((But.refl wg).drew.trans (but_cells _ _ _ _)))
                  have HMB := Lib.hid (show RmAt wb g (xk.setL 0 k y) F from by rw [hwb]; exact rm_drewS TSET.out)
                  have HTB := Lib.hid (HBG.out.trans (HBB.out.mono (fun y hy => by rw [show y = tq from hy]; exact TF.out)))
                  have hxb : k < (xk.setL 0 k y).a.length := HKA.out
                  obtain ⟨mq, mn, mj, mc, mk, _, _, mcell, mfree, mqg, mF, _, mset⟩ := HMB.out.mark0 hxb
                  have MSET := Lib.hid (mset false)
                  have MF := Lib.hid mF
                  have mki : (k : Int) < (mn : Int) := by omega
                  clear bc4 bm4 bc5 bm5 bi4 bi5 bc1 bS1 bi1
                  clear hwb mk mqg mF mset tki hxb
                  go_wp2_with fail
                  go_roundw
                  case rel => exact ⟨k + 1, L1, HLT.out, by go_num, by go_num, by rw [HLE.out]; have := HL1.out; simp; omega, by rw [HC1.out (by rfl)]; exact MSET.out, HTB.out.trans ((but_one (w := wb) (g := mq) (o := k) (.bool false)).mono (fun y hy => by rw [show y = mq from hy]; exact MF.out))⟩
                  case measure => (have := HLT.out; simp [intOf]; omega)
          · obtain rfl : k = N := by have := HK.out; omega
            obtain ⟨Ah, ch, hh0⟩ := HM.out.headR
            rw [HAL.out.1] at hh0
            have wz : IntKind.i64.wrap 1 = 1 := IntWalk.i64_in _ (by omega)
            have HEND := Lib.hid (show L1 = syL x k 1 ∧ RmAt wr g (syX x k 1) F from by
              refine ⟨?_, ?_⟩
              · rw [HL1.out, HL0.out, HL.out, List.take_of_length_le (by rw [HAL.out.1]; exact Nat.le_refl _), HXK.out, HX0.out]
                exact Nat.zero_add _
              · have h := HM.out
                rw [HXK.out, HX0.out] at h
                exact h)
            have HCB := Lib.hid (show cnt (xk.a.take k) ≤ k from Nat.le_trans (cnt_le _) (by rw [List.length_take]; omega))
            clear hlt hxk
            go_wp2_with fail
            go_roundw
            case rel => exact ⟨1, L1, .inr (.inl ⟨rfl, rfl⟩), by go_num, HEND.out.1, (by have := HLM.out; omega), HEND.out.2, HB.out⟩
            case measure => (simp [intOf]; try omega)
      ·
        obtain ⟨x0, hx0⟩ : ∃ x0, x0 = (x.catchTo goodN 0 N) := ⟨_, rfl⟩
        have HX0 := Lib.hid hx0
        have HLA := Lib.hid (show x0.a.length = N ∧ x0.b.length = N from by
          rw [hx0]
          exact ⟨(catchTo_len 0 N).1.trans HNL.out.symm, (catchTo_len 0 N).2.trans HLB.out⟩)
        have HOX := Lib.hid (show x0.o0 = false ∧ x0.o1 = false from by rw [hx0]; exact sync_o 0 N HO.out)
        obtain ⟨L0, hL0⟩ : ∃ L0, L0 = L := ⟨_, rfl⟩
        have HL0 := Lib.hid hL0
        have HM0 := Lib.hid (show RmAt wr g (x0.catchTo goodN 1 0) F from by rw [hx0]; exact HM.out)
        clear hx0 HM hL0
        go_wp2_with fail
        go_loopw [3, 5] (fun lf i wr => ∃ (n L : Nat), n ≤ N ∧ i = .int .i64 n ∧ lf = .int .i64 L ∧ L = L0 + cnt ((x0.catchTo goodN 1 n).b.take n) ∧ RmAt wr g (x0.catchTo goodN 1 n) F ∧ But F w wr) (fun _ i _ => N - (intOf i).toNat)
        case atStart => exact ⟨0, L, Nat.zero_le _, rfl, rfl, by rw [HL0.out]; simp [cnt], HM0.out, HB.out⟩
        case round =>
          clear HM0 HB
          obtain ⟨k, L1, hk, rfl, rfl, hL1, hm, hb⟩ := hrel
          obtain ⟨xk, hxk⟩ : ∃ xk, xk = x0.catchTo goodN 1 k := ⟨_, rfl⟩
          rw [← hxk] at hm hL1
          have HXK := Lib.hid hxk
          have HM := Lib.hid hm
          have HB := Lib.hid hb
          have HL1 := Lib.hid hL1
          have HK := Lib.hid hk
          have HAL := Lib.hid (show xk.a.length = N ∧ xk.b.length = N from by rw [hxk]; exact ⟨(catchTo_len 1 k).1.trans HLA.out.1, (catchTo_len 1 k).2.trans HLA.out.2⟩)
          have HOK := Lib.hid (show xk.o0 = false ∧ xk.o1 = false from by rw [hxk]; exact sync_o 1 k HOX.out)
          have HLM := Lib.hid (show L1 ≤ 1 * N + k from by
            have h1 : cnt (xk.b.take k) ≤ k := Nat.le_trans (cnt_le _) (by rw [List.length_take]; omega)
            have := HLL.out
            have := HL0.out
            omega)
          clear hm hb hL1 hk
          by_cases hlt : k < N
          · have HLT := Lib.hid hlt
            have HKA := Lib.hid (show k < xk.a.length by rw [HAL.out.1]; exact hlt)
            have HKB := Lib.hid (show k < xk.b.length by rw [HAL.out.2]; exact hlt)
            have kk0 : (0 : Int) ≤ (k : Int) := by omega
            have wk : IntKind.i64.wrap ((k : Int) + 1) = ((k + 1 : Nat) : Int) := IntWalk.i64_in _ (by have := HNB.out; omega)
            have wl : IntKind.i64.wrap ((L1 : Int) + 1) = ((L1 + 1 : Nat) : Int) := IntWalk.i64_in _ (by have := HNB.out; have := HLM.out; omega)
            have wz0 : IntKind.i64.wrap 0 = 0 := IntWalk.i64_in 0 (by omega)
            have wz1 : IntKind.i64.wrap 1 = 1 := IntWalk.i64_in 1 (by omega)
            obtain ⟨y, hy⟩ : ∃ y, y = xk.l0.getD k zeroS := ⟨_, rfl⟩
            have HYY := Lib.hid hy
            have HY3 := Lib.hid (show y.length = 128 by rw [hy]; obtain ⟨_, _, _, _, _, _, h, _⟩ := HM.out.secR0 HKA.out; exact h)
            have HIYL := Lib.hid (show (Try.prog.info? 38).map (·.size) = some (bv y).length by rw [bv_length, HY3.out]; exact info_sec)
            have HIY := Lib.hid (show (Try.prog.info? 38).map (·.size) = some (bva y).size by rw [bva_size, HY3.out]; exact info_sec)
            obtain ⟨gy, hgy⟩ : ∃ gy, gy = goodN k y := ⟨_, rfl⟩
            have HGY := Lib.hid (show ∀ W, Calls Try.prog 22 #[.int .i64 k, .agg (bva y)] W (RetB (.bool gy) W) from fun W => by rw [hgy]; exact good_any W k y HY3.out)
            obtain ⟨so, hso⟩ : ∃ so, so = xk.b.getD k false := ⟨_, rfl⟩
            obtain ⟨st, hst⟩ : ∃ st, st = xk.a.getD k false := ⟨_, rfl⟩
            have HSO := Lib.hid hso
            have HST := Lib.hid hst
            have hrt : xk.right goodN 0 k = (!st && gy) := by
              rw [Md.right, show xk.st 0 = xk.a from rfl, show xk.o 0 = xk.o0 from rfl, show xk.l 0 = xk.l0 from rfl, HOK.out.1, Bool.not_false, Bool.true_and, ← hy, ← hst, ← hgy]
            have HLE := Lib.hid (show cnt ((x0.catchTo goodN 1 (k + 1)).b.take (k + 1)) = cnt (xk.b.take k) + if so && !(!st && gy) then 1 else 0 from by
              show cnt (((x0.catchTo goodN 1 k).catch1 goodN 1 k).b.take (k + 1)) = _
              rw [← HXK.out, left_b HKB.out, hrt, ← hso])
            have HC0 := Lib.hid (show (so && (!st && gy)) = false → x0.catchTo goodN 1 (k + 1) = xk from fun h => by
              show (x0.catchTo goodN 1 k).catch1 goodN 1 k = _
              rw [← HXK.out]
              exact catch1_no 1 (by show (xk.b.getD k false && xk.right goodN 0 k) = false; rw [hrt, ← hso]; exact h))
            have HC1 := Lib.hid (show (so && (!st && gy)) = true → x0.catchTo goodN 1 (k + 1) = (xk.setL 1 k y).put 1 k false from fun h => by
              show (x0.catchTo goodN 1 k).catch1 goodN 1 k = _
              rw [← HXK.out, hy]
              exact catch1_yes 1 (by show (xk.b.getD k false && xk.right goodN 0 k) = true; rw [hrt, ← hso]; exact h))
            clear hy hgy hso hst hrt hlt hxk
            obtain ⟨aq, an, aj, ac4, ak4, _, _, am4, _, _, _, _, _⟩ := HM.out.mark0 HKA.out
            obtain ⟨ap, an5, aj5, ac5, ak5, _, _, am5, _, _, _, _, _⟩ := HM.out.mark1 HKA.out
            rw [← HST.out] at am4
            rw [← HSO.out] at am5
            obtain ⟨aa, ana, aja, ac0, ak0, as0, _, _, _⟩ := HM.out.secR0 HKA.out
            obtain ⟨ab, anb, ajb, ac1, ak1, as1, _, _, _⟩ := HM.out.secR1 HKA.out
            rw [← HYY.out] at as0
            have aS0 := Lib.hid as0
            have ai4 : (k : Int) < (an : Int) := by omega
            have ai5 : (k : Int) < (an5 : Int) := by omega
            have ai0 : (k : Int) < (ana : Int) := by omega
            have ai1 : (k : Int) < (anb : Int) := by omega
            clear as0 as1 ak4 ak5 ak0 ak1
            cases so with
            | false =>
              go_wp2_with fail
              go_roundw
              case rel => exact ⟨k + 1, L1, HLT.out, by go_num, by go_num, by rw [HLE.out]; have := HL1.out; simp; omega, by rw [HC0.out (by rfl)]; exact HM.out, HB.out⟩
              case measure => (have := HLT.out; simp [intOf]; omega)
            | true =>
              cases st with
              | true =>
                go_wp2_with fail
                go_roundw
                case rel => exact ⟨k + 1, (L1 + 1), HLT.out, by go_num, by go_num, by rw [HLE.out]; have := HL1.out; simp; omega, by rw [HC0.out (by rfl)]; exact HM.out, HB.out⟩
                case measure => (have := HLT.out; simp [intOf]; omega)
              | false =>
                go_wp2_with (refine wpList_execg8 rfl (exec_load_at 38 (.tmp 63) rfl ⟨aa, k * 128, none⟩ rfl aS0.out Try.underlying38 rfl HIYL.out) ?_)
                refine (HGY.out _).mono ?_
                rintro e wg ⟨rfl, bw⟩
                clear ac4 am4 ac5 am5 ai4 ai5 ac0 ac1 aS0 ai0 ai1
                have HG := Lib.hid (HM.out.below bw)
                have HBG := Lib.hid (HB.out.trans (but_below bw))
                clear bw HM HB
                obtain ⟨bq, bn, bj, bc4, bk4, _, _, bm4, _, _, _, _, _⟩ := HG.out.mark0 HKA.out
                obtain ⟨bp, bn5, bj5, bc5, bk5, _, _, bm5, _, _, _, _, _⟩ := HG.out.mark1 HKA.out
                rw [← HST.out] at bm4
                rw [← HSO.out] at bm5
                obtain ⟨ba, bna, bja, bc0, bk0, bs0, _, _, _⟩ := HG.out.secR0 HKA.out
                obtain ⟨bb, bnb, bjb, bc1, bk1, bs1, _, _, _⟩ := HG.out.secR1 HKA.out
                rw [← HYY.out] at bs0
                have bS0 := Lib.hid bs0
                have bi4 : (k : Int) < (bn : Int) := by omega
                have bi5 : (k : Int) < (bn5 : Int) := by omega
                have bi0 : (k : Int) < (bna : Int) := by omega
                have bi1 : (k : Int) < (bnb : Int) := by omega
                clear bs0 bs1 bk4 bk5 bk0 bk1
                cases gy with
                | false =>
                  go_wp2_with fail
                  go_roundw
                  case rel => exact ⟨k + 1, (L1 + 1), HLT.out, by go_num, by go_num, by rw [HLE.out]; have := HL1.out; simp; omega, by rw [HC0.out (by rfl)]; exact HG.out, HBG.out⟩
                  case measure => (have := HLT.out; simp [intOf]; omega)
                | true =>
                  go_upto_region 12 with fail
                  obtain ⟨tq, tn, tj, tc, tk, _, _, _, _, tth, tqg, tF, tl, tne, tset⟩ := HG.out.sect1 HKA.out
                  have TSET := Lib.hid (tset y HY3.out)
                  have TTH := Lib.hid (show wg.drew.there tq (k * 128) 128 from tth)
                  have TQG := Lib.hid tqg
                  have TF := Lib.hid tF
                  have TNE := Lib.hid (show ba ≠ tq from tne ba ⟨_, _, bc0⟩)
                  have TC := Lib.hid tc
                  have tki : (k : Int) < (tn : Int) := by omega
                  clear tk tth tqg tF tl tne tset tc bc1 bi1
                  refine wp_region_held_drew (S := fun w' => w'.cell? ⟨g, 1, none⟩ = some (.slice (some ⟨tq, 0, none⟩) tn tj) ∧ w'.cell? ⟨g, 0, none⟩ = some (.slice (some ⟨ba, 0, none⟩) bna bja) ∧ (∀ jj z, (bv y)[jj]? = some z → w'.cell? ((⟨ba, k * 128, none⟩ : Addr).add jj) = some z)) (by kernel_rfl) ⟨TC.out, bc0, bS0.out⟩ (fun hh => ?_)
                  have HH := Lib.hid hh
                  clear hh
                  refine wpAnyH_take (i := 0) (v := ?vQ10) rfl (by kernel_rfl) (by kernel_rfl) (by kernel_rfl) (fun _ _ _ h => h) (Or.inl ⟨by rfl, fun w' _ => ?yQ10⟩) HH.out ?_
                  case yQ10 => (go_simp; try with_reducible rfl)
                  refine wpAnyH_take (i := 1) (v := ?vQ11) rfl (by kernel_rfl) (by kernel_rfl) (by kernel_rfl) (fun _ _ _ h => h) (Or.inl ⟨by rfl, fun w' _ => ?yQ11⟩) HH.out ?_
                  case yQ11 => (go_simp; try with_reducible rfl)
                  try simp only [List.getElem_toArray, List.getElem_cons_succ, List.getElem_cons_zero, Act.put, List.setIfInBounds_toArray, List.set_cons_zero, List.set_cons_succ]
                  refine wpAnyH_take (i := 2) (v := ?vQ12) rfl (by kernel_rfl) (by kernel_rfl) (by kernel_rfl) (fun _ _ _ h => h) (Or.inl ⟨by rfl, fun w' _ => ?yQ12⟩) HH.out ?_
                  case yQ12 => (go_simp; try with_reducible rfl)
                  refine wpAnyH_take (i := 3) (v := ?vQ13) rfl (by kernel_rfl) (by kernel_rfl) (by kernel_rfl) (fun _ _ _ h => h) (Or.inl ⟨by rfl, fun w' _ => ?yQ13⟩) HH.out ?_
                  case yQ13 => (go_simp; try with_reducible rfl)
                  refine wpAnyH_take (i := 4) (v := ?vQ14) rfl (by kernel_rfl) (by kernel_rfl) (by kernel_rfl) (fun _ _ _ h => h) (Or.inl ⟨by rfl, fun w' _ => ?yQ14⟩) HH.out ?_
                  case yQ14 => (go_simp; try with_reducible rfl)
                  try simp only [List.getElem_toArray, List.getElem_cons_succ, List.getElem_cons_zero, Act.put, List.setIfInBounds_toArray, List.set_cons_zero, List.set_cons_succ]
                  try simp only [List.getElem_toArray, List.getElem_cons_succ, List.getElem_cons_zero, Act.put, List.setIfInBounds_toArray, List.set_cons_zero, List.set_cons_succ]
                  refine wpAnyH_take (i := 5) (v := .slice (some ⟨tq, 0, none⟩) tn tj) rfl (by kernel_rfl) (by kernel_rfl) (by kernel_rfl) (fun _ _ _ h => h) (Or.inl ⟨by rfl, fun w' hw' => ?yQ15⟩) HH.out ?_
                  case yQ15 => (have hc := hw'.1; go_simp; try with_reducible rfl)
                  refine wpAnyH_take (i := 6) (v := ?vQ16) rfl (by kernel_rfl) (by kernel_rfl) (by kernel_rfl) (fun _ _ _ h => h) (Or.inl ⟨by rfl, fun w' _ => ?yQ16⟩) HH.out ?_
                  case yQ16 => (go_simp; try with_reducible rfl)
                  refine wpAnyH_take (i := 7) (v := ?vQ17) rfl (by kernel_rfl) (by kernel_rfl) (by kernel_rfl) (fun _ _ _ h => h) (Or.inl ⟨by rfl, fun w' _ => ?yQ17⟩) HH.out ?_
                  case yQ17 => (go_simp; try with_reducible rfl)
                  try simp only [List.getElem_toArray, List.getElem_cons_succ, List.getElem_cons_zero, Act.put, List.setIfInBounds_toArray, List.set_cons_zero, List.set_cons_succ]
                  refine wpAnyH_take (i := 8) (v := ?vQ18) rfl (by kernel_rfl) (by kernel_rfl) (by kernel_rfl) (fun _ _ _ h => h) (Or.inl ⟨by rfl, fun w' _ => ?yQ18⟩) HH.out ?_
                  case yQ18 => (go_simp; try with_reducible rfl)
                  refine wpAnyH_take (i := 9) (v := ?vQ19) rfl (by kernel_rfl) (by kernel_rfl) (by kernel_rfl) (fun _ _ _ h => h) (Or.inl ⟨by rfl, fun w' _ => ?yQ19⟩) HH.out ?_
                  case yQ19 => (go_simp; try with_reducible rfl)
                  refine wpAnyH_take (i := 10) (v := ?vQ110) rfl (by kernel_rfl) (by kernel_rfl) (by kernel_rfl) (fun _ _ _ h => h) (Or.inl ⟨by rfl, fun w' _ => ?yQ110⟩) HH.out ?_
                  case yQ110 => (go_simp; try with_reducible rfl)
                  try simp only [List.getElem_toArray, List.getElem_cons_succ, List.getElem_cons_zero, Act.put, List.setIfInBounds_toArray, List.set_cons_zero, List.set_cons_succ]
                  refine wpAnyH_take (i := 11) (v := ?vQ111) rfl (by kernel_rfl) (by kernel_rfl) (by kernel_rfl) (fun _ _ _ h => h) (Or.inl ⟨by rfl, fun w' _ => ?yQ111⟩) HH.out ?_
                  case yQ111 => (go_simp; try with_reducible rfl)
                  refine wpAnyH_take (i := 12) (v := ?vQ112) rfl (by kernel_rfl) (by kernel_rfl) (by kernel_rfl) (fun _ _ _ h => h) (Or.inl ⟨by rfl, fun w' _ => ?yQ112⟩) HH.out ?_
                  case yQ112 => (go_simp; try with_reducible rfl)
                  try simp only [List.getElem_toArray, List.getElem_cons_succ, List.getElem_cons_zero, Act.put, List.setIfInBounds_toArray, List.set_cons_zero, List.set_cons_succ]
                  refine wpAnyH_take (i := 13) (v := .slice (some ⟨ba, 0, none⟩) bna bja) rfl (by kernel_rfl) (by kernel_rfl) (by kernel_rfl) (fun _ _ _ h => h) (Or.inl ⟨by rfl, fun w' hw' => ?yQ113⟩) HH.out ?_
                  case yQ113 => (have hc := hw'.2.1; go_simp; try with_reducible rfl)
                  try simp only [List.getElem_toArray, List.getElem_cons_succ, List.getElem_cons_zero, Act.put, List.setIfInBounds_toArray, List.set_cons_zero, List.set_cons_succ]
                  refine wpAnyH_take (i := 14) (v := ?vQ114) rfl (by kernel_rfl) (by kernel_rfl) (by kernel_rfl) (fun _ _ _ h => h) (Or.inl ⟨by rfl, fun w' _ => ?yQ114⟩) HH.out ?_
                  case yQ114 => (go_simp; try with_reducible rfl)
                  refine wpAnyH_take (i := 15) (v := ?vQ115) rfl (by kernel_rfl) (by kernel_rfl) (by kernel_rfl) (fun _ _ _ h => h) (Or.inl ⟨by rfl, fun w' _ => ?yQ115⟩) HH.out ?_
                  case yQ115 => (go_simp; try with_reducible rfl)
                  try simp only [List.getElem_toArray, List.getElem_cons_succ, List.getElem_cons_zero, Act.put, List.setIfInBounds_toArray, List.set_cons_zero, List.set_cons_succ]
                  refine wpAnyH_take (i := 16) (v := .agg (bva y)) rfl (by kernel_rfl) (by kernel_rfl) (by kernel_rfl) (fun _ _ _ h => h) (Or.inl ⟨by rfl, fun w' hw' => ?yQ116⟩) HH.out ?_
                  case yQ116 => exact exec_load_at 38 (.tmp 82) rfl ⟨ba, k * 128, none⟩ rfl hw'.2.2 Try.underlying38 rfl HIYL.out
                  try simp only [List.getElem_toArray, List.getElem_cons_succ, List.getElem_cons_zero, Act.put, List.setIfInBounds_toArray, List.set_cons_zero, List.set_cons_succ]
                  refine wpAnyH_take (i := 17) (v := ?vQ117) rfl (by kernel_rfl) (by kernel_rfl) (by kernel_rfl) (fun _ _ _ h => h) (Or.inl ⟨by rfl, fun w' _ => ?yQ117⟩) HH.out ?_
                  case yQ117 => (go_simp; try with_reducible rfl)
                  try simp only [List.getElem_toArray, List.getElem_cons_succ, List.getElem_cons_zero, Act.put, List.setIfInBounds_toArray, List.set_cons_zero, List.set_cons_succ]
                  refine wpAnyH_ready (rs := [18]) (by kernel_rfl) (by simp) (AllReadyH.cons rfl (fun K hK => ?_) AllReadyH.nil)
                  rw [if_pos (by rfl)]
                  refine wp_store_mid 38 (.tmp 84) (.tmp 83) rfl tq (k * 128) (bva y) rfl rfl (by rw [bva_size, HY3.out]; exact TTH.out) HIY.out (bva_one _) ?_
                  refine hK.out _ _ ⟨?kq0, ?kq1, ?kq2⟩ (fun hh => ?_)
                  case kq0 => exact cells_other (show wg.drew.cell? ⟨g, 1, none⟩ = _ from TC.out) (fun e => TQG.out e.symm)
                  case kq1 => exact cells_other (show wg.drew.cell? ⟨g, 0, none⟩ = _ from bc0) (fun e => TQG.out e.symm)
                  case kq2 => exact fun jj z hz => (grown_setCells tq _ _ _).cell (show wg.drew.cell? _ = _ from bS0.out jj z hz) (by rw [add_block]; intro e; injection e with e; exact TNE.out e)
                  clear hh hK K HH
                  try simp only [List.getElem_toArray, List.getElem_cons_succ, List.getElem_cons_zero, Act.put]
                  refine wpAnyH_done (by kernel_rfl) ?_ _
                  obtain ⟨wb, hwb⟩ : ∃ wb, wb = World.setCells wg.drew tq (k * 128) (bva y).toList := ⟨_, rfl⟩
                  rw [← hwb]
                  have HBB := Lib.hid (show But (fun y => y = tq) wg wb from by rw [hwb]; exact ((But.refl wg).drew.trans (but_cells _ _ _ _)))
                  have HMB := Lib.hid (show RmAt wb g (xk.setL 1 k y) F from by rw [hwb]; exact rm_drewS TSET.out)
                  have HTB := Lib.hid (HBG.out.trans (HBB.out.mono (fun y hy => by rw [show y = tq from hy]; exact TF.out)))
                  have hxb : k < (xk.setL 1 k y).a.length := HKA.out
                  obtain ⟨mq, mn, mj, mc, mk, _, _, mcell, mfree, mqg, mF, _, mset⟩ := HMB.out.mark1 hxb
                  have MSET := Lib.hid (mset false)
                  have MF := Lib.hid mF
                  have mki : (k : Int) < (mn : Int) := by omega
                  clear bc4 bm4 bc5 bm5 bi4 bi5 bc0 bS0 bi0
                  clear hwb mk mqg mF mset tki hxb
                  go_wp2_with fail
                  go_roundw
                  case rel => exact ⟨k + 1, L1, HLT.out, by go_num, by go_num, by rw [HLE.out]; have := HL1.out; simp; omega, by rw [HC1.out (by rfl)]; exact MSET.out, HTB.out.trans ((but_one (w := wb) (g := mq) (o := k) (.bool false)).mono (fun y hy => by rw [show y = mq from hy]; exact MF.out))⟩
                  case measure => (have := HLT.out; simp [intOf]; omega)
          · obtain rfl : k = N := by have := HK.out; omega
            obtain ⟨Ah, ch, hh0⟩ := HM.out.headR
            rw [HAL.out.1] at hh0
            have wz : IntKind.i64.wrap 2 = 2 := IntWalk.i64_in _ (by omega)
            have HEND := Lib.hid (show L1 = syL x k 2 ∧ RmAt wr g (syX x k 2) F from by
              refine ⟨?_, ?_⟩
              · rw [HL1.out, HL0.out, HL.out, List.take_of_length_le (by rw [HAL.out.2]; exact Nat.le_refl _), HXK.out, HX0.out]
                rfl
              · have h := HM.out
                rw [HXK.out, HX0.out] at h
                exact h)
            have HCB := Lib.hid (show cnt (xk.b.take k) ≤ k from Nat.le_trans (cnt_le _) (by rw [List.length_take]; omega))
            clear hlt hxk
            go_wp2_with fail
            go_roundw
            case rel => exact ⟨2, L1, .inr (.inr ⟨rfl, rfl⟩), by go_num, HEND.out.1, (by have := HLM.out; omega), HEND.out.2, HB.out⟩
            case measure => (simp [intOf]; try omega)
      · have h0 : syL x N 2 = L := HL.out.symm
        by_cases hz : L = 0
        · have hR : RV = 0 := by rw [HRV.out, h0, if_pos hz]
          have hl0 : ¬ (0 : Int) < (L : Int) := by omega
          subst hR
          clear h0 hz
          go_wp2_with fail
          go_ret
          exact ⟨rfl, HM.out, HB.out⟩
        · have hR : RV = 9 := by rw [HRV.out, h0, if_neg hz]
          have hl0 : (0 : Int) < (L : Int) := by omega
          subst hR
          clear h0 hz
          go_wp2_with fail
          go_ret
          exact ⟨rfl, HM.out, HB.out⟩
end
end Go.Proofs.Ytdjiagcnaogebaa.Mr
/-
  New of the reference's mirror.
-/
namespace Go.Proofs.Ytdjiagcnaogebaa.Mr
open Go.RowKit Kd Mi
attribute [local go_sem ↓] Go.wp_at_zero Go.wp_at_succ
def secZ (n : Nat) : Array Value := (svs (List.replicate n zeroS)).toArray
def fillB (n : Nat) (a : Bool) (i : Nat) : List Bool := (List.range n).map fun j => if j < i then a else false
def boZ (n : Nat) (a : Bool) (i : Nat) : Array Value := (bs (fillB n a i)).toArray
theorem fillB_length (n : Nat) (a : Bool) (i : Nat) : (fillB n a i).length = n := by simp [fillB]
theorem fillB_zero (n : Nat) (a : Bool) : fillB n a 0 = List.replicate n false := by
  refine List.eq_replicate_iff.2 ⟨fillB_length _ _ _, fun v hv => ?_⟩
  obtain ⟨j, _, rfl⟩ := List.mem_map.1 hv
  rfl
theorem fillB_all (n : Nat) (a : Bool) : fillB n a n = List.replicate n a := by
  refine List.eq_replicate_iff.2 ⟨fillB_length _ _ _, fun v hv => ?_⟩
  obtain ⟨j, hj, rfl⟩ := List.mem_map.1 hv
  rw [if_pos (List.mem_range.1 hj)]
theorem fillB_set {n i : Nat} (a : Bool) (_ : i < n) : (fillB n a i).set i a = fillB n a (i + 1) := by
  apply List.ext_getElem
  · simp [fillB]
  · intro j h1 h2
    rw [List.getElem_set]
    simp only [fillB, List.getElem_map, List.getElem_range]
    split
    · rename_i h; rw [if_pos (by omega)]
    · rename_i h
      by_cases hj : j < i
      · rw [if_pos hj, if_pos (by omega)]
      · rw [if_neg hj, if_neg (by omega)]
theorem boZ_set {n i : Nat} (a : Bool) (hi : i < n) : (boZ n a i).setIfInBounds i (.bool a) = boZ n a (i + 1) := by
  unfold boZ
  rw [← fillB_set a hi, List.setIfInBounds_toArray]
  congr 1
  show (List.map Value.bool (fillB n a i)).set i (.bool a) = List.map Value.bool ((fillB n a i).set i a)
  rw [List.map_set]
theorem wp_makeR {P : Program} {o : Oper} {a : Act} {w w' : World} {K : Act → World → Prop} {Q : Exit → Act → World → Prop} {v : Value} (t : TypeId) (x y : Operand) (ho : o.op = .makeSlice t x y) (h : (Instr.makeSlice t (a.eval x) (a.eval y)).run P w = .ok v w') (hk : K (a.put o.dst v) w') : o.wp P a w K Q := by
  unfold Oper.wp execOp
  simp only [ho, Sem.run_bind, h, Result.andThen_ok, Sem.run_pure]
  exact hk
theorem make_secs (W : World) (k : Nat) (hk : k ≤ 12) : (Instr.makeSlice 43 (.int .i64 k) (.int .i64 k)).run Try.prog W = .ok (.slice (some ⟨W.heap.size, 0, none⟩) k k) (W.alloc (.cells (secZ k) 38)) := by
  obtain ⟨i, hi, hz, hs, hby⟩ := info_parts info_secW
  have h := run_makeSlice (P := Try.prog) W 43 38 i _ Try.underlying43 hi hz .i64 .i64 (k : Int) (k : Int) (by omega) (Int.le_refl _) (by rw [hs, Int.toNat_natCast]; omega) (by rw [hby]; omega) (by omega)
  rw [Int.toNat_natCast, hs, show (Value.agg (bva zeroS)).cells = bva zeroS from rfl, show madeCells (bva zeroS) (k * 128) = secZ k from by rw [secZ, ← made_svs k, Array.toArray_toList]] at h
  exact h
theorem info_boolR : (Try.prog.info? 4).map (fun i => (i.zero, i.size, i.bytes)) = some (some (.bool false), 1, 1) := by kernel_rfl
theorem make_bools (W : World) (k : Nat) (a : Bool) (hk : k ≤ 12) : (Instr.makeSlice 105 (.int .i64 k) (.int .i64 k)).run Try.prog W = .ok (.slice (some ⟨W.heap.size, 0, none⟩) k k) (W.alloc (.cells (boZ k a 0) 4)) := by
  obtain ⟨i, hi, hz, hs, hby⟩ := info_parts info_boolR
  have h := run_makeSlice (P := Try.prog) W 105 4 i _ Try.underlying105 hi hz .i64 .i64 (k : Int) (k : Int) (by omega) (Int.le_refl _) (by rw [hs, Int.toNat_natCast]; omega) (by rw [hby]; omega) (by omega)
  have hm : madeCells #[.bool false] (k * 1) = boZ k a 0 := by
    rw [boZ, fillB_zero]
    rcases (show k = 0 ∨ k = 1 ∨ k = 2 ∨ k = 3 ∨ k = 4 ∨ k = 5 ∨ k = 6 ∨ k = 7 ∨ k = 8 ∨ k = 9 ∨ k = 10 ∨ k = 11 ∨ k = 12 by omega) with rfl | rfl | rfl | rfl | rfl | rfl | rfl | rfl | rfl | rfl | rfl | rfl | rfl <;> kernel_rfl
  rw [Int.toNat_natCast, hs, show (Value.bool false).cells = #[.bool false] from rfl, hm] at h
  exact h
theorem build_rm (a b : Bool) (W : World) : (Instr.build 113 #[(1, .agg #[.bool a, .bool b])]).run Try.prog W = .ok (.agg #[.slice none 0 0, .slice none 0 0, .bool a, .bool b, .slice none 0 0, .slice none 0 0]) W := by kernel_rfl
theorem build_two9 (a b : Bool) (W : World) : (Instr.build 50 #[(0, .bool a), (1, .bool b)]).run Try.prog W = .ok (.agg #[.bool a, .bool b]) W := by kernel_rfl
/-- A new mirror of the reference's. -/
def newR (n : Nat) (a b : Bool) : Md := ⟨List.replicate n zeroS, List.replicate n zeroS, a, b, List.replicate n a, List.replicate n b⟩
def rmA (s0 s1 t0 t1 : Value) (a b : Bool) : Array Value := #[s0, s1, .bool a, .bool b, t0, t1]
def slv (q n : Nat) : Value := .slice (some ⟨q, 0, none⟩) n n
theorem own_secZ {w : World} {q n : Nat} (h : Blk w q (secZ n) 38) (hn : n ≤ 12) : w.ownsRow 0 38 128 (.slice (some ⟨q, 0, none⟩) n n) n (svs (List.replicate n zeroS)) := by
  have hl : (svs (List.replicate n zeroS)).length = n * 128 := by rw [svs_length (fun s hs => by rw [List.eq_of_mem_replicate hs]; exact zeroS_length), List.length_replicate]
  refine ⟨hl, .inr ⟨q, n, _, rfl, Nat.zero_le _, h, Nat.le_refl _, by unfold maxLen; omega, by rw [secZ, List.size_toArray]; omega, ?_⟩⟩
  rw [secZ, List.toList_toArray]
  exact List.take_of_length_le (by omega)
theorem own_boZ {w : World} {q n : Nat} {a : Bool} (h : Blk w q (boZ n a n) 4) (hn : n ≤ 12) : w.ownsRow 0 4 1 (.slice (some ⟨q, 0, none⟩) n n) n (bs (List.replicate n a)) := by
  rw [boZ, fillB_all] at h
  have hl : (bs (List.replicate n a)).length = n := by rw [bs_length, List.length_replicate]
  refine ⟨by omega, .inr ⟨q, n, _, rfl, Nat.zero_le _, h, Nat.le_refl _, by unfold maxLen; omega, by rw [List.size_toArray]; omega, ?_⟩⟩
  rw [List.toList_toArray]
  exact List.take_of_length_le (by omega)
theorem rm_new {w : World} {g q0 q1 q2 q3 n B : Nat} {a b : Bool} (h : Blk w g (rmA (slv q0 n) (slv q1 n) (slv q2 n) (slv q3 n) a b) 113) (h0 : Blk w q0 (secZ n) 38) (h1 : Blk w q1 (secZ n) 38) (h2 : Blk w q2 (boZ n a n) 4) (h3 : Blk w q3 (boZ n b n) 4) (hn : n ≤ 12) (n1 : q0 ≠ q1) (n2 : q2 ≠ q3) (hg : B ≤ g) (b0 : B ≤ q0) (b1 : B ≤ q1) (b2 : B ≤ q2) (b3 : B ≤ q3) :
    RmAt w g (newR n a b) (fun q => B ≤ q ∧ q < w.heap.size) := by
  refine ⟨n, some ⟨q0, 0, none⟩, some ⟨q1, 0, none⟩, some ⟨q2, 0, none⟩, some ⟨q3, 0, none⟩, n, n, n, n, ⟨h, own_secZ h0 hn, own_secZ h1 hn, own_boZ h2 hn, own_boZ h3 hn, List.length_replicate, List.length_replicate, List.length_replicate, List.length_replicate, ?_, ?_, ?_, ?_⟩, ?_, fun q hq => hq.2⟩
  · intro s hs; rw [List.eq_of_mem_replicate hs]; exact zeroS_length
  · intro s hs; rw [List.eq_of_mem_replicate hs]; exact zeroS_length
  · intro q e1 e2; injection e1 with e1; injection e2 with e2; exact n1 (e1.trans e2.symm)
  · intro q e1 e2; injection e1 with e1; injection e2 with e2; exact n2 (e1.trans e2.symm)
  · rintro q (rfl | e | e | e | e)
    · exact ⟨hg, h.lt⟩
    · injection e with e; replace e : q0 = q := e; subst e; exact ⟨b0, h0.lt⟩
    · injection e with e; replace e : q1 = q := e; subst e; exact ⟨b1, h1.lt⟩
    · injection e with e; replace e : q2 = q := e; subst e; exact ⟨b2, h2.lt⟩
    · injection e with e; replace e : q3 = q := e; subst e; exact ⟨b3, h3.lt⟩
theorem bo_cell {w : World} {q n k : Nat} {a : Bool} (h : Blk w q (boZ n a k) 4) (hk : k < n) : w.cell? ⟨q, k, none⟩ = some (.bool false) := by
  rw [h.cell, boZ, List.getElem?_toArray]
  show (List.map Value.bool (fillB n a k))[k]? = _
  rw [List.getElem?_map, fillB, List.getElem?_map, List.getElem?_range hk]
  show some (Value.bool (if k < k then a else false)) = _
  rw [if_neg (by omega)]
theorem below_cell {w w1 : World} {g o : Nat} {v : Value} (h : Below w.heap.size w w1) (hg : w.heap.size ≤ g) : Below w.heap.size w (w1.setCell ⟨g, o, none⟩ v) :=
  h.trans ((but_one (w := w1) (g := g) (o := o) v).below (fun k hk (hq : k = g) => by omega) h.size)
set_option maxRecDepth 100000 in
set_option maxHeartbeats 25600000 in
theorem rnew_any (w : World) (n : Nat) (hn : n ≤ 12) (a b : Bool) :
    Calls Try.prog 23 #[.int .i64 n, .bool a, .bool b] w (fun e w' => ∃ g, e = .returned (.pointer (some ⟨g, 0, none⟩)) ∧ RmAt w' g (newR n a b) (fun q => w.heap.size ≤ q ∧ q < w'.heap.size) ∧ Below w.heap.size w w') := by
  have HN := Lib.hid hn
  clear hn
  have hb1 := build_two9 a b
  have hb2 := build_rm a b
  go_enter Try.func23, Try.ntmps23
  go_upto_region 2 with fail
  obtain ⟨g, hg⟩ : ∃ g, g = w.heap.size := ⟨_, rfl⟩
  obtain ⟨w1, hw1⟩ : ∃ w1, w1 = w.alloc (.cells #[.slice none 0 0, .slice none 0 0, .bool a, .bool b, .slice none 0 0, .slice none 0 0] 113) := ⟨_, rfl⟩
  have HB := Lib.hid (show Below w.heap.size w w1 from by rw [hw1]; exact (Below.refl _ _).alloc (Nat.le_refl _) _)
  have XG := Lib.hid (show Blk w1 g (rmA (.slice none 0 0) (.slice none 0 0) (.slice none 0 0) (.slice none 0 0) a b) 113 from by rw [hg, hw1]; exact heap_alloc_new _ _)
  have GG := Lib.hid (show w.heap.size ≤ g from by rw [hg]; exact Nat.le_refl _)
  rw [← hw1, ← hg]
  clear hw1 hg hb1 hb2
  have wz1 : IntKind.i64.wrap 1 = 1 := IntWalk.i64_in 1 (by omega)
  have wz2 : IntKind.i64.wrap 2 = 2 := IntWalk.i64_in 2 (by omega)
  go_wp2_with fail
  go_loopw [8] (fun i wr => Below w.heap.size w wr ∧ (i = .int .i64 0 ∧ Blk wr g (rmA (.slice none 0 0) (.slice none 0 0) (.slice none 0 0) (.slice none 0 0) a b) 113 ∨ i = .int .i64 1 ∧ (∃ q0 q2, Blk wr g (rmA (slv q0 n) (.slice none 0 0) (slv q2 n) (.slice none 0 0) a b) 113 ∧ Blk wr q0 (secZ n) 38 ∧ Blk wr q2 (boZ n a n) 4 ∧ w.heap.size ≤ q0 ∧ w.heap.size ≤ q2 ∧ g ≠ q0 ∧ g ≠ q2) ∨ i = .int .i64 2 ∧ RmAt wr g (newR n a b) (fun q => w.heap.size ≤ q ∧ q < wr.heap.size))) (fun i _ => 2 - (intOf i).toNat)
  case atStart => exact ⟨HB.out, .inl ⟨rfl, XG.out⟩⟩
  case round =>
    clear HB XG
    obtain ⟨hb, hrel⟩ := hrel
    have HB := Lib.hid hb
    clear hb
    rcases hrel with ⟨rfl, hx⟩ | ⟨rfl, q0, q2, hx, h0, h2, b0, b2, n0, n2⟩ | ⟨rfl, hx⟩
    · have XG := Lib.hid hx
      clear hx
      go_upto_region 5 with fail
      refine wp_region_held_drew (S := fun w' => Below w.heap.size w w') (by kernel_rfl) HB.out.drew (fun hh => ?_)
      have HH := Lib.hid hh
      clear hh
      refine wpAnyH_take (i := 0) (v := ?vR10) rfl (by kernel_rfl) (by kernel_rfl) (by kernel_rfl) (fun _ _ _ h => h) (Or.inl ⟨by rfl, fun w' _ => ?yR10⟩) HH.out ?_
      case yR10 => (go_simp; try with_reducible rfl)
      refine wpAnyH_take (i := 1) (v := ?vR11) rfl (by kernel_rfl) (by kernel_rfl) (by kernel_rfl) (fun _ _ _ h => h) (Or.inl ⟨by rfl, fun w' _ => ?yR11⟩) HH.out ?_
      case yR11 => (go_simp; try with_reducible rfl)
      try simp only [List.getElem_toArray, List.getElem_cons_succ, List.getElem_cons_zero, Act.put, List.setIfInBounds_toArray, List.set_cons_zero, List.set_cons_succ]
      refine wpAnyH_take (i := 2) (v := ?vR12) rfl (by kernel_rfl) (by kernel_rfl) (by kernel_rfl) (fun _ _ _ h => h) (Or.inl ⟨by rfl, fun w' _ => ?yR12⟩) HH.out ?_
      case yR12 => (go_simp; try with_reducible rfl)
      refine wpAnyH_take (i := 4) (v := ?vR14) rfl (by kernel_rfl) (by kernel_rfl) (by kernel_rfl) (fun _ _ _ h => h) (Or.inl ⟨by rfl, fun w' _ => ?yR14⟩) HH.out ?_
      case yR14 => (go_simp; try with_reducible rfl)
      refine wpAnyH_take (i := 5) (v := ?vR15) rfl (by kernel_rfl) (by kernel_rfl) (by kernel_rfl) (fun _ _ _ h => h) (Or.inl ⟨by rfl, fun w' _ => ?yR15⟩) HH.out ?_
      case yR15 => (go_simp; try with_reducible rfl)
      try simp only [List.getElem_toArray, List.getElem_cons_succ, List.getElem_cons_zero, Act.put, List.setIfInBounds_toArray, List.set_cons_zero, List.set_cons_succ]
      try simp only [List.getElem_toArray, List.getElem_cons_succ, List.getElem_cons_zero, Act.put, List.setIfInBounds_toArray, List.set_cons_zero, List.set_cons_succ]
      refine wpAnyH_ready (rs := [3]) (by kernel_rfl) (by simp) (AllReadyH.cons rfl (fun K hK => ?_) AllReadyH.nil)
      rw [if_pos (by rfl)]
      refine wp_makeR 43 (.tmp 21) (.tmp 21) rfl (make_secs wr.drew n HN.out) ?_
      change K _ (wr.drew.alloc (.cells (secZ n) 38))
      obtain ⟨z1, hz1⟩ : ∃ z1, z1 = wr.drew.alloc (.cells (secZ n) 38) := ⟨_, rfl⟩
      have bw : Below wr.heap.size wr z1 := by rw [hz1]; exact (Below.refl wr.heap.size wr).drew.alloc (Nat.le_refl _) _
      have hn : Blk z1 wr.heap.size (secZ n) 38 := by rw [hz1]; exact heap_alloc_new _ _
      have hs : wr.drew.heap.size = wr.heap.size := rfl
      rw [hs]
      rw [← hz1]
      obtain ⟨q0, hq0⟩ : ∃ q0, q0 = wr.heap.size := ⟨_, rfl⟩
      rw [← hq0] at hn ⊢
      have HNq0 := Lib.hid hn
      have GEq0 := Lib.hid (show w.heap.size ≤ q0 from by rw [hq0]; exact HB.out.size)
      have NEq0g := Lib.hid (show g ≠ q0 from fun e => by have := XG.out.lt; omega)
      have XGz1 := Lib.hid (XG.out.below bw)
      have HBz1 := Lib.hid (HB.out.trans (bw.mono HB.out.size))
      refine hK.out _ _ HBz1.out (fun hh => ?_)
      have HH' := Lib.hid hh
      clear hh hK K HH hz1 hq0 hn bw hs HB XG
      have HH := Lib.hid HH'.out
      clear HH'
      refine wpAnyH_take (i := 6) (v := ?vR16) rfl (by kernel_rfl) (by kernel_rfl) (by kernel_rfl) (fun _ _ _ h => h) (Or.inl ⟨by rfl, fun w' _ => ?yR16⟩) HH.out ?_
      case yR16 => (go_simp; try with_reducible rfl)
      have cg : z1.cell? ⟨g, 0, none⟩ = some (.slice none 0 0) := XGz1.out.cell 0
      have fg : z1.frozen? ⟨g, 0, none⟩ = false := XGz1.out.free 0
      have lg := XGz1.out.lt
      try simp only [List.getElem_toArray, List.getElem_cons_succ, List.getElem_cons_zero, Act.put, List.setIfInBounds_toArray, List.set_cons_zero, List.set_cons_succ]
      refine wpAnyH_ready (rs := [7]) (by kernel_rfl) (by simp) (AllReadyH.cons rfl (fun K hK => ?_) AllReadyH.nil)
      go_simp
      obtain ⟨w21, hw21⟩ : ∃ w21, w21 = z1.setCell ⟨g, 0, none⟩ (slv q0 n) := ⟨_, rfl⟩
      rw [show z1.setCell ⟨g, 0, none⟩ (.slice (some ⟨q0, 0, none⟩) n n) = w21 from hw21.symm]
      have HB := Lib.hid (show Below w.heap.size w w21 from by rw [hw21]; exact below_cell HBz1.out GG.out)
      have XGn := Lib.hid (show Blk w21 g (rmA (slv q0 n) (.slice none 0 0) (.slice none 0 0) (.slice none 0 0) a b) 113 from by rw [hw21]; exact blk_setN8 XGz1.out 0 _)
      have Xq0 := Lib.hid (show Blk w21 q0 _ _ from by rw [hw21]; exact HNq0.out.other (fun e => NEq0g.out e.symm) _ _)
      have NEgq0 := Lib.hid (show g ≠ q0 from NEq0g.out)
      refine hK.out _ _ HB.out (fun hh => ?_)
      clear hh hK K HH hw21 cg fg lg HBz1 HNq0 XGz1
      have XG1 := Lib.hid XGn.out
      clear XGn
      try simp only [List.getElem_toArray, List.getElem_cons_succ, List.getElem_cons_zero, Act.put, List.setIfInBounds_toArray, List.set_cons_zero, List.set_cons_succ]
      refine wpAnyH_done (by kernel_rfl) ?_ _
      go_upto_region 6 with fail
      refine wp_region_held_drew (S := fun w' => Below w.heap.size w w') (by kernel_rfl) HB.out.drew (fun hh => ?_)
      have HH := Lib.hid hh
      clear hh
      refine wpAnyH_take (i := 0) (v := ?vR20) rfl (by kernel_rfl) (by kernel_rfl) (by kernel_rfl) (fun _ _ _ h => h) (Or.inl ⟨by rfl, fun w' _ => ?yR20⟩) HH.out ?_
      case yR20 => (go_simp; try with_reducible rfl)
      refine wpAnyH_take (i := 1) (v := ?vR21) rfl (by kernel_rfl) (by kernel_rfl) (by kernel_rfl) (fun _ _ _ h => h) (Or.inl ⟨by rfl, fun w' _ => ?yR21⟩) HH.out ?_
      case yR21 => (go_simp; try with_reducible rfl)
      try simp only [List.getElem_toArray, List.getElem_cons_succ, List.getElem_cons_zero, Act.put, List.setIfInBounds_toArray, List.set_cons_zero, List.set_cons_succ]
      refine wpAnyH_take (i := 2) (v := ?vR22) rfl (by kernel_rfl) (by kernel_rfl) (by kernel_rfl) (fun _ _ _ h => h) (Or.inl ⟨by rfl, fun w' _ => ?yR22⟩) HH.out ?_
      case yR22 => (go_simp; try with_reducible rfl)
      refine wpAnyH_take (i := 4) (v := ?vR24) rfl (by kernel_rfl) (by kernel_rfl) (by kernel_rfl) (fun _ _ _ h => h) (Or.inl ⟨by rfl, fun w' _ => ?yR24⟩) HH.out ?_
      case yR24 => (go_simp; try with_reducible rfl)
      refine wpAnyH_take (i := 5) (v := ?vR25) rfl (by kernel_rfl) (by kernel_rfl) (by kernel_rfl) (fun _ _ _ h => h) (Or.inl ⟨by rfl, fun w' _ => ?yR25⟩) HH.out ?_
      case yR25 => (go_simp; try with_reducible rfl)
      try simp only [List.getElem_toArray, List.getElem_cons_succ, List.getElem_cons_zero, Act.put, List.setIfInBounds_toArray, List.set_cons_zero, List.set_cons_succ]
      try simp only [List.getElem_toArray, List.getElem_cons_succ, List.getElem_cons_zero, Act.put, List.setIfInBounds_toArray, List.set_cons_zero, List.set_cons_succ]
      refine wpAnyH_ready (rs := [3]) (by kernel_rfl) (by simp) (AllReadyH.cons rfl (fun K hK => ?_) AllReadyH.nil)
      rw [if_pos (by rfl)]
      refine wp_makeR 105 (.tmp 28) (.tmp 28) rfl (make_bools w21.drew n a HN.out) ?_
      change K _ (w21.drew.alloc (.cells (boZ n a 0) 4))
      obtain ⟨z2, hz2⟩ : ∃ z2, z2 = w21.drew.alloc (.cells (boZ n a 0) 4) := ⟨_, rfl⟩
      have bw : Below w21.heap.size w21 z2 := by rw [hz2]; exact (Below.refl w21.heap.size w21).drew.alloc (Nat.le_refl _) _
      have hn : Blk z2 w21.heap.size (boZ n a 0) 4 := by rw [hz2]; exact heap_alloc_new _ _
      have hs : w21.drew.heap.size = w21.heap.size := rfl
      rw [hs]
      rw [← hz2]
      obtain ⟨q2, hq2⟩ : ∃ q2, q2 = w21.heap.size := ⟨_, rfl⟩
      rw [← hq2] at hn ⊢
      have HNq2 := Lib.hid hn
      have GEq2 := Lib.hid (show w.heap.size ≤ q2 from by rw [hq2]; exact HB.out.size)
      have NEq2g := Lib.hid (show g ≠ q2 from fun e => by have := XG1.out.lt; omega)
      have XG1z2 := Lib.hid (XG1.out.below bw)
      have NEq2q0 := Lib.hid (show q0 ≠ q2 from fun e => by have := Xq0.out.lt; omega)
      have Xq0z2 := Lib.hid (Xq0.out.below bw)
      have HBz2 := Lib.hid (HB.out.trans (bw.mono HB.out.size))
      refine hK.out _ _ HBz2.out (fun hh => ?_)
      have HH' := Lib.hid hh
      clear hh hK K HH hz2 hq2 hn bw hs HB XG1 Xq0
      have HH := Lib.hid HH'.out
      clear HH'
      refine wpAnyH_take (i := 6) (v := ?vR26) rfl (by kernel_rfl) (by kernel_rfl) (by kernel_rfl) (fun _ _ _ h => h) (Or.inl ⟨by rfl, fun w' _ => ?yR26⟩) HH.out ?_
      case yR26 => (go_simp; try with_reducible rfl)
      have cg : z2.cell? ⟨g, 4, none⟩ = some (.slice none 0 0) := XG1z2.out.cell 4
      have fg : z2.frozen? ⟨g, 4, none⟩ = false := XG1z2.out.free 4
      have lg := XG1z2.out.lt
      try simp only [List.getElem_toArray, List.getElem_cons_succ, List.getElem_cons_zero, Act.put, List.setIfInBounds_toArray, List.set_cons_zero, List.set_cons_succ]
      refine wpAnyH_ready (rs := [7]) (by kernel_rfl) (by simp) (AllReadyH.cons rfl (fun K hK => ?_) AllReadyH.nil)
      go_simp
      obtain ⟨w22, hw22⟩ : ∃ w22, w22 = z2.setCell ⟨g, 4, none⟩ (slv q2 n) := ⟨_, rfl⟩
      rw [show z2.setCell ⟨g, 4, none⟩ (.slice (some ⟨q2, 0, none⟩) n n) = w22 from hw22.symm]
      have HB := Lib.hid (show Below w.heap.size w w22 from by rw [hw22]; exact below_cell HBz2.out GG.out)
      have XGn := Lib.hid (show Blk w22 g (rmA (slv q0 n) (.slice none 0 0) (slv q2 n) (.slice none 0 0) a b) 113 from by rw [hw22]; exact blk_setN8 XG1z2.out 4 _)
      have Xq0z2v := Lib.hid (show Blk w22 q0 _ _ from by rw [hw22]; exact Xq0z2.out.other (fun e => NEgq0.out e.symm) _ _)
      have Xq2 := Lib.hid (show Blk w22 q2 _ _ from by rw [hw22]; exact HNq2.out.other (fun e => NEq2g.out e.symm) _ _)
      have NEgq2 := Lib.hid (show g ≠ q2 from NEq2g.out)
      refine hK.out _ _ HB.out (fun hh => ?_)
      clear hh hK K HH hw22 cg fg lg HBz2 HNq2 XG1z2 Xq0z2
      have XG2 := Lib.hid XGn.out
      clear XGn
      try simp only [List.getElem_toArray, List.getElem_cons_succ, List.getElem_cons_zero, Act.put, List.setIfInBounds_toArray, List.set_cons_zero, List.set_cons_succ]
      refine wpAnyH_done (by kernel_rfl) ?_ _
      go_wp2_with fail
      go_loopw [9] (fun i wx => ∃ k : Nat, k ≤ n ∧ i = .int .i64 k ∧ Below w.heap.size w wx ∧ Blk wx g (rmA (slv q0 n) (.slice none 0 0) (slv q2 n) (.slice none 0 0) a b) 113 ∧ Blk wx q2 (boZ n a k) 4 ∧ Blk wx q0 (secZ n) 38) (fun i _ => n - (intOf i).toNat)
      case atStart => exact ⟨0, Nat.zero_le _, rfl, HB.out, XG2.out, Xq2.out, Xq0z2v.out⟩
      case round =>
        clear HB XG2 Xq0z2v Xq2
        obtain ⟨k, hk, rfl, hb, hxg, hxb, hyq0⟩ := hrel
        have HK := Lib.hid hk
        have HB := Lib.hid hb
        have XG := Lib.hid hxg
        have XB := Lib.hid hxb
        have Yq0 := Lib.hid hyq0
        clear hk hb hxg hxb hyq0
        by_cases hlt : k < n
        · have HLT := Lib.hid hlt
          have k0 : (0 : Int) ≤ (k : Int) := by omega
          have k1 : (k : Int) < (n : Int) := by omega
          have wk : IntKind.i64.wrap ((k : Int) + 1) = ((k + 1 : Nat) : Int) := IntWalk.i64_in _ (by have := HN.out; omega)
          clear hlt
          go_upto_region 10 with fail
          refine wp_region_held_drew (S := fun w' => w'.cell? ⟨g, 4, none⟩ = some (.slice (some ⟨q2, 0, none⟩) n n) ∧ w'.cell? ⟨g, 2, none⟩ = some (.bool a)) (by kernel_rfl) ⟨XG.out.cell 4, XG.out.cell 2⟩ (fun hh => ?_)
          have HH := Lib.hid hh
          clear hh
          refine wpAnyH_take (i := 0) (v := ?vL00) rfl (by kernel_rfl) (by kernel_rfl) (by kernel_rfl) (fun _ _ _ h => h) (Or.inl ⟨by rfl, fun w' _ => ?yL00⟩) HH.out ?_
          case yL00 => (go_simp; try with_reducible rfl)
          refine wpAnyH_take (i := 1) (v := ?vL01) rfl (by kernel_rfl) (by kernel_rfl) (by kernel_rfl) (fun _ _ _ h => h) (Or.inl ⟨by rfl, fun w' _ => ?yL01⟩) HH.out ?_
          case yL01 => (go_simp; try with_reducible rfl)
          try simp only [List.getElem_toArray, List.getElem_cons_succ, List.getElem_cons_zero, Act.put, List.setIfInBounds_toArray, List.set_cons_zero, List.set_cons_succ]
          refine wpAnyH_take (i := 2) (v := ?vL02) rfl (by kernel_rfl) (by kernel_rfl) (by kernel_rfl) (fun _ _ _ h => h) (Or.inl ⟨by rfl, fun w' _ => ?yL02⟩) HH.out ?_
          case yL02 => (go_simp; try with_reducible rfl)
          refine wpAnyH_take (i := 3) (v := ?vL03) rfl (by kernel_rfl) (by kernel_rfl) (by kernel_rfl) (fun _ _ _ h => h) (Or.inl ⟨by rfl, fun w' _ => ?yL03⟩) HH.out ?_
          case yL03 => (go_simp; try with_reducible rfl)
          refine wpAnyH_take (i := 4) (v := ?vL04) rfl (by kernel_rfl) (by kernel_rfl) (by kernel_rfl) (fun _ _ _ h => h) (Or.inl ⟨by rfl, fun w' _ => ?yL04⟩) HH.out ?_
          case yL04 => (go_simp; try with_reducible rfl)
          try simp only [List.getElem_toArray, List.getElem_cons_succ, List.getElem_cons_zero, Act.put, List.setIfInBounds_toArray, List.set_cons_zero, List.set_cons_succ]
          try simp only [List.getElem_toArray, List.getElem_cons_succ, List.getElem_cons_zero, Act.put, List.setIfInBounds_toArray, List.set_cons_zero, List.set_cons_succ]
          refine wpAnyH_take (i := 5) (v := .slice (some ⟨q2, 0, none⟩) n n) rfl (by kernel_rfl) (by kernel_rfl) (by kernel_rfl) (fun _ _ _ h => h) (Or.inl ⟨by rfl, fun w' hw' => ?yL05⟩) HH.out ?_
          case yL05 => (have hc := hw'.1; go_simp; try with_reducible rfl)
          refine wpAnyH_take (i := 6) (v := ?vL06) rfl (by kernel_rfl) (by kernel_rfl) (by kernel_rfl) (fun _ _ _ h => h) (Or.inl ⟨by rfl, fun w' _ => ?yL06⟩) HH.out ?_
          case yL06 => (go_simp; try with_reducible rfl)
          refine wpAnyH_take (i := 7) (v := ?vL07) rfl (by kernel_rfl) (by kernel_rfl) (by kernel_rfl) (fun _ _ _ h => h) (Or.inl ⟨by rfl, fun w' _ => ?yL07⟩) HH.out ?_
          case yL07 => (go_simp; try with_reducible rfl)
          try simp only [List.getElem_toArray, List.getElem_cons_succ, List.getElem_cons_zero, Act.put, List.setIfInBounds_toArray, List.set_cons_zero, List.set_cons_succ]
          refine wpAnyH_take (i := 8) (v := ?vL08) rfl (by kernel_rfl) (by kernel_rfl) (by kernel_rfl) (fun _ _ _ h => h) (Or.inl ⟨by rfl, fun w' _ => ?yL08⟩) HH.out ?_
          case yL08 => (go_simp; try with_reducible rfl)
          refine wpAnyH_take (i := 9) (v := ?vL09) rfl (by kernel_rfl) (by kernel_rfl) (by kernel_rfl) (fun _ _ _ h => h) (Or.inl ⟨by rfl, fun w' _ => ?yL09⟩) HH.out ?_
          case yL09 => (go_simp; try with_reducible rfl)
          refine wpAnyH_take (i := 10) (v := ?vL010) rfl (by kernel_rfl) (by kernel_rfl) (by kernel_rfl) (fun _ _ _ h => h) (Or.inl ⟨by rfl, fun w' _ => ?yL010⟩) HH.out ?_
          case yL010 => (go_simp; try with_reducible rfl)
          try simp only [List.getElem_toArray, List.getElem_cons_succ, List.getElem_cons_zero, Act.put, List.setIfInBounds_toArray, List.set_cons_zero, List.set_cons_succ]
          refine wpAnyH_take (i := 11) (v := ?vL011) rfl (by kernel_rfl) (by kernel_rfl) (by kernel_rfl) (fun _ _ _ h => h) (Or.inl ⟨by rfl, fun w' _ => ?yL011⟩) HH.out ?_
          case yL011 => (go_simp; try with_reducible rfl)
          try simp only [List.getElem_toArray, List.getElem_cons_succ, List.getElem_cons_zero, Act.put, List.setIfInBounds_toArray, List.set_cons_zero, List.set_cons_succ]
          refine wpAnyH_take (i := 12) (v := .bool a) rfl (by kernel_rfl) (by kernel_rfl) (by kernel_rfl) (fun _ _ _ h => h) (Or.inl ⟨by rfl, fun w' hw' => ?yL012⟩) HH.out ?_
          case yL012 => (have hc := hw'.2; go_simp; try with_reducible rfl)
          refine wpAnyH_take (i := 13) (v := ?vL013) rfl (by kernel_rfl) (by kernel_rfl) (by kernel_rfl) (fun _ _ _ h => h) (Or.inl ⟨by rfl, fun w' _ => ?yL013⟩) HH.out ?_
          case yL013 => (go_simp; try with_reducible rfl)
          have cg : wr.cell? ⟨q2, k, none⟩ = some (.bool false) := bo_cell XB.out HLT.out
          have fg : wr.frozen? ⟨q2, k, none⟩ = false := XB.out.free k
          have lg : q2 < wr.heap.size := XB.out.lt
          try simp only [List.getElem_toArray, List.getElem_cons_succ, List.getElem_cons_zero, Act.put, List.setIfInBounds_toArray, List.set_cons_zero, List.set_cons_succ]
          refine wpAnyH_ready (rs := [14]) (by kernel_rfl) (by simp) (AllReadyH.cons rfl (fun K hK => ?_) AllReadyH.nil)
          go_simp
          have HGn := Lib.hid (show Blk (wr.setCell ⟨q2, k, none⟩ (.bool a)).drew g (rmA (slv q0 n) (.slice none 0 0) (slv q2 n) (.slice none 0 0) a b) 113 from (XG.out.other NEgq2.out _ _).below (Below.refl _ _).drew)
          refine hK.out _ _ ⟨HGn.out.cell 4, HGn.out.cell 2⟩ (fun hh => ?_)
          clear hh hK K HH cg fg lg
          try simp only [List.getElem_toArray, List.getElem_cons_succ, List.getElem_cons_zero, Act.put, List.setIfInBounds_toArray, List.set_cons_zero, List.set_cons_succ]
          refine wpAnyH_done (by kernel_rfl) ?_ _
          go_wp2_with fail
          go_roundw
          case rel => exact ⟨k + 1, HLT.out, by go_num, (below_cell HB.out GEq2.out).drew, HGn.out, by rw [← boZ_set a HLT.out]; exact (blk_setN8 XB.out k _).below (Below.refl _ _).drew, (Yq0.out.other NEq2q0.out _ _).below (Below.refl _ _).drew⟩
          case measure => (have := HLT.out; simp [intOf]; omega)
        · obtain rfl : k = n := by have := HK.out; omega
          clear hlt
          go_wp2_with fail
          go_roundw
          case rel => exact ⟨HB.out, .inr (.inl ⟨by go_num, q0, q2, XG.out, Yq0.out, XB.out, GEq0.out, GEq2.out, NEgq0.out, NEgq2.out⟩)⟩
          case measure => (simp [intOf]; try omega)
    · have XG := Lib.hid hx
      have Xq0 := Lib.hid h0
      have Xq2 := Lib.hid h2
      have GEq0 := Lib.hid b0
      have GEq2 := Lib.hid b2
      have NEgq0 := Lib.hid n0
      have NEgq2 := Lib.hid n2
      clear hx h0 h2 b0 b2 n0 n2
      go_upto_region 5 with fail
      refine wp_region_held_drew (S := fun w' => Below w.heap.size w w') (by kernel_rfl) HB.out.drew (fun hh => ?_)
      have HH := Lib.hid hh
      clear hh
      refine wpAnyH_take (i := 0) (v := ?vR30) rfl (by kernel_rfl) (by kernel_rfl) (by kernel_rfl) (fun _ _ _ h => h) (Or.inl ⟨by rfl, fun w' _ => ?yR30⟩) HH.out ?_
      case yR30 => (go_simp; try with_reducible rfl)
      refine wpAnyH_take (i := 1) (v := ?vR31) rfl (by kernel_rfl) (by kernel_rfl) (by kernel_rfl) (fun _ _ _ h => h) (Or.inl ⟨by rfl, fun w' _ => ?yR31⟩) HH.out ?_
      case yR31 => (go_simp; try with_reducible rfl)
      try simp only [List.getElem_toArray, List.getElem_cons_succ, List.getElem_cons_zero, Act.put, List.setIfInBounds_toArray, List.set_cons_zero, List.set_cons_succ]
      refine wpAnyH_take (i := 2) (v := ?vR32) rfl (by kernel_rfl) (by kernel_rfl) (by kernel_rfl) (fun _ _ _ h => h) (Or.inl ⟨by rfl, fun w' _ => ?yR32⟩) HH.out ?_
      case yR32 => (go_simp; try with_reducible rfl)
      refine wpAnyH_take (i := 4) (v := ?vR34) rfl (by kernel_rfl) (by kernel_rfl) (by kernel_rfl) (fun _ _ _ h => h) (Or.inl ⟨by rfl, fun w' _ => ?yR34⟩) HH.out ?_
      case yR34 => (go_simp; try with_reducible rfl)
      refine wpAnyH_take (i := 5) (v := ?vR35) rfl (by kernel_rfl) (by kernel_rfl) (by kernel_rfl) (fun _ _ _ h => h) (Or.inl ⟨by rfl, fun w' _ => ?yR35⟩) HH.out ?_
      case yR35 => (go_simp; try with_reducible rfl)
      try simp only [List.getElem_toArray, List.getElem_cons_succ, List.getElem_cons_zero, Act.put, List.setIfInBounds_toArray, List.set_cons_zero, List.set_cons_succ]
      try simp only [List.getElem_toArray, List.getElem_cons_succ, List.getElem_cons_zero, Act.put, List.setIfInBounds_toArray, List.set_cons_zero, List.set_cons_succ]
      refine wpAnyH_ready (rs := [3]) (by kernel_rfl) (by simp) (AllReadyH.cons rfl (fun K hK => ?_) AllReadyH.nil)
      rw [if_pos (by rfl)]
      refine wp_makeR 43 (.tmp 21) (.tmp 21) rfl (make_secs wr.drew n HN.out) ?_
      change K _ (wr.drew.alloc (.cells (secZ n) 38))
      obtain ⟨z3, hz3⟩ : ∃ z3, z3 = wr.drew.alloc (.cells (secZ n) 38) := ⟨_, rfl⟩
      have bw : Below wr.heap.size wr z3 := by rw [hz3]; exact (Below.refl wr.heap.size wr).drew.alloc (Nat.le_refl _) _
      have hn : Blk z3 wr.heap.size (secZ n) 38 := by rw [hz3]; exact heap_alloc_new _ _
      have hs : wr.drew.heap.size = wr.heap.size := rfl
      rw [hs]
      rw [← hz3]
      obtain ⟨q1, hq1⟩ : ∃ q1, q1 = wr.heap.size := ⟨_, rfl⟩
      rw [← hq1] at hn ⊢
      have HNq1 := Lib.hid hn
      have GEq1 := Lib.hid (show w.heap.size ≤ q1 from by rw [hq1]; exact HB.out.size)
      have NEq1g := Lib.hid (show g ≠ q1 from fun e => by have := XG.out.lt; omega)
      have XGz3 := Lib.hid (XG.out.below bw)
      have NEq1q0 := Lib.hid (show q0 ≠ q1 from fun e => by have := Xq0.out.lt; omega)
      have Xq0z3 := Lib.hid (Xq0.out.below bw)
      have NEq1q2 := Lib.hid (show q2 ≠ q1 from fun e => by have := Xq2.out.lt; omega)
      have Xq2z3 := Lib.hid (Xq2.out.below bw)
      have HBz3 := Lib.hid (HB.out.trans (bw.mono HB.out.size))
      refine hK.out _ _ HBz3.out (fun hh => ?_)
      have HH' := Lib.hid hh
      clear hh hK K HH hz3 hq1 hn bw hs HB XG Xq0 Xq2
      have HH := Lib.hid HH'.out
      clear HH'
      refine wpAnyH_take (i := 6) (v := ?vR36) rfl (by kernel_rfl) (by kernel_rfl) (by kernel_rfl) (fun _ _ _ h => h) (Or.inl ⟨by rfl, fun w' _ => ?yR36⟩) HH.out ?_
      case yR36 => (go_simp; try with_reducible rfl)
      have cg : z3.cell? ⟨g, 1, none⟩ = some (.slice none 0 0) := XGz3.out.cell 1
      have fg : z3.frozen? ⟨g, 1, none⟩ = false := XGz3.out.free 1
      have lg := XGz3.out.lt
      try simp only [List.getElem_toArray, List.getElem_cons_succ, List.getElem_cons_zero, Act.put, List.setIfInBounds_toArray, List.set_cons_zero, List.set_cons_succ]
      refine wpAnyH_ready (rs := [7]) (by kernel_rfl) (by simp) (AllReadyH.cons rfl (fun K hK => ?_) AllReadyH.nil)
      go_simp
      obtain ⟨w23, hw23⟩ : ∃ w23, w23 = z3.setCell ⟨g, 1, none⟩ (slv q1 n) := ⟨_, rfl⟩
      rw [show z3.setCell ⟨g, 1, none⟩ (.slice (some ⟨q1, 0, none⟩) n n) = w23 from hw23.symm]
      have HB := Lib.hid (show Below w.heap.size w w23 from by rw [hw23]; exact below_cell HBz3.out GG.out)
      have XGn := Lib.hid (show Blk w23 g (rmA (slv q0 n) (slv q1 n) (slv q2 n) (.slice none 0 0) a b) 113 from by rw [hw23]; exact blk_setN8 XGz3.out 1 _)
      have Xq0z3v := Lib.hid (show Blk w23 q0 _ _ from by rw [hw23]; exact Xq0z3.out.other (fun e => NEgq0.out e.symm) _ _)
      have Xq2z3v := Lib.hid (show Blk w23 q2 _ _ from by rw [hw23]; exact Xq2z3.out.other (fun e => NEgq2.out e.symm) _ _)
      have Xq1 := Lib.hid (show Blk w23 q1 _ _ from by rw [hw23]; exact HNq1.out.other (fun e => NEq1g.out e.symm) _ _)
      have NEgq1 := Lib.hid (show g ≠ q1 from NEq1g.out)
      refine hK.out _ _ HB.out (fun hh => ?_)
      clear hh hK K HH hw23 cg fg lg HBz3 HNq1 XGz3 Xq0z3 Xq2z3
      have XG3 := Lib.hid XGn.out
      clear XGn
      try simp only [List.getElem_toArray, List.getElem_cons_succ, List.getElem_cons_zero, Act.put, List.setIfInBounds_toArray, List.set_cons_zero, List.set_cons_succ]
      refine wpAnyH_done (by kernel_rfl) ?_ _
      go_upto_region 6 with fail
      refine wp_region_held_drew (S := fun w' => Below w.heap.size w w') (by kernel_rfl) HB.out.drew (fun hh => ?_)
      have HH := Lib.hid hh
      clear hh
      refine wpAnyH_take (i := 0) (v := ?vR40) rfl (by kernel_rfl) (by kernel_rfl) (by kernel_rfl) (fun _ _ _ h => h) (Or.inl ⟨by rfl, fun w' _ => ?yR40⟩) HH.out ?_
      case yR40 => (go_simp; try with_reducible rfl)
      refine wpAnyH_take (i := 1) (v := ?vR41) rfl (by kernel_rfl) (by kernel_rfl) (by kernel_rfl) (fun _ _ _ h => h) (Or.inl ⟨by rfl, fun w' _ => ?yR41⟩) HH.out ?_
      case yR41 => (go_simp; try with_reducible rfl)
      try simp only [List.getElem_toArray, List.getElem_cons_succ, List.getElem_cons_zero, Act.put, List.setIfInBounds_toArray, List.set_cons_zero, List.set_cons_succ]
      refine wpAnyH_take (i := 2) (v := ?vR42) rfl (by kernel_rfl) (by kernel_rfl) (by kernel_rfl) (fun _ _ _ h => h) (Or.inl ⟨by rfl, fun w' _ => ?yR42⟩) HH.out ?_
      case yR42 => (go_simp; try with_reducible rfl)
      refine wpAnyH_take (i := 4) (v := ?vR44) rfl (by kernel_rfl) (by kernel_rfl) (by kernel_rfl) (fun _ _ _ h => h) (Or.inl ⟨by rfl, fun w' _ => ?yR44⟩) HH.out ?_
      case yR44 => (go_simp; try with_reducible rfl)
      refine wpAnyH_take (i := 5) (v := ?vR45) rfl (by kernel_rfl) (by kernel_rfl) (by kernel_rfl) (fun _ _ _ h => h) (Or.inl ⟨by rfl, fun w' _ => ?yR45⟩) HH.out ?_
      case yR45 => (go_simp; try with_reducible rfl)
      try simp only [List.getElem_toArray, List.getElem_cons_succ, List.getElem_cons_zero, Act.put, List.setIfInBounds_toArray, List.set_cons_zero, List.set_cons_succ]
      try simp only [List.getElem_toArray, List.getElem_cons_succ, List.getElem_cons_zero, Act.put, List.setIfInBounds_toArray, List.set_cons_zero, List.set_cons_succ]
      refine wpAnyH_ready (rs := [3]) (by kernel_rfl) (by simp) (AllReadyH.cons rfl (fun K hK => ?_) AllReadyH.nil)
      rw [if_pos (by rfl)]
      refine wp_makeR 105 (.tmp 28) (.tmp 28) rfl (make_bools w23.drew n b HN.out) ?_
      change K _ (w23.drew.alloc (.cells (boZ n b 0) 4))
      obtain ⟨z4, hz4⟩ : ∃ z4, z4 = w23.drew.alloc (.cells (boZ n b 0) 4) := ⟨_, rfl⟩
      have bw : Below w23.heap.size w23 z4 := by rw [hz4]; exact (Below.refl w23.heap.size w23).drew.alloc (Nat.le_refl _) _
      have hn : Blk z4 w23.heap.size (boZ n b 0) 4 := by rw [hz4]; exact heap_alloc_new _ _
      have hs : w23.drew.heap.size = w23.heap.size := rfl
      rw [hs]
      rw [← hz4]
      obtain ⟨q3, hq3⟩ : ∃ q3, q3 = w23.heap.size := ⟨_, rfl⟩
      rw [← hq3] at hn ⊢
      have HNq3 := Lib.hid hn
      have GEq3 := Lib.hid (show w.heap.size ≤ q3 from by rw [hq3]; exact HB.out.size)
      have NEq3g := Lib.hid (show g ≠ q3 from fun e => by have := XG3.out.lt; omega)
      have XG3z4 := Lib.hid (XG3.out.below bw)
      have NEq3q0 := Lib.hid (show q0 ≠ q3 from fun e => by have := Xq0z3v.out.lt; omega)
      have Xq0z3vz4 := Lib.hid (Xq0z3v.out.below bw)
      have NEq3q2 := Lib.hid (show q2 ≠ q3 from fun e => by have := Xq2z3v.out.lt; omega)
      have Xq2z3vz4 := Lib.hid (Xq2z3v.out.below bw)
      have NEq3q1 := Lib.hid (show q1 ≠ q3 from fun e => by have := Xq1.out.lt; omega)
      have Xq1z4 := Lib.hid (Xq1.out.below bw)
      have HBz4 := Lib.hid (HB.out.trans (bw.mono HB.out.size))
      refine hK.out _ _ HBz4.out (fun hh => ?_)
      have HH' := Lib.hid hh
      clear hh hK K HH hz4 hq3 hn bw hs HB XG3 Xq0z3v Xq2z3v Xq1
      have HH := Lib.hid HH'.out
      clear HH'
      refine wpAnyH_take (i := 6) (v := ?vR46) rfl (by kernel_rfl) (by kernel_rfl) (by kernel_rfl) (fun _ _ _ h => h) (Or.inl ⟨by rfl, fun w' _ => ?yR46⟩) HH.out ?_
      case yR46 => (go_simp; try with_reducible rfl)
      have cg : z4.cell? ⟨g, 5, none⟩ = some (.slice none 0 0) := XG3z4.out.cell 5
      have fg : z4.frozen? ⟨g, 5, none⟩ = false := XG3z4.out.free 5
      have lg := XG3z4.out.lt
      try simp only [List.getElem_toArray, List.getElem_cons_succ, List.getElem_cons_zero, Act.put, List.setIfInBounds_toArray, List.set_cons_zero, List.set_cons_succ]
      refine wpAnyH_ready (rs := [7]) (by kernel_rfl) (by simp) (AllReadyH.cons rfl (fun K hK => ?_) AllReadyH.nil)
      go_simp
      obtain ⟨w24, hw24⟩ : ∃ w24, w24 = z4.setCell ⟨g, 5, none⟩ (slv q3 n) := ⟨_, rfl⟩
      rw [show z4.setCell ⟨g, 5, none⟩ (.slice (some ⟨q3, 0, none⟩) n n) = w24 from hw24.symm]
      have HB := Lib.hid (show Below w.heap.size w w24 from by rw [hw24]; exact below_cell HBz4.out GG.out)
      have XGn := Lib.hid (show Blk w24 g (rmA (slv q0 n) (slv q1 n) (slv q2 n) (slv q3 n) a b) 113 from by rw [hw24]; exact blk_setN8 XG3z4.out 5 _)
      have Xq0z3vz4v := Lib.hid (show Blk w24 q0 _ _ from by rw [hw24]; exact Xq0z3vz4.out.other (fun e => NEgq0.out e.symm) _ _)
      have Xq2z3vz4v := Lib.hid (show Blk w24 q2 _ _ from by rw [hw24]; exact Xq2z3vz4.out.other (fun e => NEgq2.out e.symm) _ _)
      have Xq1z4v := Lib.hid (show Blk w24 q1 _ _ from by rw [hw24]; exact Xq1z4.out.other (fun e => NEgq1.out e.symm) _ _)
      have Xq3 := Lib.hid (show Blk w24 q3 _ _ from by rw [hw24]; exact HNq3.out.other (fun e => NEq3g.out e.symm) _ _)
      have NEgq3 := Lib.hid (show g ≠ q3 from NEq3g.out)
      refine hK.out _ _ HB.out (fun hh => ?_)
      clear hh hK K HH hw24 cg fg lg HBz4 HNq3 XG3z4 Xq0z3vz4 Xq2z3vz4 Xq1z4
      have XG4 := Lib.hid XGn.out
      clear XGn
      try simp only [List.getElem_toArray, List.getElem_cons_succ, List.getElem_cons_zero, Act.put, List.setIfInBounds_toArray, List.set_cons_zero, List.set_cons_succ]
      refine wpAnyH_done (by kernel_rfl) ?_ _
      go_wp2_with fail
      go_loopw [9] (fun i wx => ∃ k : Nat, k ≤ n ∧ i = .int .i64 k ∧ Below w.heap.size w wx ∧ Blk wx g (rmA (slv q0 n) (slv q1 n) (slv q2 n) (slv q3 n) a b) 113 ∧ Blk wx q3 (boZ n b k) 4 ∧ Blk wx q0 (secZ n) 38 ∧ Blk wx q2 (boZ n a n) 4 ∧ Blk wx q1 (secZ n) 38) (fun i _ => n - (intOf i).toNat)
      case atStart => exact ⟨0, Nat.zero_le _, rfl, HB.out, XG4.out, Xq3.out, Xq0z3vz4v.out, Xq2z3vz4v.out, Xq1z4v.out⟩
      case round =>
        clear HB XG4 Xq0z3vz4v Xq2z3vz4v Xq1z4v Xq3
        obtain ⟨k, hk, rfl, hb, hxg, hxb, hyq0, hyq2, hyq1⟩ := hrel
        have HK := Lib.hid hk
        have HB := Lib.hid hb
        have XG := Lib.hid hxg
        have XB := Lib.hid hxb
        have Yq0 := Lib.hid hyq0
        have Yq2 := Lib.hid hyq2
        have Yq1 := Lib.hid hyq1
        clear hk hb hxg hxb hyq0 hyq2 hyq1
        by_cases hlt : k < n
        · have HLT := Lib.hid hlt
          have k0 : (0 : Int) ≤ (k : Int) := by omega
          have k1 : (k : Int) < (n : Int) := by omega
          have wk : IntKind.i64.wrap ((k : Int) + 1) = ((k + 1 : Nat) : Int) := IntWalk.i64_in _ (by have := HN.out; omega)
          clear hlt
          go_upto_region 10 with fail
          refine wp_region_held_drew (S := fun w' => w'.cell? ⟨g, 5, none⟩ = some (.slice (some ⟨q3, 0, none⟩) n n) ∧ w'.cell? ⟨g, 3, none⟩ = some (.bool b)) (by kernel_rfl) ⟨XG.out.cell 5, XG.out.cell 3⟩ (fun hh => ?_)
          have HH := Lib.hid hh
          clear hh
          refine wpAnyH_take (i := 0) (v := ?vL10) rfl (by kernel_rfl) (by kernel_rfl) (by kernel_rfl) (fun _ _ _ h => h) (Or.inl ⟨by rfl, fun w' _ => ?yL10⟩) HH.out ?_
          case yL10 => (go_simp; try with_reducible rfl)
          refine wpAnyH_take (i := 1) (v := ?vL11) rfl (by kernel_rfl) (by kernel_rfl) (by kernel_rfl) (fun _ _ _ h => h) (Or.inl ⟨by rfl, fun w' _ => ?yL11⟩) HH.out ?_
          case yL11 => (go_simp; try with_reducible rfl)
          try simp only [List.getElem_toArray, List.getElem_cons_succ, List.getElem_cons_zero, Act.put, List.setIfInBounds_toArray, List.set_cons_zero, List.set_cons_succ]
          refine wpAnyH_take (i := 2) (v := ?vL12) rfl (by kernel_rfl) (by kernel_rfl) (by kernel_rfl) (fun _ _ _ h => h) (Or.inl ⟨by rfl, fun w' _ => ?yL12⟩) HH.out ?_
          case yL12 => (go_simp; try with_reducible rfl)
          refine wpAnyH_take (i := 3) (v := ?vL13) rfl (by kernel_rfl) (by kernel_rfl) (by kernel_rfl) (fun _ _ _ h => h) (Or.inl ⟨by rfl, fun w' _ => ?yL13⟩) HH.out ?_
          case yL13 => (go_simp; try with_reducible rfl)
          refine wpAnyH_take (i := 4) (v := ?vL14) rfl (by kernel_rfl) (by kernel_rfl) (by kernel_rfl) (fun _ _ _ h => h) (Or.inl ⟨by rfl, fun w' _ => ?yL14⟩) HH.out ?_
          case yL14 => (go_simp; try with_reducible rfl)
          try simp only [List.getElem_toArray, List.getElem_cons_succ, List.getElem_cons_zero, Act.put, List.setIfInBounds_toArray, List.set_cons_zero, List.set_cons_succ]
          try simp only [List.getElem_toArray, List.getElem_cons_succ, List.getElem_cons_zero, Act.put, List.setIfInBounds_toArray, List.set_cons_zero, List.set_cons_succ]
          refine wpAnyH_take (i := 5) (v := .slice (some ⟨q3, 0, none⟩) n n) rfl (by kernel_rfl) (by kernel_rfl) (by kernel_rfl) (fun _ _ _ h => h) (Or.inl ⟨by rfl, fun w' hw' => ?yL15⟩) HH.out ?_
          case yL15 => (have hc := hw'.1; go_simp; try with_reducible rfl)
          refine wpAnyH_take (i := 6) (v := ?vL16) rfl (by kernel_rfl) (by kernel_rfl) (by kernel_rfl) (fun _ _ _ h => h) (Or.inl ⟨by rfl, fun w' _ => ?yL16⟩) HH.out ?_
          case yL16 => (go_simp; try with_reducible rfl)
          refine wpAnyH_take (i := 7) (v := ?vL17) rfl (by kernel_rfl) (by kernel_rfl) (by kernel_rfl) (fun _ _ _ h => h) (Or.inl ⟨by rfl, fun w' _ => ?yL17⟩) HH.out ?_
          case yL17 => (go_simp; try with_reducible rfl)
          try simp only [List.getElem_toArray, List.getElem_cons_succ, List.getElem_cons_zero, Act.put, List.setIfInBounds_toArray, List.set_cons_zero, List.set_cons_succ]
          refine wpAnyH_take (i := 8) (v := ?vL18) rfl (by kernel_rfl) (by kernel_rfl) (by kernel_rfl) (fun _ _ _ h => h) (Or.inl ⟨by rfl, fun w' _ => ?yL18⟩) HH.out ?_
          case yL18 => (go_simp; try with_reducible rfl)
          refine wpAnyH_take (i := 9) (v := ?vL19) rfl (by kernel_rfl) (by kernel_rfl) (by kernel_rfl) (fun _ _ _ h => h) (Or.inl ⟨by rfl, fun w' _ => ?yL19⟩) HH.out ?_
          case yL19 => (go_simp; try with_reducible rfl)
          refine wpAnyH_take (i := 10) (v := ?vL110) rfl (by kernel_rfl) (by kernel_rfl) (by kernel_rfl) (fun _ _ _ h => h) (Or.inl ⟨by rfl, fun w' _ => ?yL110⟩) HH.out ?_
          case yL110 => (go_simp; try with_reducible rfl)
          try simp only [List.getElem_toArray, List.getElem_cons_succ, List.getElem_cons_zero, Act.put, List.setIfInBounds_toArray, List.set_cons_zero, List.set_cons_succ]
          refine wpAnyH_take (i := 11) (v := ?vL111) rfl (by kernel_rfl) (by kernel_rfl) (by kernel_rfl) (fun _ _ _ h => h) (Or.inl ⟨by rfl, fun w' _ => ?yL111⟩) HH.out ?_
          case yL111 => (go_simp; try with_reducible rfl)
          try simp only [List.getElem_toArray, List.getElem_cons_succ, List.getElem_cons_zero, Act.put, List.setIfInBounds_toArray, List.set_cons_zero, List.set_cons_succ]
          refine wpAnyH_take (i := 12) (v := .bool b) rfl (by kernel_rfl) (by kernel_rfl) (by kernel_rfl) (fun _ _ _ h => h) (Or.inl ⟨by rfl, fun w' hw' => ?yL112⟩) HH.out ?_
          case yL112 => (have hc := hw'.2; go_simp; try with_reducible rfl)
          refine wpAnyH_take (i := 13) (v := ?vL113) rfl (by kernel_rfl) (by kernel_rfl) (by kernel_rfl) (fun _ _ _ h => h) (Or.inl ⟨by rfl, fun w' _ => ?yL113⟩) HH.out ?_
          case yL113 => (go_simp; try with_reducible rfl)
          have cg : wr.cell? ⟨q3, k, none⟩ = some (.bool false) := bo_cell XB.out HLT.out
          have fg : wr.frozen? ⟨q3, k, none⟩ = false := XB.out.free k
          have lg : q3 < wr.heap.size := XB.out.lt
          try simp only [List.getElem_toArray, List.getElem_cons_succ, List.getElem_cons_zero, Act.put, List.setIfInBounds_toArray, List.set_cons_zero, List.set_cons_succ]
          refine wpAnyH_ready (rs := [14]) (by kernel_rfl) (by simp) (AllReadyH.cons rfl (fun K hK => ?_) AllReadyH.nil)
          go_simp
          have HGn := Lib.hid (show Blk (wr.setCell ⟨q3, k, none⟩ (.bool b)).drew g (rmA (slv q0 n) (slv q1 n) (slv q2 n) (slv q3 n) a b) 113 from (XG.out.other NEgq3.out _ _).below (Below.refl _ _).drew)
          refine hK.out _ _ ⟨HGn.out.cell 5, HGn.out.cell 3⟩ (fun hh => ?_)
          clear hh hK K HH cg fg lg
          try simp only [List.getElem_toArray, List.getElem_cons_succ, List.getElem_cons_zero, Act.put, List.setIfInBounds_toArray, List.set_cons_zero, List.set_cons_succ]
          refine wpAnyH_done (by kernel_rfl) ?_ _
          go_wp2_with fail
          go_roundw
          case rel => exact ⟨k + 1, HLT.out, by go_num, (below_cell HB.out GEq3.out).drew, HGn.out, by rw [← boZ_set b HLT.out]; exact (blk_setN8 XB.out k _).below (Below.refl _ _).drew, (Yq0.out.other NEq3q0.out _ _).below (Below.refl _ _).drew, (Yq2.out.other NEq3q2.out _ _).below (Below.refl _ _).drew, (Yq1.out.other NEq3q1.out _ _).below (Below.refl _ _).drew⟩
          case measure => (have := HLT.out; simp [intOf]; omega)
        · obtain rfl : k = n := by have := HK.out; omega
          clear hlt
          go_wp2_with fail
          go_roundw
          case rel => exact ⟨HB.out, .inr (.inr ⟨by go_num, rm_new XG.out Yq0.out Yq1.out Yq2.out XB.out HN.out (fun e => NEq1q0.out e) (fun e => NEq3q2.out e) GG.out GEq0.out GEq1.out GEq2.out GEq3.out⟩)⟩
          case measure => (simp [intOf]; try omega)
    · have HX := Lib.hid hx
      clear hx
      go_wp2_with fail
      go_ret
      exact ⟨g, rfl, HX.out, HB.out⟩
end Go.Proofs.Ytdjiagcnaogebaa.Mr
/-
  The reference's mirror (layer 9's): Read answers as Md.read.
-/
namespace Go.Proofs.Ytdjiagcnaogebaa.Mr
open Go.RowKit Kd Mi
attribute [local go_sem ↓] Go.wp_at_zero Go.wp_at_succ
section
variable {w w' : World} {g n : Nat} {x : Md} {A0 A1 B0 B1 : Option Addr} {c0 c1 e0 e1 : Nat} {F T : Nat → Prop}
set_option maxRecDepth 100000 in
set_option maxHeartbeats 6400000 in
theorem rread_any (h : RmAt w g x F) (k : Int) : Calls Try.prog 63 #[.pointer (some ⟨g, 0, none⟩), .int .i64 k] w (RetB (.tuple #[.agg (bva (x.read goodN k).1), .int .i64 (x.read goodN k).2]) w) := by
  obtain ⟨z, hz0⟩ : ∃ z : List UInt8, z = zeroS := ⟨_, rfl⟩
  have hz : ∀ W, (zeroValue 38).run Try.prog W = .ok (.agg (bva z)) W := fun _ => by rw [hz0]; kernel_rfl
  have HBZ := Lib.hid (show ∀ W, (Instr.build 38 #[]).run Try.prog W = .ok (.agg (bva z)) W from fun _ => by rw [hz0]; kernel_rfl)
  have HZ3 := Lib.hid (show z.length = 128 by rw [hz0]; exact zeroS_length)
  have HIZ : Hid ((Try.prog.info? 38).map (·.size) = some (bva z).size) := by rw [bva_size, HZ3.out]; exact info_sec
  obtain ⟨RV, hRV⟩ : ∃ RV, RV = Value.tuple #[.agg (bva (x.read goodN k).1), .int .i64 (x.read goodN k).2] := ⟨_, rfl⟩
  rw [← hRV]
  rw [Md.read] at hRV
  obtain ⟨wa, hwa⟩ : ∃ wa, wa = w.alloc (.cells (bva z) 38) := ⟨_, rfl⟩
  obtain ⟨q, hq⟩ : ∃ q, q = w.heap.size := ⟨_, rfl⟩
  have BA := Lib.hid (show Below w.heap.size w wa from by rw [hwa]; exact (Below.refl _ _).alloc (Nat.le_refl _) _)
  have R0 := Lib.hid (show Blk wa q (bva z) 38 from by rw [hwa, hq]; exact heap_alloc_new _ _)
  have HQ := Lib.hid (show w.heap.size ≤ q by omega)
  have HC := Lib.hid (show ∀ w', Below w.heap.size w w' → Calls Try.prog 69 #[.pointer (some ⟨g, 0, none⟩), .int .i64 k] w' (RetB (.bool (x.has k)) w') from fun w' hb => rthere_any (h.below hb) k)
  obtain ⟨n, A0, A1, B0, B1, c0, c1, e0, e1, h, _⟩ := h
  have H := Lib.hid h
  have HRV := Lib.hid hRV
  have HZ0 := Lib.hid hz0
  clear h hRV hz0
  go_enter Try.func63, Try.ntmps63
  go_upto_region 1 with fail
  rw [← hwa, ← hq]
  clear hwa hq
  go_wp2_with fail
  refine (HC.out wa BA.out).mono ?_
  rintro e w1 ⟨rfl, bw⟩
  have W1 := Lib.hid (BA.out.trans (bw.mono BA.out.size))
  have R1 := Lib.hid (R0.out.below bw)
  clear bw BA R0 HC
  cases hh : x.has k with
  | false =>
    have HEND := Lib.hid (show RV = .tuple #[.agg (bva z), .int .i64 2] by rw [HRV.out, hh, if_neg (by simp), HZ0.out])
    clear hh
    go_wp2_with (first
      | (refine wpList_build rfl 38 #[] rfl (v := .agg (bva z)) ?hbld ?_; case hbld => exact HBZ.out _)
      | (refine wpList_store_row rfl 38 (.tmp 4) (.tmp 11) rfl q (bva z) rfl rfl 38 (bva z) R1.out HIZ.out (by rfl) (bva_one _) ?_))
    exact bodyPost_ret (v := .tuple #[.agg (bva z), .int .i64 2]) (results_ct8 Try.results63 _ _ q 38 (bva z) _ rfl (setRow_heap _ _ _ _ _ _ R1.out) Try.underlying38 rfl HIZ.out) rfl ⟨by rw [HEND.out], below_setRow W1.out HQ.out _⟩
  | true =>
    obtain ⟨j, rfl⟩ : ∃ j : Nat, k = (j : Int) := ⟨k.toNat, by rw [Md.has] at hh; simp at hh; omega⟩
    have hj : j < n := by rw [Md.has, H.out.an] at hh; simp at hh; exact hh
    have HJN := Lib.hid hj
    have j0 : (0 : Int) ≤ (j : Int) := by omega
    have j1 : (j : Int) < (n : Int) := by omega
    have hr := HRV.out
    rw [hh, if_pos rfl, Int.toNat_natCast] at hr
    have HRW := Lib.hid hr
    clear hr hh HRV
    obtain ⟨y0, hy0⟩ : ∃ y, y = x.l0.getD j zeroS := ⟨_, rfl⟩
    obtain ⟨y1, hy1⟩ : ∃ y, y = x.l1.getD j zeroS := ⟨_, rfl⟩
    obtain ⟨m0, hm0⟩ : ∃ m, m = x.a.getD j false := ⟨_, rfl⟩
    obtain ⟨m1, hm1⟩ : ∃ m, m = x.b.getD j false := ⟨_, rfl⟩
    obtain ⟨o0, ho0⟩ : ∃ o, o = x.o0 := ⟨_, rfl⟩
    obtain ⟨o1, ho1⟩ : ∃ o, o = x.o1 := ⟨_, rfl⟩
    obtain ⟨f0, hf0⟩ : ∃ f, f = goodN (j : Int) y0 := ⟨_, rfl⟩
    obtain ⟨f1, hf1⟩ : ∃ f, f = goodN (j : Int) y1 := ⟨_, rfl⟩
    have HR0 := Lib.hid (show x.right goodN 0 j = (!m0 && (!o0 && f0)) by rw [Md.right, hm0, ho0, hf0, hy0]; rfl)
    have HR1 := Lib.hid (show x.right goodN 1 j = (!m1 && (!o1 && f1)) by rw [Md.right, hm1, ho1, hf1, hy1]; rfl)
    have HRX := Lib.hid (show RV = .tuple #[.agg (bva (if (!m0 && (!o0 && f0)) = true then (y0, (0 : Int)) else if (!m1 && (!o1 && f1)) = true then (y1, 0) else (z, if (o0 && o1) = true then 13 else 9)).1), .int .i64 (if (!m0 && (!o0 && f0)) = true then (y0, (0 : Int)) else if (!m1 && (!o1 && f1)) = true then (y1, 0) else (z, if (o0 && o1) = true then 13 else 9)).2] by
      rw [HRW.out, HR0.out, HR1.out, ← hy0, ← hy1, ← ho0, ← ho1, ← HZ0.out])
    have h8 : ∀ (l : List (List UInt8)), (∀ s ∈ l, s.length = 128) → l.length = n → ∃ hq, l[j]'hq = l.getD j zeroS ∧ (l.getD j zeroS).length = 128 := fun l hl hn => by
      have hq : j < l.length := by omega
      have e : l[j] = l.getD j zeroS := by rw [List.getD_eq_getElem?_getD, List.getElem?_eq_getElem hq]; rfl
      exact ⟨hq, e, by rw [← e]; exact hl _ (List.getElem_mem hq)⟩
    have HG0 := Lib.hid (show ∀ w, Calls Try.prog 22 #[.int .i64 (j : Int), .agg (bva y0)] w (RetB (.bool f0) w) from fun w => by
      rw [hf0]; exact good_any w j y0 (by rw [hy0]; exact (h8 x.l0 H.out.ok0 H.out.n0).2.2))
    have HY0 := Lib.hid (show y0.length = 128 by rw [hy0]; exact (h8 x.l0 H.out.ok0 H.out.n0).2.2)
    obtain ⟨ad0, ha0, HCE0⟩ : ∃ ad, A0 = some ad ∧ Hid (∀ w', Below w.heap.size w w' → ∀ jj v, (bv y0)[jj]? = some v → w'.cell? ((ad.add (j * 128)).add jj) = some v) := by
      obtain ⟨hq, he, _⟩ := h8 x.l0 H.out.ok0 H.out.n0
      obtain ⟨ad, hA, _, _⟩ := rd_sec (Rd.ownN H.out.l0) H.out.ok0 hq
      refine ⟨ad, hA, Lib.hid fun w' hb jj v hv => ?_⟩
      obtain ⟨ad', hA', _, hc'⟩ := rd_sec ((Rd.ownN H.out.l0).below hb) H.out.ok0 hq
      rw [hA] at hA'; injection hA' with hA'; subst hA'
      exact hc' jj v (by rw [he, ← hy0]; exact hv)
    obtain ⟨bd0, hb0, HCM0⟩ : ∃ ad, B0 = some ad ∧ Hid (∀ w', Below w.heap.size w w' → w'.cell? (ad.add j) = some (.bool m0)) := by
      have hq : j < x.a.length := by rw [H.out.an]; exact HJN.out
      obtain ⟨ad, hA, _, _⟩ := Rd.ownN H.out.a j _ (bs_get hq)
      refine ⟨ad, hA, Lib.hid fun w' hb => ?_⟩
      obtain ⟨ad', hA', _, hc'⟩ := (Rd.ownN H.out.a).below hb j _ (bs_get hq)
      rw [hA] at hA'; injection hA' with hA'; subst hA'
      rw [hm0]; exact hc'
    have HG1 := Lib.hid (show ∀ w, Calls Try.prog 22 #[.int .i64 (j : Int), .agg (bva y1)] w (RetB (.bool f1) w) from fun w => by
      rw [hf1]; exact good_any w j y1 (by rw [hy1]; exact (h8 x.l1 H.out.ok1 H.out.n1).2.2))
    have HY1 := Lib.hid (show y1.length = 128 by rw [hy1]; exact (h8 x.l1 H.out.ok1 H.out.n1).2.2)
    obtain ⟨ad1, ha1, HCE1⟩ : ∃ ad, A1 = some ad ∧ Hid (∀ w', Below w.heap.size w w' → ∀ jj v, (bv y1)[jj]? = some v → w'.cell? ((ad.add (j * 128)).add jj) = some v) := by
      obtain ⟨hq, he, _⟩ := h8 x.l1 H.out.ok1 H.out.n1
      obtain ⟨ad, hA, _, _⟩ := rd_sec (Rd.ownN H.out.l1) H.out.ok1 hq
      refine ⟨ad, hA, Lib.hid fun w' hb jj v hv => ?_⟩
      obtain ⟨ad', hA', _, hc'⟩ := rd_sec ((Rd.ownN H.out.l1).below hb) H.out.ok1 hq
      rw [hA] at hA'; injection hA' with hA'; subst hA'
      exact hc' jj v (by rw [he, ← hy1]; exact hv)
    obtain ⟨bd1, hb1, HCM1⟩ : ∃ ad, B1 = some ad ∧ Hid (∀ w', Below w.heap.size w w' → w'.cell? (ad.add j) = some (.bool m1)) := by
      have hq : j < x.b.length := by rw [H.out.bn]; exact HJN.out
      obtain ⟨ad, hA, _, _⟩ := Rd.ownN H.out.b j _ (bs_get hq)
      refine ⟨ad, hA, Lib.hid fun w' hb => ?_⟩
      obtain ⟨ad', hA', _, hc'⟩ := (Rd.ownN H.out.b).below hb j _ (bs_get hq)
      rw [hA] at hA'; injection hA' with hA'; subst hA'
      rw [hm1]; exact hc'
    have HCS := Lib.hid (show ∀ w', Below w.heap.size w w' → w'.cell? ⟨g, 0, none⟩ = some (.slice A0 n c0) ∧ w'.cell? ⟨g, 1, none⟩ = some (.slice A1 n c1) ∧ w'.cell? ⟨g, 2, none⟩ = some (.bool o0) ∧ w'.cell? ⟨g, 3, none⟩ = some (.bool o1) ∧ w'.cell? ⟨g, 4, none⟩ = some (.slice B0 n e0) ∧ w'.cell? ⟨g, 5, none⟩ = some (.slice B1 n e1) from fun w' hb => by
      have hB := H.out.blk.below hb
      rw [ho0, ho1]; exact ⟨hB.cell 0, hB.cell 1, hB.cell 2, hB.cell 3, hB.cell 4, hB.cell 5⟩)
    have HIY0 := Lib.hid (show (Try.prog.info? 38).map (·.size) = some (bv y0).length by rw [bv_length, HY0.out]; exact info_sec)
    have HIY1 := Lib.hid (show (Try.prog.info? 38).map (·.size) = some (bv y1).length by rw [bv_length, HY1.out]; exact info_sec)
    subst ha0 ha1 hb0 hb1
    clear hy0 hy1 hm0 hm1 ho0 ho1 hf0 hf1 h8 HR0 HR1 HRW hj H
    obtain ⟨k0, k1, k2, k3, k4, k5⟩ := HCS.out w1 W1.out
    by_cases hoo : (o0 && o1) = true
    · have HEND := Lib.hid (show RV = .tuple #[.agg (bva z), .int .i64 13] by
        obtain ⟨rfl, rfl⟩ : o0 = true ∧ o1 = true := by simpa using hoo
        rw [HRX.out]; cases m0 <;> cases m1 <;> rfl)
      obtain ⟨rfl, rfl⟩ : o0 = true ∧ o1 = true := by simpa using hoo
      clear hoo HRX
      go_wp2_with (first
        | (refine wpList_build rfl 38 #[] rfl (v := .agg (bva z)) ?hbld ?_; case hbld => exact HBZ.out _)
        | (refine wpList_store_row rfl 38 (.tmp 4) (.tmp 24) rfl q (bva z) rfl rfl 38 (bva z) R1.out HIZ.out (by rfl) (bva_one _) ?_))
      exact bodyPost_ret (v := .tuple #[.agg (bva z), .int .i64 13]) (results_ct8 Try.results63 _ _ q 38 (bva z) _ rfl (setRow_heap _ _ _ _ _ _ R1.out) Try.underlying38 rfl HIZ.out) rfl ⟨by rw [HEND.out], below_setRow W1.out HQ.out _⟩
    · have HOO := Lib.hid (show (o0 && o1) = false by simpa using hoo)
      have HEND := Lib.hid (show ((!m0 && (!o0 && f0)) = false → (!m1 && (!o1 && f1)) = false → RV = .tuple #[.agg (bva z), .int .i64 9]) ∧ ((!m0 && (!o0 && f0)) = true → RV = .tuple #[.agg (bva y0), .int .i64 0]) ∧ ((!m0 && (!o0 && f0)) = false → (!m1 && (!o1 && f1)) = true → RV = .tuple #[.agg (bva y1), .int .i64 0]) by
        rw [HRX.out, HOO.out]
        refine ⟨fun h1 h2 => by rw [h1, h2]; rfl, fun h1 => by rw [h1]; rfl, fun h1 h2 => by rw [h1, h2]; rfl⟩)
      have hgo : (if o0 = true then o1 else false) = false := by rw [← HOO.out]; cases o0 <;> rfl
      clear hoo HRX
      have HRD := Lib.hid (show True from trivial)
      obtain ⟨rr, hrr⟩ : ∃ rr : Nat → Bool, (rr 0 = (!m0 && (!o0 && f0))) ∧ rr 1 = (!m1 && (!o1 && f1)) := ⟨fun i => if i = 0 then (!m0 && (!o0 && f0)) else (!m1 && (!o1 && f1)), rfl, rfl⟩
      have HRR := Lib.hid hrr
      clear hrr
      have hwalk : Hid (o0 = true → o1 = false) := Lib.hid (fun h => by have := HOO.out; rw [h] at this; simpa using this)
      clear hgo
      cases o0
      · go_upto_region 5 with fail
        clear k0 k1 k2 k3 k4 k5
        go_wp2_with fail
        go_loopw [6] (fun i wr => ∃ d : Nat, i = .int .i64 d ∧ d ≤ 2 ∧ Below w.heap.size w wr ∧ Blk wr q (bva z) 38 ∧ ∀ i, i < d → rr i = false) (fun i _ => 2 - (intOf i).toNat)
        case atStart => exact ⟨0, rfl, by omega, W1.out, R1.out, fun i hi => by omega⟩
        case round =>
          clear W1 R1
          obtain ⟨d, rfl, hd, hw, hr, hno⟩ := hrel
          have W2 := Lib.hid hw
          have R2 := Lib.hid hr
          have HN := Lib.hid hno
          clear hw hr hno
          obtain ⟨k0, k1, k2, k3, k4, k5⟩ := HCS.out wr W2.out
          by_cases hd0 : d = 0
          · subst hd0
            clear hd
            have km := HCM0.out wr W2.out
            cases m0 with
            | true =>
              go_wp2_with fail
              go_roundw
              case rel => exact ⟨1, by go_num, by omega, W2.out, R2.out, fun i hi => by
                obtain rfl | hlt : i = 0 ∨ i < 0 := by omega
                · rw [HRR.out.1]; rfl
                · exact HN.out i hlt⟩
              case measure => (simp [intOf])
            | false =>
              go_wp2_with (refine wpList_execg8 rfl (exec_load_at 38 (.tmp 57) rfl (ad0.add (j * 128)) rfl (HCE0.out _ W2.out) Try.underlying38 rfl HIY0.out) ?_)
              refine (HG0.out _).mono ?_
              rintro e w3 ⟨rfl, bw⟩
              have W3 := Lib.hid (W2.out.trans (bw.mono W2.out.size))
              have R3 := Lib.hid (R2.out.below bw)
              clear bw km k0 k1 k2 k3 k4 k5
              obtain ⟨k0, k1, k2, k3, k4, k5⟩ := HCS.out w3 W3.out
              cases f0 with
              | false =>
                go_wp2_with fail
                go_roundw
                case rel => exact ⟨1, by go_num, by omega, W3.out, R3.out, fun i hi => by
                  obtain rfl | hlt : i = 0 ∨ i < 0 := by omega
                  · rw [HRR.out.1]; rfl
                  · exact HN.out i hlt⟩
                case measure => (simp [intOf])
              | true =>
                have HE := Lib.hid (HEND.out.2.1 rfl)
                go_wp2_with (first
                  | (refine wpList_execg8 rfl (exec_load_at 38 (.tmp 68) rfl (ad0.add (j * 128)) rfl (HCE0.out _ W3.out) Try.underlying38 rfl HIY0.out) ?_)
                  | (refine wpList_store_row rfl 38 (.tmp 4) (.tmp 69) rfl q (bva y0) rfl rfl 38 (bva z) R3.out (by rw [bva_size, HY0.out]; exact info_sec) (by rw [bva_size, bva_size, HY0.out, HZ3.out]) (bva_one _) ?_))
                exact bodyPost_ret (v := .tuple #[.agg (bva y0), .int .i64 0]) (results_ct8 Try.results63 _ _ q 38 (bva y0) _ rfl (setRow_heap _ _ _ _ _ _ R3.out) Try.underlying38 rfl (by rw [bva_size, HY0.out]; exact info_sec)) rfl ⟨by rw [HE.out], below_setRow W3.out HQ.out _⟩
          · by_cases hd1 : d = 1
            · subst hd1
              clear hd hd0
              cases o1 with
              | true =>
                go_wp2_with fail
                go_roundw
                case rel => exact ⟨2, by go_num, by omega, W2.out, R2.out, fun i hi => by
                  obtain rfl | hlt : i = 1 ∨ i < 1 := by omega
                  · rw [HRR.out.2]; cases m1 <;> rfl
                  · exact HN.out i hlt⟩
                case measure => (simp [intOf])
              | false =>
                have km := HCM1.out wr W2.out
                cases m1 with
                | true =>
                  go_wp2_with fail
                  go_roundw
                  case rel => exact ⟨2, by go_num, by omega, W2.out, R2.out, fun i hi => by
                    obtain rfl | hlt : i = 1 ∨ i < 1 := by omega
                    · rw [HRR.out.2]; rfl
                    · exact HN.out i hlt⟩
                  case measure => (simp [intOf])
                | false =>
                  go_wp2_with (refine wpList_execg8 rfl (exec_load_at 38 (.tmp 57) rfl (ad1.add (j * 128)) rfl (HCE1.out _ W2.out) Try.underlying38 rfl HIY1.out) ?_)
                  refine (HG1.out _).mono ?_
                  rintro e w3 ⟨rfl, bw⟩
                  have W3 := Lib.hid (W2.out.trans (bw.mono W2.out.size))
                  have R3 := Lib.hid (R2.out.below bw)
                  clear bw km k0 k1 k2 k3 k4 k5
                  obtain ⟨k0, k1, k2, k3, k4, k5⟩ := HCS.out w3 W3.out
                  cases f1 with
                  | false =>
                    go_wp2_with fail
                    go_roundw
                    case rel => exact ⟨2, by go_num, by omega, W3.out, R3.out, fun i hi => by
                      obtain rfl | hlt : i = 1 ∨ i < 1 := by omega
                      · rw [HRR.out.2]; rfl
                      · exact HN.out i hlt⟩
                    case measure => (simp [intOf])
                  | true =>
                    have HE := Lib.hid (HEND.out.2.2 (HRR.out.1 ▸ HN.out 0 (by omega)) rfl)
                    go_wp2_with (first
                      | (refine wpList_execg8 rfl (exec_load_at 38 (.tmp 68) rfl (ad1.add (j * 128)) rfl (HCE1.out _ W3.out) Try.underlying38 rfl HIY1.out) ?_)
                      | (refine wpList_store_row rfl 38 (.tmp 4) (.tmp 69) rfl q (bva y1) rfl rfl 38 (bva z) R3.out (by rw [bva_size, HY1.out]; exact info_sec) (by rw [bva_size, bva_size, HY1.out, HZ3.out]) (bva_one _) ?_))
                    exact bodyPost_ret (v := .tuple #[.agg (bva y1), .int .i64 0]) (results_ct8 Try.results63 _ _ q 38 (bva y1) _ rfl (setRow_heap _ _ _ _ _ _ R3.out) Try.underlying38 rfl (by rw [bva_size, HY1.out]; exact info_sec)) rfl ⟨by rw [HE.out], below_setRow W3.out HQ.out _⟩
            · obtain rfl : d = 2 := by omega
              clear hd hd0 hd1
              have HE := Lib.hid (HEND.out.1 (HRR.out.1 ▸ HN.out 0 (by omega)) (HRR.out.2 ▸ HN.out 1 (by omega)))
              go_wp2_with (first
                | (refine wpList_build rfl 38 #[] rfl (v := .agg (bva z)) ?hbld ?_; case hbld => exact HBZ.out _)
                | (refine wpList_store_row rfl 38 (.tmp 4) (.tmp 70) rfl q (bva z) rfl rfl 38 (bva z) R2.out HIZ.out (by rfl) (bva_one _) ?_))
              exact bodyPost_ret (v := .tuple #[.agg (bva z), .int .i64 9]) (results_ct8 Try.results63 _ _ q 38 (bva z) _ rfl (setRow_heap _ _ _ _ _ _ R2.out) Try.underlying38 rfl HIZ.out) rfl ⟨by rw [HE.out], below_setRow W2.out HQ.out _⟩
      · obtain rfl : o1 = false := hwalk.out rfl
        go_upto_region 5 with fail
        clear k0 k1 k2 k3 k4 k5
        go_wp2_with fail
        go_loopw [6] (fun i wr => ∃ d : Nat, i = .int .i64 d ∧ d ≤ 2 ∧ Below w.heap.size w wr ∧ Blk wr q (bva z) 38 ∧ ∀ i, i < d → rr i = false) (fun i _ => 2 - (intOf i).toNat)
        case atStart => exact ⟨0, rfl, by omega, W1.out, R1.out, fun i hi => by omega⟩
        case round =>
          clear W1 R1
          obtain ⟨d, rfl, hd, hw, hr, hno⟩ := hrel
          have W2 := Lib.hid hw
          have R2 := Lib.hid hr
          have HN := Lib.hid hno
          clear hw hr hno
          obtain ⟨k0, k1, k2, k3, k4, k5⟩ := HCS.out wr W2.out
          by_cases hd0 : d = 0
          · subst hd0
            clear hd
            go_wp2_with fail
            go_roundw
            case rel => exact ⟨1, by go_num, by omega, W2.out, R2.out, fun i hi => by
              obtain rfl | hlt : i = 0 ∨ i < 0 := by omega
              · rw [HRR.out.1]; cases m0 <;> rfl
              · exact HN.out i hlt⟩
            case measure => (simp [intOf])
          · by_cases hd1 : d = 1
            · subst hd1
              clear hd hd0
              have km := HCM1.out wr W2.out
              cases m1 with
              | true =>
                go_wp2_with fail
                go_roundw
                case rel => exact ⟨2, by go_num, by omega, W2.out, R2.out, fun i hi => by
                  obtain rfl | hlt : i = 1 ∨ i < 1 := by omega
                  · rw [HRR.out.2]; rfl
                  · exact HN.out i hlt⟩
                case measure => (simp [intOf])
              | false =>
                go_wp2_with (refine wpList_execg8 rfl (exec_load_at 38 (.tmp 57) rfl (ad1.add (j * 128)) rfl (HCE1.out _ W2.out) Try.underlying38 rfl HIY1.out) ?_)
                refine (HG1.out _).mono ?_
                rintro e w3 ⟨rfl, bw⟩
                have W3 := Lib.hid (W2.out.trans (bw.mono W2.out.size))
                have R3 := Lib.hid (R2.out.below bw)
                clear bw km k0 k1 k2 k3 k4 k5
                obtain ⟨k0, k1, k2, k3, k4, k5⟩ := HCS.out w3 W3.out
                cases f1 with
                | false =>
                  go_wp2_with fail
                  go_roundw
                  case rel => exact ⟨2, by go_num, by omega, W3.out, R3.out, fun i hi => by
                    obtain rfl | hlt : i = 1 ∨ i < 1 := by omega
                    · rw [HRR.out.2]; rfl
                    · exact HN.out i hlt⟩
                  case measure => (simp [intOf])
                | true =>
                  have HE := Lib.hid (HEND.out.2.2 (HRR.out.1 ▸ HN.out 0 (by omega)) rfl)
                  go_wp2_with (first
                    | (refine wpList_execg8 rfl (exec_load_at 38 (.tmp 68) rfl (ad1.add (j * 128)) rfl (HCE1.out _ W3.out) Try.underlying38 rfl HIY1.out) ?_)
                    | (refine wpList_store_row rfl 38 (.tmp 4) (.tmp 69) rfl q (bva y1) rfl rfl 38 (bva z) R3.out (by rw [bva_size, HY1.out]; exact info_sec) (by rw [bva_size, bva_size, HY1.out, HZ3.out]) (bva_one _) ?_))
                  exact bodyPost_ret (v := .tuple #[.agg (bva y1), .int .i64 0]) (results_ct8 Try.results63 _ _ q 38 (bva y1) _ rfl (setRow_heap _ _ _ _ _ _ R3.out) Try.underlying38 rfl (by rw [bva_size, HY1.out]; exact info_sec)) rfl ⟨by rw [HE.out], below_setRow W3.out HQ.out _⟩
            · obtain rfl : d = 2 := by omega
              clear hd hd0 hd1
              have HE := Lib.hid (HEND.out.1 (HRR.out.1 ▸ HN.out 0 (by omega)) (HRR.out.2 ▸ HN.out 1 (by omega)))
              go_wp2_with (first
                | (refine wpList_build rfl 38 #[] rfl (v := .agg (bva z)) ?hbld ?_; case hbld => exact HBZ.out _)
                | (refine wpList_store_row rfl 38 (.tmp 4) (.tmp 70) rfl q (bva z) rfl rfl 38 (bva z) R2.out HIZ.out (by rfl) (bva_one _) ?_))
              exact bodyPost_ret (v := .tuple #[.agg (bva z), .int .i64 9]) (results_ct8 Try.results63 _ _ q 38 (bva z) _ rfl (setRow_heap _ _ _ _ _ _ R2.out) Try.underlying38 rfl HIZ.out) rfl ⟨by rw [HE.out], below_setRow W2.out HQ.out _⟩
end
end Go.Proofs.Ytdjiagcnaogebaa.Mr
/-
  The reference's mirror (layer 9's): Both answers as Md.both.
-/
namespace Go.Proofs.Ytdjiagcnaogebaa.Mr
open Go.RowKit Kd Mi
attribute [local go_sem ↓] Go.wp_at_zero Go.wp_at_succ
section
variable {w w' : World} {g n : Nat} {x : Md} {A0 A1 B0 B1 : Option Addr} {c0 c1 e0 e1 : Nat} {F T : Nat → Prop}
set_option maxRecDepth 100000 in
set_option maxHeartbeats 6400000 in
theorem rboth_any (h : RmAt w g x F) (k : Int) : Calls Try.prog 67 #[.pointer (some ⟨g, 0, none⟩), .int .i64 k] w (RetSec (x.both goodN k) w) := by
  have HC := Lib.hid (rthere_any h k)
  obtain ⟨n, A0, A1, B0, B1, c0, c1, e0, e1, h, _⟩ := h
  have H := Lib.hid h
  clear h
  obtain ⟨bl, hbl⟩ : ∃ bl, bl = x.both goodN k := ⟨_, rfl⟩
  rw [← hbl]
  rw [Md.both] at hbl
  have HBX := Lib.hid hbl
  clear hbl
  go_enter Try.func67, Try.ntmps67
  go_wp2_with fail
  refine HC.out.mono ?_
  rintro e w1 ⟨rfl, bw⟩
  have W1 := Lib.hid bw
  clear bw HC
  cases hh : x.has k with
  | false =>
    have HEND := Lib.hid (show bl = [] by rw [HBX.out, hh, if_neg (by simp)])
    clear hh HBX
    go_wp2_with fail
    go_ret
    exact ⟨none, 0, 0, rfl, by rw [HEND.out]; rfl, by rw [HEND.out]; exact World.ownsRow_nil _ _ _ _, W1.out⟩
  | true =>
    obtain ⟨j, rfl⟩ : ∃ j : Nat, k = (j : Int) := ⟨k.toNat, by rw [Md.has] at hh; simp at hh; omega⟩
    have hj : j < n := by rw [Md.has, H.out.an] at hh; simp at hh; exact hh
    have j0 : (0 : Int) ≤ (j : Int) := by omega
    have j1 : (j : Int) < (n : Int) := by omega
    have hbl := HBX.out
    rw [hh, if_pos rfl, Int.toNat_natCast] at hbl
    clear HBX
    obtain ⟨y0, hy0⟩ : ∃ y, y = x.l0.getD j zeroS := ⟨_, rfl⟩
    obtain ⟨y1, hy1⟩ : ∃ y, y = x.l1.getD j zeroS := ⟨_, rfl⟩
    obtain ⟨o0, ho0⟩ : ∃ o, o = x.o0 := ⟨_, rfl⟩
    obtain ⟨o1, ho1⟩ : ∃ o, o = x.o1 := ⟨_, rfl⟩
    obtain ⟨f0, hf0⟩ : ∃ f, f = goodN (j : Int) y0 := ⟨_, rfl⟩
    obtain ⟨f1, hf1⟩ : ∃ f, f = goodN (j : Int) y1 := ⟨_, rfl⟩
    obtain ⟨BT, hBT⟩ : ∃ BT : Nat → List (List UInt8), ∀ p, BT p = x.bothTo goodN j p := ⟨_, fun _ => rfl⟩
    have HBL := Lib.hid (show bl = BT 2 by rw [hbl, hBT])
    have HZ := Lib.hid (show BT 0 = [] by rw [hBT]; rfl)
    have HB0 := Lib.hid (show BT 1 = BT 0 ++ if (!o0 && f0) = true then [y0] else [] by rw [hBT, hBT, ho0, hf0, hy0]; rfl)
    have HB1 := Lib.hid (show BT 2 = BT 1 ++ if (!o1 && f1) = true then [y1] else [] by rw [hBT, hBT, ho1, hf1, hy1]; rfl)
    have h8 : ∀ (l : List (List UInt8)), (∀ s ∈ l, s.length = 128) → l.length = n → ∃ hq, l[j]'hq = l.getD j zeroS ∧ (l.getD j zeroS).length = 128 := fun l hl hn => by
      have hq : j < l.length := by omega
      have e : l[j] = l.getD j zeroS := by rw [List.getD_eq_getElem?_getD, List.getElem?_eq_getElem hq]; rfl
      exact ⟨hq, e, by rw [← e]; exact hl _ (List.getElem_mem hq)⟩
    have HG0 := Lib.hid (show ∀ w, Calls Try.prog 22 #[.int .i64 (j : Int), .agg (bva y0)] w (RetB (.bool f0) w) from fun w => by
      rw [hf0]; exact good_any w j y0 (by rw [hy0]; exact (h8 x.l0 H.out.ok0 H.out.n0).2.2))
    have HY0 := Lib.hid (show y0.length = 128 by rw [hy0]; exact (h8 x.l0 H.out.ok0 H.out.n0).2.2)
    obtain ⟨ad0, ha0, HCE0⟩ : ∃ ad, A0 = some ad ∧ Hid (∀ w', Below w.heap.size w w' → ∀ jj v, (bv y0)[jj]? = some v → w'.cell? ((ad.add (j * 128)).add jj) = some v) := by
      obtain ⟨hq, he, _⟩ := h8 x.l0 H.out.ok0 H.out.n0
      obtain ⟨ad, hA, _, _⟩ := rd_sec (Rd.ownN H.out.l0) H.out.ok0 hq
      refine ⟨ad, hA, Lib.hid fun w' hb jj v hv => ?_⟩
      obtain ⟨ad', hA', _, hc'⟩ := rd_sec ((Rd.ownN H.out.l0).below hb) H.out.ok0 hq
      rw [hA] at hA'; injection hA' with hA'; subst hA'
      exact hc' jj v (by rw [he, ← hy0]; exact hv)
    have HG1 := Lib.hid (show ∀ w, Calls Try.prog 22 #[.int .i64 (j : Int), .agg (bva y1)] w (RetB (.bool f1) w) from fun w => by
      rw [hf1]; exact good_any w j y1 (by rw [hy1]; exact (h8 x.l1 H.out.ok1 H.out.n1).2.2))
    have HY1 := Lib.hid (show y1.length = 128 by rw [hy1]; exact (h8 x.l1 H.out.ok1 H.out.n1).2.2)
    obtain ⟨ad1, ha1, HCE1⟩ : ∃ ad, A1 = some ad ∧ Hid (∀ w', Below w.heap.size w w' → ∀ jj v, (bv y1)[jj]? = some v → w'.cell? ((ad.add (j * 128)).add jj) = some v) := by
      obtain ⟨hq, he, _⟩ := h8 x.l1 H.out.ok1 H.out.n1
      obtain ⟨ad, hA, _, _⟩ := rd_sec (Rd.ownN H.out.l1) H.out.ok1 hq
      refine ⟨ad, hA, Lib.hid fun w' hb jj v hv => ?_⟩
      obtain ⟨ad', hA', _, hc'⟩ := rd_sec ((Rd.ownN H.out.l1).below hb) H.out.ok1 hq
      rw [hA] at hA'; injection hA' with hA'; subst hA'
      exact hc' jj v (by rw [he, ← hy1]; exact hv)
    have HCS := Lib.hid (show ∀ w', Below w.heap.size w w' → w'.cell? ⟨g, 0, none⟩ = some (.slice A0 n c0) ∧ w'.cell? ⟨g, 1, none⟩ = some (.slice A1 n c1) ∧ w'.cell? ⟨g, 2, none⟩ = some (.bool o0) ∧ w'.cell? ⟨g, 3, none⟩ = some (.bool o1) from fun w' hb => by
      have hB := H.out.blk.below hb
      rw [ho0, ho1]; exact ⟨hB.cell 0, hB.cell 1, hB.cell 2, hB.cell 3⟩)
    have HIY0 := Lib.hid (show (Try.prog.info? 38).map (·.size) = some (bv y0).length by rw [bv_length, HY0.out]; exact info_sec)
    have HIY1 := Lib.hid (show (Try.prog.info? 38).map (·.size) = some (bv y1).length by rw [bv_length, HY1.out]; exact info_sec)
    subst ha0 ha1
    clear hy0 hy1 ho0 ho1 hf0 hf1 h8 hj H hbl hBT hh
    go_wp2_with fail
    go_loopw [5, 6] (fun l i wr => ∃ (d : Nat) (A : Option Addr) (k c : Nat), d ≤ 2 ∧ i = .int .i64 d ∧ l = .slice A k c ∧ (BT d).length = k ∧ k ≤ d ∧ wr.ownsRow w.heap.size 38 128 (.slice A k c) k (svs (BT d)) ∧ Below w.heap.size w wr) (fun _ i _ => 2 - (intOf i).toNat)
    case atStart => exact ⟨0, none, 0, 0, by omega, rfl, rfl, by rw [HZ.out]; rfl, Nat.le_refl _, by rw [HZ.out]; exact World.ownsRow_nil _ _ _ _, W1.out⟩
    case round =>
      clear W1
      obtain ⟨d, A, k, c, hd, rfl, rfl, hk, hkd, ho, hb⟩ := hrel
      have HK := Lib.hid hk
      have O := Lib.hid ho
      have B := Lib.hid hb
      clear hk ho hb
      obtain ⟨k0, k1, k2, k3⟩ := HCS.out wr B.out
      by_cases hd0 : d = 0
      · subst hd0
        have HKD := Lib.hid hkd
        clear hd hkd
        cases o0 with
        | true =>
          have HE := Lib.hid (show BT 1 = BT 0 by rw [HB0.out, if_neg (by simp), List.append_nil])
          go_wp2_with fail
          go_roundw
          case rel => exact ⟨1, A, k, c, by omega, by go_num, rfl, by rw [HE.out]; exact HK.out, Nat.le_succ_of_le HKD.out, by rw [HE.out]; exact O.out, B.out⟩
          case measure => (simp [intOf])
        | false =>
          go_wp2_with (refine wpList_execg8 rfl (exec_load_at 38 (.tmp 32) rfl (ad0.add (j * 128)) rfl (HCE0.out _ B.out) Try.underlying38 rfl HIY0.out) ?_)
          refine (HG0.out _).mono ?_
          rintro e w3 ⟨rfl, bw⟩
          have O3 := Lib.hid (own_belowN O.out bw)
          have B3 := Lib.hid (B.out.trans (bw.mono B.out.size))
          clear bw k0 k1 k2 k3 O B
          obtain ⟨k0, k1, k2, k3⟩ := HCS.out w3 B3.out
          cases f0 with
          | false =>
            have HE := Lib.hid (show BT 1 = BT 0 by rw [HB0.out, if_neg (by simp), List.append_nil])
            go_wp2_with fail
            go_roundw
            case rel => exact ⟨1, A, k, c, by omega, by go_num, rfl, by rw [HE.out]; exact HK.out, Nat.le_succ_of_le HKD.out, by rw [HE.out]; exact O3.out, B3.out⟩
            case measure => (simp [intOf])
          | true =>
            have HE := Lib.hid (show BT 1 = BT 0 ++ [y0] by rw [HB0.out]; rfl)
            have BA := Lib.hid (show Below w3.heap.size w3 (w3.alloc (.cells (bva y0) 38)) from (Below.refl _ _).alloc (Nat.le_refl _) _)
            have RA := Lib.hid (show Rd (w3.alloc (.cells (bva y0) 38)).heap.size (w3.alloc (.cells (bva y0) 38)) (some ⟨w3.heap.size, 0, none⟩) (bv y0) from by
              have hb5 : Blk (w3.alloc (.cells (bva y0) 38)) w3.heap.size (bva y0) 38 := heap_alloc_new _ _
              intro j v hv
              exact ⟨_, rfl, hb5.lt, by rw [Addr.add_mid, hb5.cell, Nat.zero_add]; simpa [bva] using hv⟩)
            go_wp2_with (first
              | (refine wpList_execg8 rfl (exec_load_at 38 (.tmp 44) rfl (ad0.add (j * 128)) rfl (HCE0.out _ B3.out) Try.underlying38 rfl HIY0.out) ?_)
              | (show wpList _ _ _ ({ dst := some 46, op := .buildSlice 43 1 #[(0, .tmp 45)], type := _, pos := _, after := _, guard := _ } :: _) _ _; apply Classical.byContradiction; intro hneg))
            refine hneg ?_
            clear hneg
            refine wpList_execg8 (v := .slice (some ⟨w3.heap.size, 0, none⟩) 1 1) (w' := w3.alloc (.cells (bva y0) 38)) rfl (exec_buildSlice 43 1 #[(0, .tmp 45)] rfl ?hbld) ?_
            case hbld =>
              simp only [List.map_toArray, List.map_cons, List.map_nil]
              exact run_oneN secsElt _ (.agg (bva y0)) (by show (bva y0).size = 128; rw [bva_size, HY0.out]) (by omega)
            go_wp2_with (at_builtin; apply Classical.byContradiction; intro hneg)
            refine hneg ?_
            clear hneg
            refine wpList_appN _ rfl (.tmp 36) (.tmp 46) 43 rfl secsElt (base := w.heap.size) (v := .slice A k c) (n := k) (xs := svs (BT 0)) rfl (own_belowN O3.out BA.out) (m := 1) rfl RA.out (by rw [bv_length, HY0.out]) (bv_one _) (by have := HKD.out; omega) (Nat.le_trans B3.out.size BA.out.size) ?_
            intro A6 c6 w6 ho6 hg6 hl6
            have B6 := Lib.hid (app_belowN (B3.out.trans (BA.out.mono B3.out.size)) (own_belowN O3.out BA.out) hg6 (Nat.le_refl _) (Nat.le_trans B3.out.size BA.out.size))
            have O6 := Lib.hid (show World.ownsRow w6 w.heap.size 38 128 (.slice A6 (k + 1) c6) (k + 1) (svs (BT 0 ++ [y0])) from by rw [svs_append, svs, svs, List.append_nil]; exact ho6)
            clear ho6 hg6 hl6 O3 B3 BA RA
            go_wp2_with fail
            go_roundw
            case rel => exact ⟨1, A6, k + 1, c6, by omega, by go_num, rfl, by rw [HE.out, List.length_append, HK.out]; rfl, by have := HKD.out; omega, by rw [HE.out]; exact O6.out, B6.out⟩
            case measure => (simp [intOf])
      · by_cases hd1 : d = 1
        · subst hd1
          have HKD := Lib.hid hkd
          clear hd hd0 hkd
          cases o1 with
          | true =>
            have HE := Lib.hid (show BT 2 = BT 1 by rw [HB1.out, if_neg (by simp), List.append_nil])
            go_wp2_with fail
            go_roundw
            case rel => exact ⟨2, A, k, c, by omega, by go_num, rfl, by rw [HE.out]; exact HK.out, Nat.le_succ_of_le HKD.out, by rw [HE.out]; exact O.out, B.out⟩
            case measure => (simp [intOf])
          | false =>
            go_wp2_with (refine wpList_execg8 rfl (exec_load_at 38 (.tmp 32) rfl (ad1.add (j * 128)) rfl (HCE1.out _ B.out) Try.underlying38 rfl HIY1.out) ?_)
            refine (HG1.out _).mono ?_
            rintro e w3 ⟨rfl, bw⟩
            have O3 := Lib.hid (own_belowN O.out bw)
            have B3 := Lib.hid (B.out.trans (bw.mono B.out.size))
            clear bw k0 k1 k2 k3 O B
            obtain ⟨k0, k1, k2, k3⟩ := HCS.out w3 B3.out
            cases f1 with
            | false =>
              have HE := Lib.hid (show BT 2 = BT 1 by rw [HB1.out, if_neg (by simp), List.append_nil])
              go_wp2_with fail
              go_roundw
              case rel => exact ⟨2, A, k, c, by omega, by go_num, rfl, by rw [HE.out]; exact HK.out, Nat.le_succ_of_le HKD.out, by rw [HE.out]; exact O3.out, B3.out⟩
              case measure => (simp [intOf])
            | true =>
              have HE := Lib.hid (show BT 2 = BT 1 ++ [y1] by rw [HB1.out]; rfl)
              have BA := Lib.hid (show Below w3.heap.size w3 (w3.alloc (.cells (bva y1) 38)) from (Below.refl _ _).alloc (Nat.le_refl _) _)
              have RA := Lib.hid (show Rd (w3.alloc (.cells (bva y1) 38)).heap.size (w3.alloc (.cells (bva y1) 38)) (some ⟨w3.heap.size, 0, none⟩) (bv y1) from by
                have hb5 : Blk (w3.alloc (.cells (bva y1) 38)) w3.heap.size (bva y1) 38 := heap_alloc_new _ _
                intro j v hv
                exact ⟨_, rfl, hb5.lt, by rw [Addr.add_mid, hb5.cell, Nat.zero_add]; simpa [bva] using hv⟩)
              go_wp2_with (first
                | (refine wpList_execg8 rfl (exec_load_at 38 (.tmp 44) rfl (ad1.add (j * 128)) rfl (HCE1.out _ B3.out) Try.underlying38 rfl HIY1.out) ?_)
                | (show wpList _ _ _ ({ dst := some 46, op := .buildSlice 43 1 #[(0, .tmp 45)], type := _, pos := _, after := _, guard := _ } :: _) _ _; apply Classical.byContradiction; intro hneg))
              refine hneg ?_
              clear hneg
              refine wpList_execg8 (v := .slice (some ⟨w3.heap.size, 0, none⟩) 1 1) (w' := w3.alloc (.cells (bva y1) 38)) rfl (exec_buildSlice 43 1 #[(0, .tmp 45)] rfl ?hbld) ?_
              case hbld =>
                simp only [List.map_toArray, List.map_cons, List.map_nil]
                exact run_oneN secsElt _ (.agg (bva y1)) (by show (bva y1).size = 128; rw [bva_size, HY1.out]) (by omega)
              go_wp2_with (at_builtin; apply Classical.byContradiction; intro hneg)
              refine hneg ?_
              clear hneg
              refine wpList_appN _ rfl (.tmp 36) (.tmp 46) 43 rfl secsElt (base := w.heap.size) (v := .slice A k c) (n := k) (xs := svs (BT 1)) rfl (own_belowN O3.out BA.out) (m := 1) rfl RA.out (by rw [bv_length, HY1.out]) (bv_one _) (by have := HKD.out; omega) (Nat.le_trans B3.out.size BA.out.size) ?_
              intro A6 c6 w6 ho6 hg6 hl6
              have B6 := Lib.hid (app_belowN (B3.out.trans (BA.out.mono B3.out.size)) (own_belowN O3.out BA.out) hg6 (Nat.le_refl _) (Nat.le_trans B3.out.size BA.out.size))
              have O6 := Lib.hid (show World.ownsRow w6 w.heap.size 38 128 (.slice A6 (k + 1) c6) (k + 1) (svs (BT 1 ++ [y1])) from by rw [svs_append, svs, svs, List.append_nil]; exact ho6)
              clear ho6 hg6 hl6 O3 B3 BA RA
              go_wp2_with fail
              go_roundw
              case rel => exact ⟨2, A6, k + 1, c6, by omega, by go_num, rfl, by rw [HE.out, List.length_append, HK.out]; rfl, by have := HKD.out; omega, by rw [HE.out]; exact O6.out, B6.out⟩
              case measure => (simp [intOf])
        · obtain rfl : d = 2 := by omega
          clear hd hd0 hd1 hkd
          go_wp2_with fail
          go_ret
          exact ⟨A, k, c, rfl, by rw [HBL.out]; exact HK.out, by rw [HBL.out]; exact O.out, B.out⟩
end
end Go.Proofs.Ytdjiagcnaogebaa.Mr
/-
  A mirror and the reference's, side by side: what is done to the one leaves the other.
-/
namespace Go.Proofs.Ytdjiagcnaogebaa.Mr
open Go.RowKit Kd Mi
/-- The mirror is x, the reference's is y; no block is of both. -/
structure PB (p1 g1 p2 g2 g gr : Nat) (w0 w : World) (s : Mr (Two p1 g1 p2 g2)) (F R : Nat → Prop) (x y : Md) (m : Nat) : Prop where
  lm : LM p1 g1 p2 g2 gG g w0 w s F x m
  rm : RmAt w gr y R
  ap : ∀ q, F q → R q → False
  rn : ∀ q, R q → w0.heap.size ≤ q
/-- It returns v; the mirror is x now, the reference's is y. -/
def RetPB (v : Value) (p1 g1 p2 g2 g gr : Nat) (w0 : World) (R : Nat → Prop) (x y : Md) (m : Nat) (F : Nat → Prop) (w : World) (e : Ending) (w' : World) : Prop :=
  e = .returned v ∧ ∃ (s : Mr (Two p1 g1 p2 g2)) (F' : Nat → Prop), PB p1 g1 p2 g2 g gr w0 w' s F' R x y m ∧ (∀ q, F' q → F q ∨ w.heap.size ≤ q) ∧ But (fun q => F q ∨ R q) w w'
/-- A box that is of neither. -/
def BP (w0 w : World) (F R : Nat → Prop) (b : Nat) (cs : Array Value) (t : TypeId) : Prop := Blk w b cs t ∧ w0.heap.size ≤ b ∧ ¬ F b ∧ ¬ R b
section
variable {p1 g1 p2 g2 g gr : Nat} {w0 w w' : World} {s s' : Mr (Two p1 g1 p2 g2)} {F F' R : Nat → Prop} {x x' y y' : Md} {m m' : Nat} {v : Value} {e : Ending} {b : Nat} {cs : Array Value} {t : TypeId}
theorem RmAt.lt (h : RmAt w gr y R) : ∀ q, R q → q < w.heap.size := by
  obtain ⟨n, A0, A1, B0, B1, c0, c1, e0, e1, _, _, h⟩ := h
  exact h
theorem BP.step (h : BP w0 w F R b cs t) (hn : ∀ q, F' q → F q ∨ w.heap.size ≤ q) (hb : But (fun q => F q ∨ R q) w w') : BP w0 w' F' R b cs t :=
  ⟨h.1.but hb (fun hq => hq.elim h.2.2.1 h.2.2.2), h.2.1, fun hf => (hn b hf).elim h.2.2.1 (fun h1 => by have := h.1.lt; omega), h.2.2.2⟩
theorem BP.below (h : BP w0 w F R b cs t) (hb : Below w.heap.size w w') : BP w0 w' F R b cs t := ⟨h.1.below hb, h.2⟩
theorem PB.below (h : PB p1 g1 p2 g2 g gr w0 w s F R x y m) (hb : Below w.heap.size w w') : PB p1 g1 p2 g2 g gr w0 w' s F R x y m := ⟨h.lm.below hb, h.rm.below hb, h.ap, h.rn⟩
/-- What is done to the mirror. -/
theorem PB.mir (h : PB p1 g1 p2 g2 g gr w0 w s F R x y m) (hr : RetM v p1 g1 p2 g2 gG g w0 x' m' F w e w') : RetPB v p1 g1 p2 g2 g gr w0 R x' y m' F w e w' := by
  obtain ⟨rfl, s', F', h1, hm⟩ := hr
  refine ⟨rfl, s', F', ⟨h1, h.rm.but hm.but (fun q hq hf => h.ap q hf hq) hm.but.size, fun q hf hq => ?_, h.rn⟩, hm.new, hm.but.mono (fun q hq => .inl hq)⟩
  rcases hm.new q hf with h2 | h2
  · exact h.ap q h2 hq
  · have := h.rm.lt q hq; omega
/-- What is done to the reference's. -/
theorem PB.ref (h : PB p1 g1 p2 g2 g gr w0 w s F R x y m) (hr : RetRm v gr y' R w e w') : RetPB v p1 g1 p2 g2 g gr w0 R x y' m F w e w' := by
  obtain ⟨rfl, h1, hb⟩ := hr
  exact ⟨rfl, s, F, ⟨⟨⟨(ML (Two p1 g1 p2 g2) gG g).but h.lm.live.at_ hb (fun q hf hq => h.ap q hf hq), h.lm.live.new, h.lm.live.bel.trans (hb.below (fun k hk hq => by have := h.rn k hq; omega) h.lm.live.bel.size)⟩, h.lm.sees, h.lm.dry⟩, h1, h.ap, h.rn⟩, fun q hq => .inl hq, hb.mono (fun q hq => .inr hq)⟩
theorem PB.refW (h : PB p1 g1 p2 g2 g gr w0 w s F R x y m) (h1 : RmAt w' gr y' R) (hb : But R w w') : PB p1 g1 p2 g2 g gr w0 w' s F R x y' m :=
  ⟨⟨⟨(ML (Two p1 g1 p2 g2) gG g).but h.lm.live.at_ hb (fun q hf hq => h.ap q hf hq), h.lm.live.new, h.lm.live.bel.trans (hb.below (fun k hk hq => by have := h.rn k hq; omega) h.lm.live.bel.size)⟩, h.lm.sees, h.lm.dry⟩, h1, h.ap, h.rn⟩
theorem pb_write (h : PB p1 g1 p2 g2 g gr w0 w s F R x y m) (n : Int) (z : List UInt8) (hz : z.length = 128) (hm : m < 900000) :
    Calls Try.prog 34 #[.pointer (some ⟨g, 0, none⟩), .int .i64 n, .agg (bva z)] w (RetPB (.int .i64 (x.write n z).1) p1 g1 p2 g2 g gr w0 R (x.write n z).2 y (m + 2) F w) :=
  (lm_write h.lm n z hz hm).mono fun _ _ hr => h.mir hr
theorem pb_flush (h : PB p1 g1 p2 g2 g gr w0 w s F R x y m) :
    Calls Try.prog 35 #[.pointer (some ⟨g, 0, none⟩)] w (RetPB (.int .i64 (if x.o0 && x.o1 then 13 else 0)) p1 g1 p2 g2 g gr w0 R x y 0 F w) :=
  (lm_flush h.lm).mono fun _ _ hr => h.mir hr
theorem pb_read (h : PB p1 g1 p2 g2 g gr w0 w s F R x y m) (n : Int) :
    Calls Try.prog 28 #[.pointer (some ⟨g, 0, none⟩), .int .i64 n] w (RetPB (.tuple #[.agg (bva (x.read goodN n).1), .int .i64 (x.read goodN n).2]) p1 g1 p2 g2 g gr w0 R x y m F w) :=
  (lm_read h.lm n).mono fun _ _ hr => h.mir hr
theorem pb_heal (h : PB p1 g1 p2 g2 g gr w0 w s F R x y m) (n : Int) (hm : m < 900000) :
    Calls Try.prog 27 #[.pointer (some ⟨g, 0, none⟩), .int .i64 n] w (RetPB (tup2 (x.heal goodN n).1) p1 g1 p2 g2 g gr w0 R (x.heal goodN n).2 y (m + 1) F w) :=
  (lm_heal h.lm n hm).mono fun _ _ hr => h.mir hr
theorem pb_choose (h : PB p1 g1 p2 g2 g gr w0 w s F R x y m) (n : Int) (z : List UInt8) (hz : z.length = 128) (hm : m < 900000) :
    Calls Try.prog 68 #[.pointer (some ⟨g, 0, none⟩), .int .i64 n, .agg (bva z)] w (RetPB (.int .i64 (x.write n z).1) p1 g1 p2 g2 g gr w0 R (x.write n z).2 y (m + 2) F w) :=
  (lm_choose h.lm n z hz hm).mono fun _ _ hr => h.mir hr
theorem pb_sync (h : PB p1 g1 p2 g2 g gr w0 w s F R x y 0) (hk : x.a.length ≤ 5000) :
    Calls Try.prog 26 #[.pointer (some ⟨g, 0, none⟩)] w (RetPB (.int .i64 (x.sync goodN).1) p1 g1 p2 g2 g gr w0 R (x.sync goodN).2 y 0 F w) :=
  (lm_sync h.lm hk).mono fun _ _ hr => h.mir hr
theorem pb_out0 (h : PB p1 g1 p2 g2 g gr w0 w s F R x y 0) (on : Bool) :
    Calls Try.prog 20 #[.pointer (some ⟨g1, 0, none⟩), .bool on] w (RetPB (.tuple #[]) p1 g1 p2 g2 g gr w0 R (x.out 0 on) y 0 F w) :=
  (lm_out0 h.lm on).mono fun _ _ hr => h.mir hr
theorem pb_rot0 (h : PB p1 g1 p2 g2 g gr w0 w s F R x y 0) (n a : Int) (c : UInt8) :
    Calls Try.prog 50 #[.pointer (some ⟨g1, 0, none⟩), .int .i64 n, .int .i64 a, .int .u8 (c.toNat : Int)] w (RetPB (.bool (hasByte x.a.length n a)) p1 g1 p2 g2 g gr w0 R (x.rot 0 n a c) y 0 F w) :=
  (lm_rot0 h.lm n a c).mono fun _ _ hr => h.mir hr
theorem pb_out1 (h : PB p1 g1 p2 g2 g gr w0 w s F R x y 0) (on : Bool) :
    Calls Try.prog 20 #[.pointer (some ⟨g2, 0, none⟩), .bool on] w (RetPB (.tuple #[]) p1 g1 p2 g2 g gr w0 R (x.out 1 on) y 0 F w) :=
  (lm_out1 h.lm on).mono fun _ _ hr => h.mir hr
theorem pb_rot1 (h : PB p1 g1 p2 g2 g gr w0 w s F R x y 0) (n a : Int) (c : UInt8) :
    Calls Try.prog 50 #[.pointer (some ⟨g2, 0, none⟩), .int .i64 n, .int .i64 a, .int .u8 (c.toNat : Int)] w (RetPB (.bool (hasByte x.a.length n a)) p1 g1 p2 g2 g gr w0 R (x.rot 1 n a c) y 0 F w) :=
  (lm_rot1 h.lm n a c).mono fun _ _ hr => h.mir hr
theorem pbr_write (h : PB p1 g1 p2 g2 g gr w0 w s F R x y m) (n : Int) (z : List UInt8) (hz : z.length = 128) :
    Calls Try.prog 62 #[.pointer (some ⟨gr, 0, none⟩), .int .i64 n, .agg (bva z)] w (RetPB (.int .i64 (y.write n z).1) p1 g1 p2 g2 g gr w0 R x (y.write n z).2 m F w) :=
  (rwrite_any h.rm n z hz).mono fun _ _ hr => h.ref hr
theorem pbr_heal (h : PB p1 g1 p2 g2 g gr w0 w s F R x y m) (n : Int) :
    Calls Try.prog 65 #[.pointer (some ⟨gr, 0, none⟩), .int .i64 n] w (RetPB (tup2 (y.heal goodN n).1) p1 g1 p2 g2 g gr w0 R x (y.heal goodN n).2 m F w) :=
  (rheal_any h.rm n).mono fun _ _ hr => h.ref hr
theorem pbr_sync (h : PB p1 g1 p2 g2 g gr w0 w s F R x y m) (hk : y.a.length ≤ 4096) :
    Calls Try.prog 64 #[.pointer (some ⟨gr, 0, none⟩)] w (RetPB (.int .i64 (y.sync goodN).1) p1 g1 p2 g2 g gr w0 R x (y.sync goodN).2 m F w) :=
  (rsync_any h.rm hk).mono fun _ _ hr => h.ref hr
/-- The reference's device goes out, or comes back. -/
theorem RmAt.setOut0 (h : RmAt w gr y R) (on : Bool) : RmAt (w.setCell ⟨gr, 2, none⟩ (.bool on)) gr (y.out 0 on) R ∧ But R w (w.setCell ⟨gr, 2, none⟩ (.bool on)) := by
  obtain ⟨n, A0, A1, B0, B1, c0, c1, e0, e1, h, h1, h2⟩ := h
  have hT : But (fun q => q = gr) w (w.setCell ⟨gr, 2, none⟩ (.bool on)) := but_one _
  have hne : ∀ {A : Option Addr} {k j : Nat} {ty : TypeId} {sz : Nat} {xs : List Value}, w.ownsRow 0 ty sz (.slice A k j) k xs → ty ≠ 113 → ∀ q, (Value.slice A k j).ownBlock = some q → q ≠ gr := fun ho ht q hq e => by
    obtain ⟨cs', hc'⟩ := row_type ho q hq
    have hg : w.heap[gr]? = some (.cells _ 113 (0, 0)) := h.blk
    rw [e, hg] at hc'; injection hc' with hc'; injection hc' with _ hc'; exact ht hc'.symm
  exact ⟨⟨n, A0, A1, B0, B1, c0, c1, e0, e1, ⟨blk_setN8 h.blk 2 _, Own.but h.l0 hT (hne h.l0 (by decide)), Own.but h.l1 hT (hne h.l1 (by decide)), Own.but h.a hT (hne h.a (by decide)), Own.but h.b hT (hne h.b (by decide)), h.n0, h.n1, h.an, h.bn, h.ok0, h.ok1, h.apl, h.apm⟩, h1, fun q hq => Nat.lt_of_lt_of_le (h2 q hq) hT.size⟩, hT.mono (fun q hq => by rw [show q = gr from hq]; exact h1 gr (.inl rfl))⟩
theorem RmAt.setOut1 (h : RmAt w gr y R) (on : Bool) : RmAt (w.setCell ⟨gr, 3, none⟩ (.bool on)) gr (y.out 1 on) R ∧ But R w (w.setCell ⟨gr, 3, none⟩ (.bool on)) := by
  obtain ⟨n, A0, A1, B0, B1, c0, c1, e0, e1, h, h1, h2⟩ := h
  have hT : But (fun q => q = gr) w (w.setCell ⟨gr, 3, none⟩ (.bool on)) := but_one _
  have hne : ∀ {A : Option Addr} {k j : Nat} {ty : TypeId} {sz : Nat} {xs : List Value}, w.ownsRow 0 ty sz (.slice A k j) k xs → ty ≠ 113 → ∀ q, (Value.slice A k j).ownBlock = some q → q ≠ gr := fun ho ht q hq e => by
    obtain ⟨cs', hc'⟩ := row_type ho q hq
    have hg : w.heap[gr]? = some (.cells _ 113 (0, 0)) := h.blk
    rw [e, hg] at hc'; injection hc' with hc'; injection hc' with _ hc'; exact ht hc'.symm
  exact ⟨⟨n, A0, A1, B0, B1, c0, c1, e0, e1, ⟨blk_setN8 h.blk 3 _, Own.but h.l0 hT (hne h.l0 (by decide)), Own.but h.l1 hT (hne h.l1 (by decide)), Own.but h.a hT (hne h.a (by decide)), Own.but h.b hT (hne h.b (by decide)), h.n0, h.n1, h.an, h.bn, h.ok0, h.ok1, h.apl, h.apm⟩, h1, fun q hq => Nat.lt_of_lt_of_le (h2 q hq) hT.size⟩, hT.mono (fun q hq => by rw [show q = gr from hq]; exact h1 gr (.inl rfl))⟩
end
end Go.Proofs.Ytdjiagcnaogebaa.Mr
/-
  A byte of the reference's mirror, spoilt.
-/
namespace Go.Proofs.Ytdjiagcnaogebaa.Mr
open Go.RowKit Kd Mi
section
variable {w : World} {g k a : Nat} {x : Md} {F : Nat → Prop}
theorem one_cell (w : World) (q o : Nat) (v : Value) : w.setCells q o [v] = w.setCell ⟨q, o, none⟩ v := rfl
theorem RmAt.rot0 (h : RmAt w g x F) (hk : k < x.a.length) (ha : a < 128) : ∃ q n j, w.cell? ⟨g, 0, none⟩ = some (.slice (some ⟨q, 0, none⟩) n j) ∧ k < n ∧ w.cell? ⟨q, k * 128 + a, none⟩ = some (.int .u8 (((x.l0.getD k zeroS).getD a 0).toNat : Int)) ∧ w.frozen? ⟨q, k * 128 + a, none⟩ = false ∧ q ≠ g ∧ F q ∧ q < w.heap.size ∧ ∀ b : UInt8, RmAt (w.setCell ⟨q, k * 128 + a, none⟩ (.int .u8 ((((x.l0.getD k zeroS).getD a 0) ^^^ b).toNat : Int))) g (x.rot 0 (k : Int) (a : Int) b) F := by
  obtain ⟨n, A0, A1, B0, B1, c0, c1, e0, e1, h, h1, h2⟩ := h
  have hkn : k < n := by rw [← h.an]; exact hk
  obtain ⟨q, hq⟩ := own_loc h.l0 hkn
  subst hq
  obtain ⟨cs, hcur⟩ := row_type h.l0 q rfl
  have hlen : k < x.l0.length := by rw [h.n0]; exact hkn
  have hg : w.heap[g]? = some (.cells _ 113 (0, 0)) := h.blk
  have hqg : q ≠ g := fun e => by rw [e, hg] at hcur; injection hcur with hcur; injection hcur with _ hcur; exact absurd hcur (by decide)
  have haa : ∀ y, (Value.slice B0 n e0).ownBlock = some y → y ≠ q := fun y hy e => by
    obtain ⟨cs', hc'⟩ := row_type h.a y hy
    rw [e, hcur] at hc'; injection hc' with hc'; injection hc' with _ hc'; exact absurd hc' (by decide)
  have hbb : ∀ y, (Value.slice B1 n e1).ownBlock = some y → y ≠ q := fun y hy e => by
    obtain ⟨cs', hc'⟩ := row_type h.b y hy
    rw [e, hcur] at hc'; injection hc' with hc'; injection hc' with _ hc'; exact absurd hc' (by decide)
  have e : x.l0[k] = x.l0.getD k zeroS := by rw [List.getD_eq_getElem?_getD, List.getElem?_eq_getElem hlen]; rfl
  have h128 : (x.l0.getD k zeroS).length = 128 := getD_ok h.ok0 k
  refine ⟨q, n, c0, h.blk.cell 0, hkn, ?_, Blk.free (show Blk w q cs 38 from hcur) _, hqg, h1 q (.inr (.inl rfl)), (h.l0.lt q rfl).2, fun b => ?_⟩
  · have hv : (bv x.l0[k])[a]? = some (.int .u8 (((x.l0.getD k zeroS).getD a 0).toNat : Int)) := by
      rw [e, bv, List.getElem?_map]
      have h5 : a < (x.l0.getD k zeroS).length := by rw [h128]; exact ha
      generalize x.l0.getD k zeroS = s at h5
      rw [List.getElem?_eq_getElem h5, List.getD_eq_getElem?_getD, List.getElem?_eq_getElem h5]
      rfl
    obtain ⟨ad, hA, _, hc⟩ := (Rd.ownN h.l0) _ _ (svs_get h.ok0 hlen hv)
    injection hA with hA; subst hA
    rwa [Addr.add_mid, Nat.zero_add, Nat.mul_comm] at hc
  · have hT : But (fun y => y = q) w (w.setCell ⟨q, k * 128 + a, none⟩ (.int .u8 ((((x.l0.getD k zeroS).getD a 0) ^^^ b).toNat : Int))) := but_one _
    have hx : x.rot 0 (k : Int) (a : Int) b = { x with l0 := rotL x.l0 k a b } := by
      unfold Md.rot
      rw [if_pos (show hasByte x.a.length (k : Int) (a : Int) = true from by unfold hasByte; simp; omega)]
      rfl
    rw [hx]
    refine ⟨n, some ⟨q, 0, none⟩, A1, B0, B1, c0, c1, e0, e1, ⟨h.blk.but hT (fun e => hqg e.symm), ?_, Own.but h.l1 hT (fun y hy hy2 => h.apl y (by rw [hy2]; rfl) hy), Own.but h.a hT (fun y hy hy' => haa y hy hy'), Own.but h.b hT (fun y hy hy' => hbb y hy hy'), ?_, h.n1, h.an, h.bn, ?_, h.ok1, h.apl, h.apm⟩, h1, fun y hy => Nat.lt_of_lt_of_le (h2 y hy) hT.size⟩
    · show World.ownsRow _ _ _ _ _ _ (svs (rotL x.l0 k a b))
      rw [svs_rot h.ok0 hlen ha, ← one_cell]
      exact (own_setMid (o := k * 128 + a) (vs := [_]) h.l0 (by show k * 128 + a + 1 ≤ n * 128; omega)).1
    · show (rotL x.l0 k a b).length = n
      rw [Kd.rotL_length]; exact h.n0
    · intro y hy
      rcases List.mem_or_eq_of_mem_set (show y ∈ x.l0.set k (rotS (x.l0.getD k zeroS) a b) from hy) with hy | rfl
      · exact h.ok0 y hy
      · rw [rotS_length]; exact h128
theorem RmAt.rot1 (h : RmAt w g x F) (hk : k < x.a.length) (ha : a < 128) : ∃ q n j, w.cell? ⟨g, 1, none⟩ = some (.slice (some ⟨q, 0, none⟩) n j) ∧ k < n ∧ w.cell? ⟨q, k * 128 + a, none⟩ = some (.int .u8 (((x.l1.getD k zeroS).getD a 0).toNat : Int)) ∧ w.frozen? ⟨q, k * 128 + a, none⟩ = false ∧ q ≠ g ∧ F q ∧ q < w.heap.size ∧ ∀ b : UInt8, RmAt (w.setCell ⟨q, k * 128 + a, none⟩ (.int .u8 ((((x.l1.getD k zeroS).getD a 0) ^^^ b).toNat : Int))) g (x.rot 1 (k : Int) (a : Int) b) F := by
  obtain ⟨n, A0, A1, B0, B1, c0, c1, e0, e1, h, h1, h2⟩ := h
  have hkn : k < n := by rw [← h.an]; exact hk
  obtain ⟨q, hq⟩ := own_loc h.l1 hkn
  subst hq
  obtain ⟨cs, hcur⟩ := row_type h.l1 q rfl
  have hlen : k < x.l1.length := by rw [h.n1]; exact hkn
  have hg : w.heap[g]? = some (.cells _ 113 (0, 0)) := h.blk
  have hqg : q ≠ g := fun e => by rw [e, hg] at hcur; injection hcur with hcur; injection hcur with _ hcur; exact absurd hcur (by decide)
  have haa : ∀ y, (Value.slice B0 n e0).ownBlock = some y → y ≠ q := fun y hy e => by
    obtain ⟨cs', hc'⟩ := row_type h.a y hy
    rw [e, hcur] at hc'; injection hc' with hc'; injection hc' with _ hc'; exact absurd hc' (by decide)
  have hbb : ∀ y, (Value.slice B1 n e1).ownBlock = some y → y ≠ q := fun y hy e => by
    obtain ⟨cs', hc'⟩ := row_type h.b y hy
    rw [e, hcur] at hc'; injection hc' with hc'; injection hc' with _ hc'; exact absurd hc' (by decide)
  have e : x.l1[k] = x.l1.getD k zeroS := by rw [List.getD_eq_getElem?_getD, List.getElem?_eq_getElem hlen]; rfl
  have h128 : (x.l1.getD k zeroS).length = 128 := getD_ok h.ok1 k
  refine ⟨q, n, c1, h.blk.cell 1, hkn, ?_, Blk.free (show Blk w q cs 38 from hcur) _, hqg, h1 q (.inr (.inr (.inl rfl))), (h.l1.lt q rfl).2, fun b => ?_⟩
  · have hv : (bv x.l1[k])[a]? = some (.int .u8 (((x.l1.getD k zeroS).getD a 0).toNat : Int)) := by
      rw [e, bv, List.getElem?_map]
      have h5 : a < (x.l1.getD k zeroS).length := by rw [h128]; exact ha
      generalize x.l1.getD k zeroS = s at h5
      rw [List.getElem?_eq_getElem h5, List.getD_eq_getElem?_getD, List.getElem?_eq_getElem h5]
      rfl
    obtain ⟨ad, hA, _, hc⟩ := (Rd.ownN h.l1) _ _ (svs_get h.ok1 hlen hv)
    injection hA with hA; subst hA
    rwa [Addr.add_mid, Nat.zero_add, Nat.mul_comm] at hc
  · have hT : But (fun y => y = q) w (w.setCell ⟨q, k * 128 + a, none⟩ (.int .u8 ((((x.l1.getD k zeroS).getD a 0) ^^^ b).toNat : Int))) := but_one _
    have hx : x.rot 1 (k : Int) (a : Int) b = { x with l1 := rotL x.l1 k a b } := by
      unfold Md.rot
      rw [if_pos (show hasByte x.a.length (k : Int) (a : Int) = true from by unfold hasByte; simp; omega)]
      rfl
    rw [hx]
    refine ⟨n, A0, some ⟨q, 0, none⟩, B0, B1, c0, c1, e0, e1, ⟨h.blk.but hT (fun e => hqg e.symm), Own.but h.l0 hT (fun y hy hy2 => h.apl y hy (by rw [hy2]; rfl)), ?_, Own.but h.a hT (fun y hy hy' => haa y hy hy'), Own.but h.b hT (fun y hy hy' => hbb y hy hy'), h.n0, ?_, h.an, h.bn, h.ok0, ?_, h.apl, h.apm⟩, h1, fun y hy => Nat.lt_of_lt_of_le (h2 y hy) hT.size⟩
    · show World.ownsRow _ _ _ _ _ _ (svs (rotL x.l1 k a b))
      rw [svs_rot h.ok1 hlen ha, ← one_cell]
      exact (own_setMid (o := k * 128 + a) (vs := [_]) h.l1 (by show k * 128 + a + 1 ≤ n * 128; omega)).1
    · show (rotL x.l1 k a b).length = n
      rw [Kd.rotL_length]; exact h.n1
    · intro y hy
      rcases List.mem_or_eq_of_mem_set (show y ∈ x.l1.set k (rotS (x.l1.getD k zeroS) a b) from hy) with hy | rfl
      · exact h.ok1 y hy
      · rw [rotS_length]; exact h128
end
end Go.Proofs.Ytdjiagcnaogebaa.Mr
