/-
  KeycodeBack holds: what a tree holds, some of its leaves punctured, is read from its bytes, and makes a tree with the same leaves and keys.
-/
import Derived.Test.YtippbjpodnnhiaaMi1
import Derived.Test.YtippbjpodnnhiaaRows
import Derived.ProofKit
import Derived.OpenShut
import Derived.ShutString
import Derived.ChangeOld
namespace Go.Proofs.Ytippbjpodnnhiaa
open Go.RowKit Go.ChangeShapes Go.WideShapes Go.ChangeAt
open Kg Kc
attribute [local go_sem ↓] Go.wp_at_zero Go.wp_at_succ
theorem u64Elt : Elt Try.prog 44 38 (.int .u64 0) 8 := ⟨Try.underlying44, by kernel_rfl, rfl, by omega⟩
set_option maxRecDepth 100000 in
set_option maxHeartbeats 6400000 in
theorem keycodeBack_any (w : World) (s : List UInt8) (hs : s.length = 32) (A : Option Addr) (n c : Nat) (l : List Int) (hl : l.length = n) (_hc : n ≤ c) (_hm : c ≤ maxLen) (hr : Rd w.heap.size w A (iv64 l)) (hz : ∀ z ∈ l, 0 ≤ z ∧ z ≤ 18446744073709551615) (ask : Int) (hask : 0 ≤ ask ∧ ask ≤ 18446744073709551615) :
    Calls Try.prog 5 #[.agg (bva s), .slice A n c, .int .u64 ask] w (RetB (.bool true) w) := by
  have HL := Lib.hid hl
  have HR := Lib.hid hr
  have HZ := Lib.hid hz
  clear hl hr hz _hc _hm
  have HS := Lib.hid hs
  have HK : Hid ((Try.prog.info? 43).map (·.size) = some (bva s).size) := by rw [bva_size, hs]; exact info_keyL
  have B1 := Lib.hid (show Blk (w.alloc (.cells (bva s) 43)) w.heap.size (bva s) 43 from heap_alloc_new _ _)
  have BB := Lib.hid (show Below w.heap.size w (w.alloc (.cells (bva s) 43)) from (Below.refl _ _).alloc (Nat.le_refl _) _)
  have HBL := Lib.hid (show ∀ W, (Instr.build 49 #[]).run Try.prog W = .ok (.agg zeroLit) W from fun _ => by kernel_rfl)
  clear hs
  have HAS := Lib.hid hask
  clear hask
  by_cases h24 : n ≤ 12
  · have hd : decide ((n : Int) > 12) = false := decide_eq_false (by omega)
    go_enter Try.func5, Try.ntmps5
    go_wp2_with fail
    refine (kcAwake_any _).mono ?_
    rintro e w1 ⟨rfl, bw⟩
    have C1 := Lib.hid (B1.out.below bw)
    have CB := Lib.hid (BB.out.trans (bw.mono BB.out.size))
    clear bw B1 BB
    obtain ⟨rt, hrt⟩ : ∃ rt : Nd, rt = ⟨0, 0, s⟩ := ⟨_, rfl⟩
    have HRT := Lib.hid hrt
    have HOK : Hid (okS 0 [rt]) := by rw [hrt]; exact okS_root HS.out
    obtain ⟨zz, hzz⟩ : ∃ zz : List UInt8, zz = List.replicate 32 0 := ⟨_, rfl⟩
    have hz23 : ∀ W, (zeroValue 43).run Try.prog W = .ok (.agg (bva zz)) W := fun _ => by rw [hzz]; kernel_rfl
    have ZZ3 : Hid (zz.length = 32) := by show _ = _; rw [hzz]; rfl
    obtain ⟨L, hL⟩ : ∃ L, L = l.map (· % 131072) := ⟨_, rfl⟩
    have HLV := Lib.hid hL
    have HLL := Lib.hid (show L.length = n by rw [hL, List.length_map, HL.out])
    clear hrt hzz hL
    go_wp2_with (first
      | (refine wpList_build rfl 49 #[] rfl (v := .agg zeroLit) ?hbld ?_; case hbld => exact HBL.out _)
      | (refine wpList_load_row rfl 43 (.tmp 3) rfl w.heap.size rfl 43 (bva s) (0, 0) _ C1.out Try.underlying43 rfl HK.out ?_))
    refine (new_any (ci := litC) s HS.out _).mono ?_
    rintro e w2 ⟨⟨g, F, rfl, ht, hF⟩, bw⟩
    rw [← HRT.out] at ht
    have HT := Lib.hid ht
    have HF := Lib.hid (show ∀ q, F q → w.heap.size ≤ q from fun q hq => Nat.le_trans CB.out.size (hF q hq))
    have HB := Lib.hid (CB.out.trans (bw.mono CB.out.size))
    clear ht hF bw C1 CB
    go_wp2_with fail
    go_loopw [9, 34] (fun _ i wr => ∃ k F, k ≤ n ∧ i = .int .i64 (k : Nat) ∧ Tr litC wr g (punAll litC [rt] (L.take k)) F ∧ Hid (∀ q, F q → w.heap.size ≤ q) ∧ Below w.heap.size w wr) (fun _ i _ => n - (intOf i).toNat)
    case atStart => exact ⟨0, F, by omega, rfl, HT.out, HF, HB.out⟩
    case round =>
      clear HT HF HB
      obtain ⟨k, F, hk, rfl, ht, HF, hbw⟩ := hrel
      have HT := Lib.hid ht
      have HB := Lib.hid hbw
      clear ht hbw
      by_cases hlt : k < n
      · have hkl : k < l.length := by rw [HL.out]; exact hlt
        have hkL : k < L.length := by rw [HLL.out]; exact hlt
        obtain ⟨ad, hA, hbl, _⟩ := rd_u64 HR.out hkl
        subst hA
        obtain ⟨m, hm⟩ : ∃ m, m = l.getD k 0 := ⟨_, rfl⟩
        have hcell : ∀ w', Below w.heap.size w w' → w'.cell? (ad.add k) = some (.int .u64 m) := fun w' hb' => by
          obtain ⟨ad', hA', _, hc⟩ := rd_u64 (HR.out.below hb') hkl
          injection hA' with hA'
          subst hA'
          rw [hm]; exact hc
        have hmb : 0 ≤ m ∧ m ≤ 18446744073709551615 := HZ.out m (by
          rw [hm, List.getD_eq_getElem?_getD, List.getElem?_eq_getElem hkl]; exact List.getElem_mem hkl)
        obtain ⟨p, hp⟩ : ∃ p, p = L.getD k 0 := ⟨_, rfl⟩
        have hpm : m % 131072 = p := by
          rw [hp, hm, List.getD_eq_getElem?_getD, List.getD_eq_getElem?_getD, HLV.out, List.getElem?_map, List.getElem?_eq_getElem hkl]; rfl
        have hpt : m.tmod 131072 = p := by rw [Int.tmod_eq_emod_of_nonneg hmb.1, hpm]
        have HCL := Lib.hid hcell
        have HMB := Lib.hid hmb
        have HPV := Lib.hid hp
        have HPM := Lib.hid hpm
        have m0 : 0 ≤ m := hmb.1
        have k0 : (0 : Int) ≤ (k : Int) := by omega
        have k1 : (k : Int) < (n : Int) := by omega
        clear hcell hmb hm hp hbl
        have cc := HCL.out _ HB.out
        go_wp2_with fail
        refine (tpuncture_any g _ F p _ HT.out).mono ?_
        rintro e w5 ⟨rfl, hp⟩
        obtain ⟨F5, ht5, hF5, hb5⟩ := pun_one hp HF.out HB.out.size
        rw [HPV.out, ← punAll_snoc _ _ hkL] at ht5
        have HT5 := Lib.hid ht5
        have HF5 := Lib.hid hF5
        have HB5 := Lib.hid (HB.out.trans hb5)
        have ek : IntKind.i64.wrap ((k : Int) + 1) = ((k + 1 : Nat) : Int) := by rw [IntWalk.i64_in _ (by omega)]; omega
        clear hp ht5 hF5 hb5 cc HT HB hpm hpt
        go_wp2_with fail
        go_roundw
        case rel => exact ⟨k + 1, F5, by omega, by go_num, HT5.out, HF5, HB5.out⟩
        case measure => simp [intOf]; omega
      · obtain rfl : n = k := by omega
        have hcan : punAll litC [rt] (L.take n) = canL litC 17 rt L := by rw [List.take_of_length_le (by rw [HLL.out]; exact Nat.le_refl _), HRT.out]; exact punAll_root HS.out L
        obtain ⟨X, hX⟩ : ∃ X, X = canL litC 17 rt L := ⟨_, rfl⟩
        have ht := HT.out
        rw [hcan, ← hX] at ht
        have HXV := Lib.hid hX
        have HT2 := Lib.hid ht
        have HXO := Lib.hid ht.ok
        have HXN := Lib.hid (show X.length ≤ 65535 by
          have h1 := length_can (ci := litC) 17 rt L (by rw [HRT.out]; exact (okS_root HS.out).1) (by rw [HRT.out]; rfl)
          have h2 : nIn rt L ≤ n := by rw [← HLL.out]; exact List.length_filter_le _ _
          rw [← hX] at h1; omega)
        clear HT ht hcan hX
        have HT := HT2
        clear HT2
        clear HOK
        go_wp2_with fail
        refine (theld_tr HT.out).mono ?_
        rintro e v1 ⟨A1, nA1, cA1, rfl, ho, bw⟩
        have HNA1 := Lib.hid (show X.length = nA1 by have h1 := ho.1; rw [nvs_length (okS_len HXO.out)] at h1; omega)
        have O1 := Lib.hid ho
        have HTx101 := Lib.hid (HT.out.below bw)
        have HBx101 := Lib.hid (HB.out.trans (bw.mono HB.out.size))
        clear bw ho HT HB
        go_wp2_with fail
        refine (kenc_any A1 nA1 cA1 X _ HNA1.out (okS_len HXO.out) (fun y hy => (okS_mem HXO.out y hy).1.2.2.1) (Nat.le_refl _) (Rd.ownN O1.out) (by have h1 := HXN.out; have h2 := HNA1.out; omega)).mono ?_
        rintro e v2 ⟨bw, ⟨_, Y1, mY1, cY1, rfl, ho⟩ | ⟨hno, _⟩ | ⟨⟨_, hno⟩, _⟩⟩
        rotate_left
        · exact absurd HXO.out hno
        · exact absurd hno (by have h1 := HXN.out; omega)
        have hm := own_blen ho
        have HMY1 := Lib.hid (show mY1 = 2 + 36 * X.length by rw [← hm]; exact encB_length (okS_len HXO.out))
        have HCY1 := Lib.hid (cap_own ho)
        have E1 := Lib.hid ho
        have HTx102 := Lib.hid (HTx101.out.below bw)
        have HBx102 := Lib.hid (HBx101.out.trans (bw.mono HBx101.out.size))
        have O1x102 := Lib.hid (own_belowN O1.out bw)
        clear bw ho hm HTx101 HBx101 O1
        obtain ⟨b, hb⟩ : ∃ b, b = encB X := ⟨_, rfl⟩
        have HOY := Lib.hid (show okY b by rw [hb]; exact okY_encB HXO.out HXN.out)
        have HBL2 := Lib.hid (show b.length = mY1 by rw [hb]; exact own_blen E1.out)
        have E2 := Lib.hid (show v2.ownsRow _ 5 1 (.slice Y1 mY1 cY1) mY1 (bv b) by rw [hb]; exact E1.out)
        have HDB := Lib.hid (show decN (manyY b) (b.drop 2) = X by rw [hb]; exact (dec_encB HXO.out HXN.out).2)
        have hfew : mY1 ≤ 2400000 := by have h1 := HMY1.out; have h2 := HXN.out; omega
        clear hb E1
        go_wp2_with fail
        refine (kdec_any Y1 mY1 cY1 b _ HBL2.out HCY1.out.1 (Nat.le_refl _) (Rd.own E2.out) (by omega)).mono ?_
        rintro e v3 ⟨bw, ⟨_, A3, m3, c3, rfl, ho⟩ | ⟨hno, _⟩⟩
        rotate_left
        · exact absurd HOY.out hno
        rw [HDB.out] at ho
        have HN3 := Lib.hid (show X.length = m3 by have h1 := ho.1; rw [nvs_length (okS_len HXO.out)] at h1; omega)
        have O3 := Lib.hid ho
        have HTx103 := Lib.hid (HTx102.out.below bw)
        have HBx103 := Lib.hid (HBx102.out.trans (bw.mono HBx102.out.size))
        clear bw ho E2 HTx102 HBx102
        go_wp2_with (first | (refine wpList_build rfl 49 #[] rfl (v := .agg zeroLit) ?hbld ?_; case hbld => exact HBL.out _))
        refine (from_any (ci := litC) A3 m3 c3 X _ HN3.out (okS_len HXO.out) (fun y hy => (okS_mem HXO.out y hy).1.2.2.1) (Nat.le_refl _) (Rd.ownN O3.out) (by have h1 := HXN.out; have h2 := HN3.out; omega)).mono ?_
        rintro e v4 ⟨⟨_, g2, F2, rfl, ht2, hF2⟩ | ⟨hnot, _⟩, bw⟩
        rotate_left
        · exact absurd HXO.out hnot
        have HT2 := Lib.hid ht2
        have HTx104 := Lib.hid (HTx103.out.below bw)
        have HBx104 := Lib.hid (HBx103.out.trans (bw.mono HBx103.out.size))
        have O3x104 := Lib.hid (own_belowN O3.out bw)
        clear bw ht2 hF2 HTx103 HBx103 O3
        go_wp2_with fail
        refine (theld_tr HTx104.out).mono ?_
        rintro e v5 ⟨A5, nA5, cA5, rfl, ho, bw⟩
        have HNA5 := Lib.hid (show X.length = nA5 by have h1 := ho.1; rw [nvs_length (okS_len HXO.out)] at h1; omega)
        have O5 := Lib.hid ho
        have HTx105 := Lib.hid (HTx104.out.below bw)
        have HBx105 := Lib.hid (HBx104.out.trans (bw.mono HBx104.out.size))
        have O3x105 := Lib.hid (own_belowN O3x104.out bw)
        have HT2x105 := Lib.hid (HT2.out.below bw)
        clear bw ho HTx104 HBx104 O3x104 HT2
        have hm3 : m3 ≤ 65535 := by have h1 := HXN.out; have h2 := HN3.out; omega
        have hmy : mY1 = 2 + 36 * m3 := by rw [HMY1.out, HN3.out]
        have e1 : IntKind.i64.wrap (36 * (m3 : Int)) = 36 * (m3 : Int) := IntWalk.i64_in _ (by omega)
        have e2 : IntKind.i64.wrap (2 + 36 * (m3 : Int)) = (mY1 : Int) := by rw [IntWalk.i64_in _ (by omega)]; omega
        have HMY := Lib.hid hmy
        clear hmy
        go_wp2_with fail
        refine (same_any A3 A5 m3 nA5 c3 cA5 X X _ HN3.out HNA5.out (okS_len HXO.out) (okS_len HXO.out) (Rd.ownN O3x105.out) (Rd.ownN O5.out) (by unfold maxLen; omega) (by have h1 := HNA5.out; have h2 := HN3.out; unfold maxLen; omega)).mono ?_
        rintro e v7 ⟨rfl, q, rfl⟩
        rw [decide_eq_true (rfl : X = X)]
        have bw : Below v5.heap.size v5 (v5.drewN q) := below_drewN' (Below.refl _ _) q
        have HTx106 := Lib.hid (HTx105.out.below bw)
        have HBx106 := Lib.hid (HBx105.out.trans (bw.mono HBx105.out.size))
        have O3x106 := Lib.hid (own_belowN O3x105.out bw)
        have HT2x106 := Lib.hid (HT2x105.out.below bw)
        have O5x106 := Lib.hid (own_belowN O5.out bw)
        clear bw HTx105 HBx105 O3x105 HT2x105 O5
        generalize v5.drewN q = v7 at *
        obtain ⟨q0, hq0⟩ : ∃ q0, q0 = ask.tmod 131072 := ⟨_, rfl⟩
        have hq1 : ask % 131072 = q0 := by rw [hq0, Int.tmod_eq_emod_of_nonneg HAS.out.1]
        have hqb : 0 ≤ q0 ∧ q0 ≤ 18446744073709551615 := by rw [← hq1]; have := HAS.out; omega
        have hq2 := hq0.symm
        have HQB := Lib.hid hqb
        have a0 : 0 ≤ ask := HAS.out.1
        have o0 := World.ownsRow_lit (base := v7.heap.size) (size := 1) (e := 38) v7 #[.int .u64 q0] 1 (Nat.le_refl _) (by unfold maxLen; omega) rfl
        have O0 := Lib.hid o0
        have BA0 := Lib.hid (show Below v7.heap.size v7 (v7.alloc (.cells #[.int .u64 q0] 38)) from (Below.refl _ v7).alloc (Nat.le_refl _) _)
        have BA := Lib.hid (HBx106.out.trans (BA0.out.mono HBx106.out.size))
        have hu1 : ∀ u ∈ iv64 l, u.oneCell' = true := by
          intro u hu
          obtain ⟨z, _, rfl⟩ := List.mem_map.1 hu
          rfl
        have HU1 := Lib.hid hu1
        clear o0 hqb hq0 hu1
        go_wp2_with (at_builtin
                     refine wpList_app _ rfl (.tmp 89) (.tmp 90) _ rfl u64Elt (base := v7.heap.size) (v := .slice (some ⟨v7.heap.size, 0, none⟩) 1 1) rfl O0.out (m := n) rfl (HR.out.below BA.out) (by rw [iv64_length, HL.out]) HU1.out ?_ ?_ ?_
                     · omega
                     · simp
                     intro A8 c8 w8 ho8 hg8 _
                     have hb8 := app_below BA0.out O0.out hg8 (Nat.le_refl _) (by simp)
                     have O8 := Lib.hid ho8
                     have HTx107 := Lib.hid (HTx106.out.below hb8)
                     have HBx107 := Lib.hid (HBx106.out.trans (hb8.mono HBx106.out.size))
                     have HT2x107 := Lib.hid (HT2x106.out.below hb8)
                     clear ho8 hg8 hb8 O0 BA BA0 HU1 HTx106 HBx106 HT2x106)
        obtain ⟨LL, hLL⟩ : ∃ LL, LL = q0 :: l := ⟨_, rfl⟩
        have HRW := Lib.hid (show w8.ownsRow v7.heap.size 38 1 (.slice A8 (1 + n) c8) (1 + n) (iv64 LL) by rw [hLL]; exact O8.out)
        obtain ⟨N1, hN1⟩ : ∃ N1, N1 = 1 + n := ⟨_, rfl⟩
        have HLN := Lib.hid (show LL.length = N1 by rw [hLL, List.length_cons, HL.out]; omega)
        rw [← hN1] at HRW ⊢
        have hNI : ((1 : Int) + (n : Int)) = (N1 : Int) := by omega
        have hN13 : N1 ≤ 13 := by omega
        try simp only [hNI]
        clear hLL hN1 O8 hq1 hq2 hNI
        go_loopw [93] (fun i wr => ∃ k : Nat, k ≤ N1 ∧ i = .int .i64 k ∧ Tr litC wr g X F ∧ Tr litC wr g2 X F2 ∧ wr.ownsRow v7.heap.size 38 1 (.slice A8 N1 c8) N1 (iv64 LL) ∧ Below w.heap.size w wr) (fun i _ => N1 - (intOf i).toNat)
        case atStart => exact ⟨0, by omega, rfl, HTx107.out, HT2x107.out, HRW.out, HBx107.out⟩
        case round =>
          clear HTx107 HT2x107 HRW HBx107
          obtain ⟨k, hk, rfl, hta, htb, how, hbw⟩ := hrel
          obtain ⟨wo, hwo⟩ : ∃ wo, wo = wr := ⟨_, rfl⟩
          subst hwo
          have HTo := Lib.hid hta
          have HT2o := Lib.hid htb
          have HRo := Lib.hid how
          have HBo := Lib.hid hbw
          clear hta htb how hbw
          by_cases hlt : k < N1
          · obtain ⟨ad, hA, _, hcell⟩ := rd_u64 (Rd.own HRo.out) (k := k) (by rw [HLN.out]; exact hlt)
            subst hA
            obtain ⟨z, hz⟩ : ∃ z, z = LL.getD k 0 := ⟨_, rfl⟩
            rw [← hz] at hcell
            have k0 : (0 : Int) ≤ (k : Int) := by omega
            have k1 : (k : Int) < (N1 : Int) := by omega
            have ek : IntKind.i64.wrap ((k : Int) + 1) = ((k + 1 : Nat) : Int) := by rw [IntWalk.i64_in _ (by omega)]; omega
            clear hz
            go_wp2_with fail
            go_loopw [97] (fun i wr => ∃ j : Nat, j ≤ 3 ∧ i = .int .u64 j ∧ Tr litC wr g X F ∧ Tr litC wr g2 X F2 ∧ wr.ownsRow v7.heap.size 38 1 (.slice (some ad) N1 c8) N1 (iv64 LL) ∧ Below w.heap.size w wr) (fun i _ => 3 - (intOf i).toNat)
            case atStart => exact ⟨0, by omega, rfl, HTo.out, HT2o.out, HRo.out, HBo.out⟩
            case round =>
              clear HTo HT2o HRo HBo
              obtain ⟨j, hj, rfl, hta, htb, how, hbw⟩ := hrel
              have HTi := Lib.hid hta
              have HT2i := Lib.hid htb
              have HRi := Lib.hid how
              have HBi := Lib.hid hbw
              clear hta htb how hbw
              by_cases hj3 : j < 3
              · have j0 : (0 : Int) ≤ (j : Int) := by omega
                have j1 : (j : Int) < 3 := by omega
                obtain ⟨a, ha⟩ : ∃ a, a = (IntKind.u64.wrap (z + (j : Int))).tmod 131072 := ⟨_, rfl⟩
                have ha' := ha.symm
                obtain ⟨bb, hb⟩ : ∃ bb, bb = hasI X a := ⟨_, rfl⟩
                obtain ⟨kk, hkk⟩ : ∃ kk, kk = keyK litC X a := ⟨_, rfl⟩
                have hk3 : kk.length = 32 := by rw [hkk]; exact keyK_length (okS_len HXO.out) a
                have HK3 := Lib.hid hk3
                have HIK : Hid ((Try.prog.info? 43).map (·.size) = some (bva kk).size) := by rw [bva_size, hk3]; exact info_keyL
                have HBV := Lib.hid hb
                have HKK := Lib.hid hkk
                have heq : ∀ W, (Op.equalIn 10000 43 (.agg (bva kk)) (.agg (bva kk))).run Try.prog W = .ok true W := fun W => by rw [eq_key kk kk hk3 hk3 W, decide_eq_true rfl]
                have hbb : (bb == bb) = true := beq_self_eq_true bb
                have hbn : (bb != bb) = false := by rw [bne, hbb]; rfl
                have ej : IntKind.u64.wrap ((j : Int) + 1) = ((j + 1 : Nat) : Int) := by rw [IntWalk.u64_in _ (by omega)]; omega
                clear ha hb hkk hk3
                go_wp2_with fail
                refine (tkey_tr HTi.out a).mono ?_
                rintro e v1 ⟨rfl, bw⟩
                rw [keyV_form, ← HKK.out, ← HBV.out]
                have HTix101 := Lib.hid (HTi.out.below bw)
                have HT2ix101 := Lib.hid (HT2i.out.below bw)
                have HRix101 := Lib.hid (own_below HRi.out bw)
                have HBix101 := Lib.hid (HBi.out.trans (bw.mono HBi.out.size))
                clear bw HTi HT2i HRi HBi
                go_wp2_with (refine wpList_store_row rfl 43 (.tmp 19) (.tmp 107) rfl v1.heap.size (bva kk) rfl rfl 43 (bva zz) (heap_alloc_new _ _) HIK.out (by rw [bva_size, bva_size, HK3.out, ZZ3.out]) (bva_one _) ?_
                             generalize hwx : World.setRow _ _ _ = wx102
                             have EB : Below v1.heap.size v1 wx102 := by rw [← hwx]; exact below_setRow ((Below.refl _ _).alloc (Nat.le_refl _) _) (Nat.le_refl _) _
                             have KAxn102 := Lib.hid (show Blk wx102 v1.heap.size (bva kk) 43 by rw [← hwx]; exact setRow_heap _ _ _ _ _ _ (heap_alloc_new _ _))
                             have HTix103 := Lib.hid (HTix101.out.below EB)
                             have HT2ix103 := Lib.hid (HT2ix101.out.below EB)
                             have HRix103 := Lib.hid (own_below HRix101.out EB)
                             have HBix103 := Lib.hid (HBix101.out.trans (EB.mono HBix101.out.size))
                             clear hwx EB HTix101 HT2ix101 HRix101 HBix101)
                refine (tkey_tr HT2ix103.out a).mono ?_
                rintro e v2 ⟨rfl, bw⟩
                rw [keyV_form, ← HKK.out, ← HBV.out]
                have HTix104 := Lib.hid (HTix103.out.below bw)
                have HT2ix104 := Lib.hid (HT2ix103.out.below bw)
                have HRix104 := Lib.hid (own_below HRix103.out bw)
                have HBix104 := Lib.hid (HBix103.out.trans (bw.mono HBix103.out.size))
                have KAx104 := Lib.hid (KAxn102.out.below bw)
                clear bw HTix103 HT2ix103 HRix103 HBix103 KAxn102
                go_wp2_with (first
                  | (refine wpList_store_row rfl 43 (.tmp 21) (.tmp 116) rfl v2.heap.size (bva kk) rfl rfl 43 (bva zz) (heap_alloc_new _ _) HIK.out (by rw [bva_size, bva_size, HK3.out, ZZ3.out]) (bva_one _) ?_
                     generalize hwx : World.setRow _ _ _ = wx105
                     have EB : Below v2.heap.size v2 wx105 := by rw [← hwx]; exact below_setRow ((Below.refl _ _).alloc (Nat.le_refl _) _) (Nat.le_refl _) _
                     have KBxn105 := Lib.hid (show Blk wx105 v2.heap.size (bva kk) 43 by rw [← hwx]; exact setRow_heap _ _ _ _ _ _ (heap_alloc_new _ _))
                     have HTix106 := Lib.hid (HTix104.out.below EB)
                     have HT2ix106 := Lib.hid (HT2ix104.out.below EB)
                     have HRix106 := Lib.hid (own_below HRix104.out EB)
                     have HBix106 := Lib.hid (HBix104.out.trans (EB.mono HBix104.out.size))
                     have KAx106 := Lib.hid (KAx104.out.below EB)
                     clear hwx EB HTix104 HT2ix104 HRix104 HBix104 KAx104)
                  | (refine wpList_load_row rfl 43 (.tmp 19) rfl v1.heap.size rfl 43 (bva kk) (0, 0) _ KAx106.out Try.underlying43 rfl HIK.out ?_)
                  | (refine wpList_load_row rfl 43 (.tmp 21) rfl v2.heap.size rfl 43 (bva kk) (0, 0) _ KBxn105.out Try.underlying43 rfl HIK.out ?_))
                try simp only [Act.put, List.setIfInBounds_toArray, List.set_cons_zero, List.set_cons_succ]
                go_roundw
                case rel => exact ⟨j + 1, by omega, by go_num, HTix106.out, HT2ix106.out, HRix106.out, HBix106.out⟩
                case measure => simp [intOf]; omega
              · obtain rfl : j = 3 := by omega
                go_wp2_with fail
                go_roundw
                case rel => exact ⟨k + 1, by omega, by go_num, HTi.out, HT2i.out, HRi.out, HBi.out⟩
                case measure => simp [intOf]; omega
          · obtain rfl : k = N1 := by omega
            go_wp2_with fail
            refine (tcount_tr HTo.out).mono ?_
            rintro e v8 ⟨rfl, bw⟩
            have HT2p := Lib.hid (HT2o.out.below bw)
            have HBp := Lib.hid (HBo.out.trans (bw.mono HBo.out.size))
            clear bw HTo HT2o HBo HRo
            go_wp2_with fail
            refine (tcount_tr HT2p.out).mono ?_
            rintro e v9 ⟨rfl, bw⟩
            have HBq := Lib.hid (HBp.out.trans (bw.mono HBp.out.size))
            clear bw HT2p HBp
            generalize countL X = CX
            have hcx : (CX == CX) = true := beq_self_eq_true CX
            go_wp2_with fail
            go_ret
            exact ⟨rfl, HBq.out⟩
  · have hd : decide ((n : Int) > 12) = true := decide_eq_true (by omega)
    go_enter Try.func5, Try.ntmps5
    go_wp2_with fail
    refine (kcAwake_any _).mono ?_
    rintro e w1 ⟨rfl, bw⟩
    have CB := Lib.hid (BB.out.trans (bw.mono BB.out.size))
    clear bw B1 BB
    go_wp2_with fail
    go_ret
    exact ⟨rfl, CB.out⟩
theorem keycodeBack_own : ownKnob Try.prog.godebug = none := by kernel_rfl
theorem keycodeBack_laid : laidOutB Try.prog = true := by kernel_rfl

set_option maxRecDepth 100000 in
theorem keycodeBack_lifted (os : Os) (started : os.Started) (H : Type) (enc : TypeId × Value → H) :
    ReturnsInHanded {} Try.checked os 5 .any (Rows.keycodeBackSpec.pre6 enc Try.prog Try.f5 Rows.keycodeBackRow.domain false) (Rows.keycodeBackSpec.post enc Try.prog Try.f5 false true false false) := by
  refine returnsInHanded_of_change (C := Try.checked) keycodeBack_own started (by kernel_rfl) Try.func5
    (ChangeSpec.witness6 (enc := enc) (C := Try.checked) false ⟨#[], #[.agg #[.int .u8 0, .int .u8 0, .int .u8 0, .int .u8 0, .int .u8 0, .int .u8 0, .int .u8 0, .int .u8 0, .int .u8 0, .int .u8 0, .int .u8 0, .int .u8 0, .int .u8 0, .int .u8 0, .int .u8 0, .int .u8 0, .int .u8 0, .int .u8 0, .int .u8 0, .int .u8 0, .int .u8 0, .int .u8 0, .int .u8 0, .int .u8 0, .int .u8 0, .int .u8 0, .int .u8 0, .int .u8 0, .int .u8 0, .int .u8 0, .int .u8 0, .int .u8 0], .slice none 0 0, .int .u64 0], []⟩ 8 (by kernel_rfl) (by kernel_rfl) (by kernel_rfl) (by kernel_rfl)) ?_
  intro W base args ds gs before hval0 hW _ _
  have hval : ∀ (j : Nat) t v, Try.f5.params[j]? = some t → args[j]? = some v → Value.okWide Try.prog W .any base t v := hval0
  have hW' := hW
  obtain ⟨p, q, hA0, hV, rfl, hfz, hnd⟩ := hW
  have hA : DataW.TrodAll enc Try.prog W 0 (fun _ => true) true Try.f5.params.toList args.toList ds p := hA0
  rw [Try.params5] at hA hval
  obtain ⟨v0, vs0, d0, ds0, p0, q0, hargs, rfl, rfl, h0, r0⟩ := trodAll_cons hA
  obtain ⟨v1, vs1, d1, ds1, p1, q1, rfl, rfl, rfl, h1, r1⟩ := trodAll_cons r0
  obtain ⟨v2, vs2, d2, ds2, p2, q2, rfl, rfl, rfl, h2, r2⟩ := trodAll_cons r1
  obtain ⟨rfl, rfl, rfl⟩ := trodAll_nil r2
  obtain rfl : args = #[v0, v1, v2] := by cases args; simp_all
  obtain ⟨rfl, rfl⟩ := trodVars_none hV
  have lt0 : ∀ x ∈ p0, x.block < W.heap.size := by obtain ⟨m, hm⟩ := h0; exact DataW.trod_lt m _ _ _ hm
  obtain ⟨l0, hl0, rfl⟩ := open_u8s Try.underlying43 Try.underlying5 (by kernel_rfl) (by kernel_rfl) (hval 0 43 v0 rfl rfl) h0
  obtain ⟨a1, n1, c1, rfl⟩ := okWide_slice Try.underlying44 (hval 1 44 v1 rfl rfl)
  have lt1 : ∀ x ∈ p1, x.block < W.heap.size := by obtain ⟨m, hm⟩ := h1; exact DataW.trod_lt m _ _ _ hm
  obtain ⟨l1, hl1, hc1, hm1, hr1, hz1⟩ := open_u64s Try.underlying44 Try.underlying38 (by kernel_rfl) h1
  obtain ⟨a2, rfl, rfl, rfl, w2⟩ := open_int Try.underlying38 (hval 2 38 v2 rfl rfl) h2
  have b2 := bounds_u64 w2
  clear hA0 hval0
  refine (keycodeBack_any W l0 hl0 a1 n1 c1 l1 hl1 hc1 hm1 hr1 hz1 a2 b2).mono fun e W' ⟨he, bel⟩ => ?_
  subst he
  exact ⟨_, rfl, _, _, _, [], _, [], hW', trodAll_mk1 (shut_bool Try.underlying4 _), (trodAll_cons_mk (Below.trod keycodeBack_laid (by kernel_rfl) (of_decide_eq_true (by kernel_rfl)) h0 bel lt0) (trodAll_cons_mk (Below.trod keycodeBack_laid (by kernel_rfl) (of_decide_eq_true (by kernel_rfl)) h1 bel lt1) (trodAll_cons_mk (shut_int Try.underlying38 w2) trodAll_mk0))), rfl, bel.frame _, fun h => by cases h⟩

theorem keycodeBack_holds : Rows.KeycodeBackSaid :=
  OpenClaim.holds_of_wide 5 Try.f5 rfl rfl rfl rfl rfl rfl rfl ⟨rfl, rfl, rfl, rfl, rfl⟩ rfl rfl rfl rfl rfl (by kernel_rfl) Try.func5 (by kernel_rfl)
    (of_decide_eq_true (by kernel_rfl)) (by unfold Func.isWrapper; rw [if_neg (of_decide_eq_false (by kernel_rfl))]; exact ⟨rfl, rfl⟩)
    (fun os started H enc _ => keycodeBack_lifted os started H enc)

#print axioms keycodeBack_holds

end Go.Proofs.Ytippbjpodnnhiaa
