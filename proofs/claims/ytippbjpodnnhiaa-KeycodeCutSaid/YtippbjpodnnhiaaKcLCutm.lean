/-
  KeycodeCut holds: of nodes' bytes no shorter beginning is any nodes', nor are they with something behind.
-/
import Derived.Test.YtippbjpodnnhiaaMh1
import Derived.Test.YtippbjpodnnhiaaRows
import Derived.ProofKit
import Derived.OpenShut
import Derived.ShutString
import Derived.ChangeOld
namespace Go.Proofs.Ytippbjpodnnhiaa
open Go.RowKit Go.ChangeShapes Go.WideShapes Go.ChangeAt
open Kg Kc
attribute [local go_sem ↓] Go.wp_at_zero Go.wp_at_succ
set_option maxRecDepth 100000 in
set_option maxHeartbeats 6400000 in
theorem keycodeCut_any (w : World) (s : List UInt8) (hs : s.length = 32) (A : Option Addr) (n c : Nat) (l : List Int) (hl : l.length = n) (_hc : n ≤ c) (_hm : c ≤ maxLen) (hr : Rd w.heap.size w A (iv64 l)) (hz : ∀ z ∈ l, 0 ≤ z ∧ z ≤ 18446744073709551615) (cut : Int) (hcut : 0 ≤ cut ∧ cut ≤ 65535) (A' : Option Addr) (n' c' : Nat) (more : List UInt8) (hl' : more.length = n') (_hc' : n' ≤ c') (_hm' : c' ≤ maxLen) (hr' : Rd w.heap.size w A' (bv more)) :
    Calls Try.prog 6 #[.agg (bva s), .slice A n c, .int .u16 cut, .slice A' n' c'] w (RetB (.bool true) w) := by
  have HL := Lib.hid hl
  have HR := Lib.hid hr
  have HZ := Lib.hid hz
  clear hl hr hz _hc _hm
  have HS := Lib.hid hs
  have HK : Hid ((Try.prog.info? 43).map (·.size) = some (bva s).size) := by rw [bva_size, hs]; exact info_keyL
  have B1 := Lib.hid (show Blk (w.alloc (.cells (bva s) 43)) w.heap.size (bva s) 43 from heap_alloc_new _ _)
  have BB := Lib.hid (show Below w.heap.size w (w.alloc (.cells (bva s) 43)) from (Below.refl _ _).alloc (Nat.le_refl _) _)
  have HBL := Lib.hid (show ∀ W, (Instr.build 49 #[]).run Try.prog W = .ok (.agg zeroLit) W from fun _ => by kernel_rfl)
  clear hs
  have HL' := Lib.hid hl'
  have HR' := Lib.hid hr'
  have HCT := Lib.hid hcut
  clear hl' hr' _hc' _hm' hcut
  by_cases h100 : (n' : Int) > 100
  · have hd' : decide ((n' : Int) > 100) = true := decide_eq_true h100
    go_enter Try.func6, Try.ntmps6
    go_wp2_with fail
    refine (kcAwake_any _).mono ?_
    rintro e w1 ⟨rfl, bw⟩
    have CB := Lib.hid (BB.out.trans (bw.mono BB.out.size))
    clear bw B1 BB
    by_cases h12 : (n : Int) > 12
    · have hd : decide ((n : Int) > 12) = true := decide_eq_true h12
      go_wp2_with fail
      go_ret
      exact ⟨rfl, CB.out⟩
    · have hd : decide ((n : Int) > 12) = false := decide_eq_false h12
      go_wp2_with fail
      go_ret
      exact ⟨rfl, CB.out⟩
  have hd' : decide ((n' : Int) > 100) = false := decide_eq_false h100
  by_cases h24 : n ≤ 12
  · have hd : decide ((n : Int) > 12) = false := decide_eq_false (by omega)
    go_enter Try.func6, Try.ntmps6
    go_wp2_with fail
    refine (kcAwake_any _).mono ?_
    rintro e w1 ⟨rfl, bw⟩
    have C1 := Lib.hid (B1.out.below bw)
    have CB := Lib.hid (BB.out.trans (bw.mono BB.out.size))
    clear bw B1 BB
    obtain ⟨rt, hrt⟩ : ∃ rt : Nd, rt = ⟨0, 0, s⟩ := ⟨_, rfl⟩
    have HRT := Lib.hid hrt
    have HOK : Hid (okS 0 [rt]) := by rw [hrt]; exact okS_root HS.out
    obtain ⟨zz, hzz⟩ : ∃ zz : List UInt8, zz = List.replicate 32 0 := ⟨_, rfl⟩
    have hz23 : ∀ W, (zeroValue 43).run Try.prog W = .ok (.agg (bva zz)) W := fun _ => by rw [hzz]; kernel_rfl
    have ZZ3 : Hid (zz.length = 32) := by show _ = _; rw [hzz]; rfl
    obtain ⟨L, hL⟩ : ∃ L, L = l.map (· % 131072) := ⟨_, rfl⟩
    have HLV := Lib.hid hL
    have HLL := Lib.hid (show L.length = n by rw [hL, List.length_map, HL.out])
    clear hrt hzz hL
    go_wp2_with (first
      | (refine wpList_build rfl 49 #[] rfl (v := .agg zeroLit) ?hbld ?_; case hbld => exact HBL.out _)
      | (refine wpList_load_row rfl 43 (.tmp 4) rfl w.heap.size rfl 43 (bva s) (0, 0) _ C1.out Try.underlying43 rfl HK.out ?_))
    refine (new_any (ci := litC) s HS.out _).mono ?_
    rintro e w2 ⟨⟨g, F, rfl, ht, hF⟩, bw⟩
    rw [← HRT.out] at ht
    have HT := Lib.hid ht
    have HF := Lib.hid (show ∀ q, F q → w.heap.size ≤ q from fun q hq => Nat.le_trans CB.out.size (hF q hq))
    have HB := Lib.hid (CB.out.trans (bw.mono CB.out.size))
    clear ht hF bw C1 CB
    go_wp2_with fail
    go_loopw [11, 34] (fun _ i wr => ∃ k F, k ≤ n ∧ i = .int .i64 (k : Nat) ∧ Tr litC wr g (punAll litC [rt] (L.take k)) F ∧ Hid (∀ q, F q → w.heap.size ≤ q) ∧ Below w.heap.size w wr) (fun _ i _ => n - (intOf i).toNat)
    case atStart => exact ⟨0, F, by omega, rfl, HT.out, HF, HB.out⟩
    case round =>
      clear HT HF HB
      obtain ⟨k, F, hk, rfl, ht, HF, hbw⟩ := hrel
      have HT := Lib.hid ht
      have HB := Lib.hid hbw
      clear ht hbw
      by_cases hlt : k < n
      · have hkl : k < l.length := by rw [HL.out]; exact hlt
        have hkL : k < L.length := by rw [HLL.out]; exact hlt
        obtain ⟨ad, hA, hbl, _⟩ := rd_u64 HR.out hkl
        subst hA
        obtain ⟨m, hm⟩ : ∃ m, m = l.getD k 0 := ⟨_, rfl⟩
        have hcell : ∀ w', Below w.heap.size w w' → w'.cell? (ad.add k) = some (.int .u64 m) := fun w' hb' => by
          obtain ⟨ad', hA', _, hc⟩ := rd_u64 (HR.out.below hb') hkl
          injection hA' with hA'
          subst hA'
          rw [hm]; exact hc
        have hmb : 0 ≤ m ∧ m ≤ 18446744073709551615 := HZ.out m (by
          rw [hm, List.getD_eq_getElem?_getD, List.getElem?_eq_getElem hkl]; exact List.getElem_mem hkl)
        obtain ⟨p, hp⟩ : ∃ p, p = L.getD k 0 := ⟨_, rfl⟩
        have hpm : m % 131072 = p := by
          rw [hp, hm, List.getD_eq_getElem?_getD, List.getD_eq_getElem?_getD, HLV.out, List.getElem?_map, List.getElem?_eq_getElem hkl]; rfl
        have hpt : m.tmod 131072 = p := by rw [Int.tmod_eq_emod_of_nonneg hmb.1, hpm]
        have HCL := Lib.hid hcell
        have HMB := Lib.hid hmb
        have HPV := Lib.hid hp
        have HPM := Lib.hid hpm
        have m0 : 0 ≤ m := hmb.1
        have k0 : (0 : Int) ≤ (k : Int) := by omega
        have k1 : (k : Int) < (n : Int) := by omega
        clear hcell hmb hm hp hbl
        have cc := HCL.out _ HB.out
        go_wp2_with fail
        refine (tpuncture_any g _ F p _ HT.out).mono ?_
        rintro e w5 ⟨rfl, hp⟩
        obtain ⟨F5, ht5, hF5, hb5⟩ := pun_one hp HF.out HB.out.size
        rw [HPV.out, ← punAll_snoc _ _ hkL] at ht5
        have HT5 := Lib.hid ht5
        have HF5 := Lib.hid hF5
        have HB5 := Lib.hid (HB.out.trans hb5)
        have ek : IntKind.i64.wrap ((k : Int) + 1) = ((k + 1 : Nat) : Int) := by rw [IntWalk.i64_in _ (by omega)]; omega
        clear hp ht5 hF5 hb5 cc HT HB hpm hpt
        go_wp2_with fail
        go_roundw
        case rel => exact ⟨k + 1, F5, by omega, by go_num, HT5.out, HF5, HB5.out⟩
        case measure => simp [intOf]; omega
      · obtain rfl : n = k := by omega
        have hcan : punAll litC [rt] (L.take n) = canL litC 17 rt L := by rw [List.take_of_length_le (by rw [HLL.out]; exact Nat.le_refl _), HRT.out]; exact punAll_root HS.out L
        obtain ⟨X, hX⟩ : ∃ X, X = canL litC 17 rt L := ⟨_, rfl⟩
        have ht := HT.out
        rw [hcan, ← hX] at ht
        have HXV := Lib.hid hX
        have HT2 := Lib.hid ht
        have HXO := Lib.hid ht.ok
        have HXN := Lib.hid (show X.length ≤ 65535 by
          have h1 := length_can (ci := litC) 17 rt L (by rw [HRT.out]; exact (okS_root HS.out).1) (by rw [HRT.out]; rfl)
          have h2 : nIn rt L ≤ n := by rw [← HLL.out]; exact List.length_filter_le _ _
          rw [← hX] at h1; omega)
        clear HT ht hcan hX
        have HT := HT2
        clear HT2
        clear HOK hz23 ZZ3
        go_wp2_with fail
        refine (theld_tr HT.out).mono ?_
        rintro e v1 ⟨A1, nA1, cA1, rfl, ho, bw⟩
        have HNA1 := Lib.hid (show X.length = nA1 by have h1 := ho.1; rw [nvs_length (okS_len HXO.out)] at h1; omega)
        have O1 := Lib.hid ho
        have HTx101 := Lib.hid (HT.out.below bw)
        have HBx101 := Lib.hid (HB.out.trans (bw.mono HB.out.size))
        clear bw ho HT HB
        go_wp2_with fail
        refine (kenc_any A1 nA1 cA1 X _ HNA1.out (okS_len HXO.out) (fun y hy => (okS_mem HXO.out y hy).1.2.2.1) (Nat.le_refl _) (Rd.ownN O1.out) (by have h1 := HXN.out; have h2 := HNA1.out; omega)).mono ?_
        rintro e v2 ⟨bw, ⟨_, Y1, mY1, cY1, rfl, ho⟩ | ⟨hno, _⟩ | ⟨⟨_, hno⟩, _⟩⟩
        rotate_left
        · exact absurd HXO.out hno
        · exact absurd hno (by have h1 := HXN.out; omega)
        have hm := own_blen ho
        have HMY1 := Lib.hid (show mY1 = 2 + 36 * X.length by rw [← hm]; exact encB_length (okS_len HXO.out))
        have HCY1 := Lib.hid (cap_own ho)
        have E1 := Lib.hid ho
        have HBx102 := Lib.hid (HBx101.out.trans (bw.mono HBx101.out.size))
        have O1x102 := Lib.hid (own_belowN O1.out bw)
        clear bw ho hm HBx101 O1
        obtain ⟨b, hb⟩ : ∃ b, b = encB X := ⟨_, rfl⟩
        have HOY := Lib.hid (show okY b by rw [hb]; exact okY_encB HXO.out HXN.out)
        have HBL2 := Lib.hid (show b.length = mY1 by rw [hb]; exact own_blen E1.out)
        have E2 := Lib.hid (show v2.ownsRow _ 5 1 (.slice Y1 mY1 cY1) mY1 (bv b) by rw [hb]; exact E1.out)
        have HDB := Lib.hid (show decN (manyY b) (b.drop 2) = X by rw [hb]; exact (dec_encB HXO.out HXN.out).2)
        have hm2 : ¬ (mY1 : Int) < 2 := by have := HMY1.out; omega
        clear hb E1
        obtain ⟨j, hj⟩ : ∃ j : Nat, (j : Int) = cut % (mY1 : Int) := ⟨(cut % (mY1 : Int)).toNat, Int.toNat_of_nonneg (Int.emod_nonneg _ (by omega))⟩
        have hjm : (j : Int) < (mY1 : Int) := by rw [hj]; exact Int.emod_lt_of_pos _ (by omega)
        have hct := HCT.out
        have e1 : IntKind.i64.wrap cut = cut := IntWalk.i64_in _ (by omega)
        have e2 : wrap64 cut = cut := IntWalk.wrap64_in _ (by omega)
        have e3 : cut.tmod (mY1 : Int) = (j : Int) := by rw [Int.tmod_eq_emod_of_nonneg hct.1, hj]
        have e4 : cut % (mY1 : Int) = (j : Int) := hj.symm
        have j0 : (0 : Int) ≤ (j : Int) := by omega
        have hjc : j ≤ cY1 := by have := HCY1.out; omega
        have hjc2 : (j : Int) ≤ (cY1 : Int) := by omega
        have HJL := Lib.hid (show j < b.length by rw [HBL2.out]; omega)
        have hfew : mY1 ≤ 2400000 := by have h1 := HMY1.out; have h2 := HXN.out; omega
        clear hj hjm hct
        go_wp2_with fail
        refine (kdec_any Y1 j cY1 (b.take j) _ (by rw [List.length_take]; have := HJL.out; omega) hjc (Nat.le_refl _) (rd_take (Rd.own E2.out) j) (by have h1 := HJL.out; have h2 := HBL2.out; omega)).mono ?_
        rintro e v3 ⟨bw, ⟨hy, _⟩ | ⟨_, rfl⟩⟩
        · exact absurd hy (not_cut HOY.out HJL.out)
        have HBx103 := Lib.hid (HBx102.out.trans (bw.mono HBx102.out.size))
        have E2x103 := Lib.hid (own_below E2.out bw)
        clear bw HBx102 E2
        have o0 := World.ownsRow_lit (base := w.heap.size) (size := 1) (e := 5) v3 #[] 0 HBx103.out.size (Nat.zero_le _) rfl
        have O0 := Lib.hid o0
        have BA := Lib.hid (show Below w.heap.size w (v3.alloc (.cells #[] 5)) from HBx103.out.alloc HBx103.out.size _)
        have RB := Lib.hid (show Rd v3.heap.size (v3.alloc (.cells #[] 5)) (Y1) (bv b) from (Rd.own E2x103.out).below ((Below.refl _ v3).alloc (Nat.le_refl _) _))
        have hs3 : w.heap.size ≤ v3.heap.size := HBx103.out.size
        have hn100 : n' ≤ 100 := by omega
        clear o0 e1 e2 e3 e4 E2x103 HBx103
        go_wp2_with (first
          | (at_builtin
             refine wpList_app _ rfl (.tmp 68) (.tmp 69) _ rfl Wi.bytesElt (base := w.heap.size) (v := .slice (some ⟨v3.heap.size, 0, none⟩) 0 0) rfl O0.out (m := mY1) rfl RB.out (by rw [bv_length, HBL2.out]) (bv_one _) ?_ ?_ ?_
             · omega
             · exact BA.out.size
             intro A5 c5 w5 ho5 hg5 _
             have hb5 := app_below BA.out O0.out hg5 (Nat.le_refl _) BA.out.size
             rw [Nat.zero_add, List.nil_append] at ho5
             rw [Nat.zero_add]
             have O5 := Lib.hid ho5
             have B5 := Lib.hid hb5
             clear ho5 hg5 hb5 O0 BA RB)
          | (at_builtin
             refine wpList_app _ rfl (.tmp 70) (.tmp 71) _ rfl Wi.bytesElt (base := w.heap.size) (v := .slice A5 mY1 c5) rfl O5.out (m := n') rfl (HR'.out.below B5.out) (by rw [bv_length, HL'.out]) (bv_one _) ?_ ?_ ?_
             · omega
             · exact B5.out.size
             intro A6 c6 w6 ho6 hg6 _
             have hb6 := app_below B5.out O5.out hg6 (Nat.le_refl _) B5.out.size
             rw [← bv_append] at ho6
             have O6 := Lib.hid ho6
             have B6 := Lib.hid hb6
             clear ho6 hg6 hb6 O5 B5))
        refine (kdec_any A6 (mY1 + n') c6 (b ++ more) _ (by rw [List.length_append, HBL2.out, HL'.out]) (cap_own O6.out).1 (Nat.le_refl _) (Rd.own O6.out) (by omega)).mono ?_
        rintro e v7 ⟨bw, hk⟩
        have B7 := Lib.hid (B6.out.trans (bw.mono B6.out.size))
        by_cases hmo : n' = 0
        · have hgt : decide ((n' : Int) > 0) = false := decide_eq_false (by omega)
          have hgt2 : decide (0 < n') = false := decide_eq_false (by omega)
          have hme : more = [] := List.eq_nil_of_length_eq_zero (by rw [HL'.out]; exact hmo)
          rw [hme, List.append_nil] at hk
          rcases hk with ⟨_, A8, m8, c8, rfl, _⟩ | ⟨hno, _⟩
          · clear bw hmo hme O6 B6
            go_wp2_with fail
            go_ret
            exact ⟨rfl, B7.out⟩
          · exact absurd HOY.out hno
        · have hgt : decide ((n' : Int) > 0) = true := decide_eq_true (by omega)
          have hgt2 : decide (0 < n') = true := decide_eq_true (by omega)
          rcases hk with ⟨hy, _⟩ | ⟨_, rfl⟩
          · exact absurd hy (not_more HOY.out (by rw [HL'.out]; omega))
          · clear bw hmo O6 B6
            go_wp2_with fail
            go_ret
            exact ⟨rfl, B7.out⟩
  · have hd : decide ((n : Int) > 12) = true := decide_eq_true (by omega)
    go_enter Try.func6, Try.ntmps6
    go_wp2_with fail
    refine (kcAwake_any _).mono ?_
    rintro e w1 ⟨rfl, bw⟩
    have CB := Lib.hid (BB.out.trans (bw.mono BB.out.size))
    clear bw B1 BB
    go_wp2_with fail
    go_ret
    exact ⟨rfl, CB.out⟩
theorem keycodeCut_own : ownKnob Try.prog.godebug = none := by kernel_rfl
theorem keycodeCut_laid : laidOutB Try.prog = true := by kernel_rfl

set_option maxRecDepth 100000 in
theorem keycodeCut_lifted (os : Os) (started : os.Started) (H : Type) (enc : TypeId × Value → H) :
    ReturnsInHanded {} Try.checked os 6 .any (Rows.keycodeCutSpec.pre6 enc Try.prog Try.f6 Rows.keycodeCutRow.domain false) (Rows.keycodeCutSpec.post enc Try.prog Try.f6 false true false false) := by
  refine returnsInHanded_of_change (C := Try.checked) keycodeCut_own started (by kernel_rfl) Try.func6
    (ChangeSpec.witness6 (enc := enc) (C := Try.checked) false ⟨#[], #[.agg #[.int .u8 0, .int .u8 0, .int .u8 0, .int .u8 0, .int .u8 0, .int .u8 0, .int .u8 0, .int .u8 0, .int .u8 0, .int .u8 0, .int .u8 0, .int .u8 0, .int .u8 0, .int .u8 0, .int .u8 0, .int .u8 0, .int .u8 0, .int .u8 0, .int .u8 0, .int .u8 0, .int .u8 0, .int .u8 0, .int .u8 0, .int .u8 0, .int .u8 0, .int .u8 0, .int .u8 0, .int .u8 0, .int .u8 0, .int .u8 0, .int .u8 0, .int .u8 0], .slice none 0 0, .int .u16 0, .slice none 0 0], []⟩ 8 (by kernel_rfl) (by kernel_rfl) (by kernel_rfl) (by kernel_rfl)) ?_
  intro W base args ds gs before hval0 hW _ _
  have hval : ∀ (j : Nat) t v, Try.f6.params[j]? = some t → args[j]? = some v → Value.okWide Try.prog W .any base t v := hval0
  have hW' := hW
  obtain ⟨p, q, hA0, hV, rfl, hfz, hnd⟩ := hW
  have hA : DataW.TrodAll enc Try.prog W 0 (fun _ => true) true Try.f6.params.toList args.toList ds p := hA0
  rw [Try.params6] at hA hval
  obtain ⟨v0, vs0, d0, ds0, p0, q0, hargs, rfl, rfl, h0, r0⟩ := trodAll_cons hA
  obtain ⟨v1, vs1, d1, ds1, p1, q1, rfl, rfl, rfl, h1, r1⟩ := trodAll_cons r0
  obtain ⟨v2, vs2, d2, ds2, p2, q2, rfl, rfl, rfl, h2, r2⟩ := trodAll_cons r1
  obtain ⟨v3, vs3, d3, ds3, p3, q3, rfl, rfl, rfl, h3, r3⟩ := trodAll_cons r2
  obtain ⟨rfl, rfl, rfl⟩ := trodAll_nil r3
  obtain rfl : args = #[v0, v1, v2, v3] := by cases args; simp_all
  obtain ⟨rfl, rfl⟩ := trodVars_none hV
  have lt0 : ∀ x ∈ p0, x.block < W.heap.size := by obtain ⟨m, hm⟩ := h0; exact DataW.trod_lt m _ _ _ hm
  obtain ⟨l0, hl0, rfl⟩ := open_u8s Try.underlying43 Try.underlying5 (by kernel_rfl) (by kernel_rfl) (hval 0 43 v0 rfl rfl) h0
  obtain ⟨a1, n1, c1, rfl⟩ := okWide_slice Try.underlying44 (hval 1 44 v1 rfl rfl)
  have lt1 : ∀ x ∈ p1, x.block < W.heap.size := by obtain ⟨m, hm⟩ := h1; exact DataW.trod_lt m _ _ _ hm
  obtain ⟨l1, hl1, hc1, hm1, hr1, hz1⟩ := open_u64s Try.underlying44 Try.underlying38 (by kernel_rfl) h1
  obtain ⟨a2, rfl, rfl, rfl, w2⟩ := open_int Try.underlying58 (hval 2 58 v2 rfl rfl) h2
  have b2 := bounds_u16 w2
  obtain ⟨a3, n3, c3, rfl⟩ := okWide_slice Try.underlying24 (hval 3 24 v3 rfl rfl)
  have lt3 : ∀ x ∈ p3, x.block < W.heap.size := by obtain ⟨m, hm⟩ := h3; exact DataW.trod_lt m _ _ _ hm
  obtain ⟨l3, hl3, hc3, hm3, hr3⟩ := open_bytes Try.underlying24 Try.underlying5 (by kernel_rfl) h3
  clear hA0 hval0
  refine (keycodeCut_any W l0 hl0 a1 n1 c1 l1 hl1 hc1 hm1 hr1 hz1 a2 b2 a3 n3 c3 l3 hl3 hc3 hm3 hr3).mono fun e W' ⟨he, bel⟩ => ?_
  subst he
  exact ⟨_, rfl, _, _, _, [], _, [], hW', trodAll_mk1 (shut_bool Try.underlying4 _), (trodAll_cons_mk (Below.trod keycodeCut_laid (by kernel_rfl) (of_decide_eq_true (by kernel_rfl)) h0 bel lt0) (trodAll_cons_mk (Below.trod keycodeCut_laid (by kernel_rfl) (of_decide_eq_true (by kernel_rfl)) h1 bel lt1) (trodAll_cons_mk (shut_int Try.underlying58 w2) (trodAll_cons_mk (Below.trod keycodeCut_laid (by kernel_rfl) (of_decide_eq_true (by kernel_rfl)) h3 bel lt3) trodAll_mk0)))), rfl, bel.frame _, fun h => by cases h⟩

theorem keycodeCut_holds : Rows.KeycodeCutSaid :=
  OpenClaim.holds_of_wide 6 Try.f6 rfl rfl rfl rfl rfl rfl rfl ⟨rfl, rfl, rfl, rfl, rfl⟩ rfl rfl rfl rfl rfl (by kernel_rfl) Try.func6 (by kernel_rfl)
    (of_decide_eq_true (by kernel_rfl)) (by unfold Func.isWrapper; rw [if_neg (of_decide_eq_false (by kernel_rfl))]; exact ⟨rfl, rfl⟩)
    (fun os started H enc _ => keycodeCut_lifted os started H enc)

#print axioms keycodeCut_holds

end Go.Proofs.Ytippbjpodnnhiaa
