/-
  KeycodeOrder holds: nodes that stand in another order, or twice, may not be held.
-/
import Derived.Test.YtippbjpodnnhiaaMj1
import Derived.Test.YtippbjpodnnhiaaRows
import Derived.ProofKit
import Derived.OpenShut
import Derived.ShutString
import Derived.ChangeOld
namespace Go.Proofs.Ytippbjpodnnhiaa
open Go.RowKit Go.ChangeShapes Go.WideShapes Go.ChangeAt
open Kg Kc
attribute [local go_sem ↓] Go.wp_at_zero Go.wp_at_succ
set_option maxRecDepth 100000 in
set_option maxHeartbeats 6400000 in
theorem keycodeOrder_any (w : World) (s : List UInt8) (hs : s.length = 32) (A : Option Addr) (n c : Nat) (l : List Int) (hl : l.length = n) (_hc : n ≤ c) (_hm : c ≤ maxLen) (hr : Rd w.heap.size w A (iv64 l)) (hz : ∀ z ∈ l, 0 ≤ z ∧ z ≤ 18446744073709551615) (i : Int) (hib : 0 ≤ i ∧ i ≤ 255) :
    Calls Try.prog 8 #[.agg (bva s), .slice A n c, .int .u8 i] w (RetB (.bool true) w) := by
  have HL := Lib.hid hl
  have HR := Lib.hid hr
  have HZ := Lib.hid hz
  clear hl hr hz _hc _hm
  have HS := Lib.hid hs
  have HK : Hid ((Try.prog.info? 43).map (·.size) = some (bva s).size) := by rw [bva_size, hs]; exact info_keyL
  have B1 := Lib.hid (show Blk (w.alloc (.cells (bva s) 43)) w.heap.size (bva s) 43 from heap_alloc_new _ _)
  have BB := Lib.hid (show Below w.heap.size w (w.alloc (.cells (bva s) 43)) from (Below.refl _ _).alloc (Nat.le_refl _) _)
  have HBL := Lib.hid (show ∀ W, (Instr.build 49 #[]).run Try.prog W = .ok (.agg zeroLit) W from fun _ => by kernel_rfl)
  clear hs
  have HIB := Lib.hid hib
  clear hib
  by_cases h24 : n ≤ 12
  · have hd : decide ((n : Int) > 12) = false := decide_eq_false (by omega)
    go_enter Try.func8, Try.ntmps8
    go_wp2_with fail
    refine (kcAwake_any _).mono ?_
    rintro e w1 ⟨rfl, bw⟩
    have C1 := Lib.hid (B1.out.below bw)
    have CB := Lib.hid (BB.out.trans (bw.mono BB.out.size))
    clear bw B1 BB
    obtain ⟨rt, hrt⟩ : ∃ rt : Nd, rt = ⟨0, 0, s⟩ := ⟨_, rfl⟩
    have HRT := Lib.hid hrt
    have HOK : Hid (okS 0 [rt]) := by rw [hrt]; exact okS_root HS.out
    obtain ⟨zz, hzz⟩ : ∃ zz : List UInt8, zz = List.replicate 32 0 := ⟨_, rfl⟩
    have hz23 : ∀ W, (zeroValue 43).run Try.prog W = .ok (.agg (bva zz)) W := fun _ => by rw [hzz]; kernel_rfl
    have ZZ3 : Hid (zz.length = 32) := by show _ = _; rw [hzz]; rfl
    obtain ⟨L, hL⟩ : ∃ L, L = l.map (· % 131072) := ⟨_, rfl⟩
    have HLV := Lib.hid hL
    have HLL := Lib.hid (show L.length = n by rw [hL, List.length_map, HL.out])
    clear hrt hzz hL
    go_wp2_with (first
      | (refine wpList_build rfl 49 #[] rfl (v := .agg zeroLit) ?hbld ?_; case hbld => exact HBL.out _)
      | (refine wpList_load_row rfl 43 (.tmp 3) rfl w.heap.size rfl 43 (bva s) (0, 0) _ C1.out Try.underlying43 rfl HK.out ?_))
    refine (new_any (ci := litC) s HS.out _).mono ?_
    rintro e w2 ⟨⟨g, F, rfl, ht, hF⟩, bw⟩
    rw [← HRT.out] at ht
    have HT := Lib.hid ht
    have HF := Lib.hid (show ∀ q, F q → w.heap.size ≤ q from fun q hq => Nat.le_trans CB.out.size (hF q hq))
    have HB := Lib.hid (CB.out.trans (bw.mono CB.out.size))
    clear ht hF bw C1 CB
    go_wp2_with fail
    go_loopw [9, 28] (fun _ i wr => ∃ k F, k ≤ n ∧ i = .int .i64 (k : Nat) ∧ Tr litC wr g (punAll litC [rt] (L.take k)) F ∧ Hid (∀ q, F q → w.heap.size ≤ q) ∧ Below w.heap.size w wr) (fun _ i _ => n - (intOf i).toNat)
    case atStart => exact ⟨0, F, by omega, rfl, HT.out, HF, HB.out⟩
    case round =>
      clear HT HF HB
      obtain ⟨k, F, hk, rfl, ht, HF, hbw⟩ := hrel
      have HT := Lib.hid ht
      have HB := Lib.hid hbw
      clear ht hbw
      by_cases hlt : k < n
      · have hkl : k < l.length := by rw [HL.out]; exact hlt
        have hkL : k < L.length := by rw [HLL.out]; exact hlt
        obtain ⟨ad, hA, hbl, _⟩ := rd_u64 HR.out hkl
        subst hA
        obtain ⟨m, hm⟩ : ∃ m, m = l.getD k 0 := ⟨_, rfl⟩
        have hcell : ∀ w', Below w.heap.size w w' → w'.cell? (ad.add k) = some (.int .u64 m) := fun w' hb' => by
          obtain ⟨ad', hA', _, hc⟩ := rd_u64 (HR.out.below hb') hkl
          injection hA' with hA'
          subst hA'
          rw [hm]; exact hc
        have hmb : 0 ≤ m ∧ m ≤ 18446744073709551615 := HZ.out m (by
          rw [hm, List.getD_eq_getElem?_getD, List.getElem?_eq_getElem hkl]; exact List.getElem_mem hkl)
        obtain ⟨p, hp⟩ : ∃ p, p = L.getD k 0 := ⟨_, rfl⟩
        have hpm : m % 131072 = p := by
          rw [hp, hm, List.getD_eq_getElem?_getD, List.getD_eq_getElem?_getD, HLV.out, List.getElem?_map, List.getElem?_eq_getElem hkl]; rfl
        have hpt : m.tmod 131072 = p := by rw [Int.tmod_eq_emod_of_nonneg hmb.1, hpm]
        have HCL := Lib.hid hcell
        have HMB := Lib.hid hmb
        have HPV := Lib.hid hp
        have HPM := Lib.hid hpm
        have m0 : 0 ≤ m := hmb.1
        have k0 : (0 : Int) ≤ (k : Int) := by omega
        have k1 : (k : Int) < (n : Int) := by omega
        clear hcell hmb hm hp hbl
        have cc := HCL.out _ HB.out
        go_wp2_with fail
        refine (tpuncture_any g _ F p _ HT.out).mono ?_
        rintro e w5 ⟨rfl, hp⟩
        obtain ⟨F5, ht5, hF5, hb5⟩ := pun_one hp HF.out HB.out.size
        rw [HPV.out, ← punAll_snoc _ _ hkL] at ht5
        have HT5 := Lib.hid ht5
        have HF5 := Lib.hid hF5
        have HB5 := Lib.hid (HB.out.trans hb5)
        have ek : IntKind.i64.wrap ((k : Int) + 1) = ((k + 1 : Nat) : Int) := by rw [IntWalk.i64_in _ (by omega)]; omega
        clear hp ht5 hF5 hb5 cc HT HB hpm hpt
        go_wp2_with fail
        go_roundw
        case rel => exact ⟨k + 1, F5, by omega, by go_num, HT5.out, HF5, HB5.out⟩
        case measure => simp [intOf]; omega
      · obtain rfl : n = k := by omega
        have hcan : punAll litC [rt] (L.take n) = canL litC 17 rt L := by rw [List.take_of_length_le (by rw [HLL.out]; exact Nat.le_refl _), HRT.out]; exact punAll_root HS.out L
        obtain ⟨X, hX⟩ : ∃ X, X = canL litC 17 rt L := ⟨_, rfl⟩
        have ht := HT.out
        rw [hcan, ← hX] at ht
        have HXV := Lib.hid hX
        have HT2 := Lib.hid ht
        have HXO := Lib.hid ht.ok
        have HXN := Lib.hid (show X.length ≤ 65535 by
          have h1 := length_can (ci := litC) 17 rt L (by rw [HRT.out]; exact (okS_root HS.out).1) (by rw [HRT.out]; rfl)
          have h2 : nIn rt L ≤ n := by rw [← HLL.out]; exact List.length_filter_le _ _
          rw [← hX] at h1; omega)
        clear HT ht hcan hX
        have HT := HT2
        clear HT2
        clear HOK hz23 ZZ3
        go_wp2_with fail
        have HWB := Lib.hid (show w.heap.size ≤ wr.heap.size from HB.out.size)
        refine (theld_tr HT.out).mono ?_
        rintro e v1 ⟨A1, nA1, cA1, rfl, ho, bw⟩
        have HNA1 := Lib.hid (show X.length = nA1 by have h1 := ho.1; rw [nvs_length (okS_len HXO.out)] at h1; omega)
        have O1 := Lib.hid ho
        have HTx101 := Lib.hid (HT.out.below bw)
        have HBx101 := Lib.hid (HB.out.trans (bw.mono HB.out.size))
        clear bw ho HT HB
        by_cases hx2 : (nA1 : Int) < 2
        · have h2 : decide ((nA1 : Int) < 2) = true := decide_eq_true hx2
          go_wp2_with fail
          go_ret
          exact ⟨rfl, HBx101.out⟩
        have h2 : decide ((nA1 : Int) < 2) = false := decide_eq_false hx2
        have hn2 : 2 ≤ nA1 := by omega
        have hn6 : nA1 ≤ 65535 := by have h1 := HXN.out; have h2 := HNA1.out; omega
        obtain ⟨k, hk⟩ : ∃ k : Nat, (k : Int) = i % ((nA1 : Int) - 1) := ⟨(i % ((nA1 : Int) - 1)).toNat, Int.toNat_of_nonneg (Int.emod_nonneg _ (by omega))⟩
        have hkm : (k : Int) < (nA1 : Int) - 1 := by rw [hk]; exact Int.emod_lt_of_pos _ (by omega)
        have hi := HIB.out
        have e1 : IntKind.i64.wrap i = i := IntWalk.i64_in _ (by omega)
        have e2 : IntKind.i64.wrap ((nA1 : Int) - 1) = (nA1 : Int) - 1 := IntWalk.i64_in _ (by omega)
        have e3 : i.tmod ((nA1 : Int) - 1) = (k : Int) := by rw [Int.tmod_eq_emod_of_nonneg hi.1, hk]
        have e4 : i % ((nA1 : Int) - 1) = (k : Int) := hk.symm
        have hz1 : ¬ (nA1 : Int) - 1 = 0 := by omega
        have hk1 : k + 1 < nA1 := by omega
        have HCA := Lib.hid (own_capN O1.out)
        obtain ⟨h, hA⟩ : ∃ h, A1 = some ⟨h, 0, none⟩ := by
          rcases own_addrN O1.out with ⟨_, h0, _⟩ | h0
          · omega
          · exact h0
        subst hA
        have hca := HCA.out
        have hh1 : h < v1.heap.size := (own_loN O1.out h rfl).2
        have hh2 : w.heap.size ≤ h := Nat.le_trans HWB.out (own_loN O1.out h rfl).1
        have ek : IntKind.i64.wrap ((k : Int) + 1) = (k : Int) + 1 := IntWalk.i64_in _ (by omega)
        have k0 : (0 : Int) ≤ (k : Int) := by omega
        have k01 : (0 : Int) ≤ (k : Int) + 1 := by omega
        have k1 : (k : Int) + 1 ≤ (cA1 : Int) := by omega
        have k2 : (k : Int) ≤ (nA1 : Int) := by omega
        have k3 : ((k : Int) + 1).toNat = k + 1 := by omega
        have k4 : (k : Int) < (nA1 : Int) := by omega
        have k5 : (k : Int) + 1 < (nA1 : Int) := by omega
        have hck : ¬ cA1 = k := by omega
        clear hk hkm hi hca
        go_wp2_with fail
        refine wp_region_any (by kernel_rfl) ?_
        change wpAny _ _ _ _ _ _ _ (World.drew _)
        refine wpAny_take (i := 1) (v := ?a1) rfl (by kernel_rfl) (by kernel_rfl) (by kernel_rfl) (fun _ _ _ h => h) (Or.inl ⟨by rfl, ?ya1⟩) ?_
        case ya1 => (intro w'; go_simp; try with_reducible rfl)
        try simp only [List.getElem_toArray, List.getElem_cons_succ, List.getElem_cons_zero, Act.put, List.setIfInBounds_toArray, List.set_cons_zero, List.set_cons_succ]
        refine wpAny_take (i := 2) (v := ?a2) rfl (by kernel_rfl) (by kernel_rfl) (by kernel_rfl) (fun _ _ _ h => h) (Or.inl ⟨by rfl, ?ya2⟩) ?_
        case ya2 => (intro w'; go_simp; try with_reducible rfl)
        try simp only [List.getElem_toArray, List.getElem_cons_succ, List.getElem_cons_zero, Act.put, List.setIfInBounds_toArray, List.set_cons_zero, List.set_cons_succ]
        refine wpAny_take (i := 3) (v := ?a3) rfl (by kernel_rfl) (by kernel_rfl) (by kernel_rfl) (fun _ _ _ h => h) (Or.inl ⟨by rfl, ?ya3⟩) ?_
        case ya3 => (intro w'; go_simp; try with_reducible rfl)
        try simp only [List.getElem_toArray, List.getElem_cons_succ, List.getElem_cons_zero, Act.put, List.setIfInBounds_toArray, List.set_cons_zero, List.set_cons_succ]
        refine wpAny_take (i := 4) (v := ?a4) rfl (by kernel_rfl) (by kernel_rfl) (by kernel_rfl) (fun _ _ _ h => h) (Or.inl ⟨by rfl, ?ya4⟩) ?_
        case ya4 => (intro w'; go_simp; try with_reducible rfl)
        try simp only [List.getElem_toArray, List.getElem_cons_succ, List.getElem_cons_zero, Act.put, List.setIfInBounds_toArray, List.set_cons_zero, List.set_cons_succ]
        refine wpAny_take (i := 6) (v := ?a6) rfl (by kernel_rfl) (by kernel_rfl) (by kernel_rfl) (fun _ _ _ h => h) (Or.inl ⟨by rfl, ?ya6⟩) ?_
        case ya6 => (intro w'; go_simp; try with_reducible rfl)
        try simp only [List.getElem_toArray, List.getElem_cons_succ, List.getElem_cons_zero, Act.put, List.setIfInBounds_toArray, List.set_cons_zero, List.set_cons_succ]
        refine wpAny_take (i := 7) (v := ?a7) rfl (by kernel_rfl) (by kernel_rfl) (by kernel_rfl) (fun _ _ _ h => h) (Or.inl ⟨by rfl, ?ya7⟩) ?_
        case ya7 => (intro w'; go_simp; try with_reducible rfl)
        try simp only [List.getElem_toArray, List.getElem_cons_succ, List.getElem_cons_zero, Act.put, List.setIfInBounds_toArray, List.set_cons_zero, List.set_cons_succ]
        refine wpAny_take (i := 8) (v := ?a8) rfl (by kernel_rfl) (by kernel_rfl) (by kernel_rfl) (fun _ _ _ h => h) (Or.inl ⟨by rfl, ?ya8⟩) ?_
        case ya8 => (intro w'; go_simp; try with_reducible rfl)
        try simp only [List.getElem_toArray, List.getElem_cons_succ, List.getElem_cons_zero, Act.put, List.setIfInBounds_toArray, List.set_cons_zero, List.set_cons_succ]
        try simp only [List.getElem_toArray, List.getElem_cons_succ, List.getElem_cons_zero, Act.put, List.setIfInBounds_toArray, List.set_cons_zero, List.set_cons_succ]
        refine wpAny_ready (rs := [0]) (by kernel_rfl) (by simp) (AllReady.cons rfl (fun K hK => ?_) AllReady.nil)
        go_simp
        have O0 := Lib.hid (World.ownsRow_lit (base := v1.heap.size) (size := 34) (e := 61) v1.drew #[] 0 (Nat.le_refl _) (Nat.zero_le _) rfl)
        have BA := Lib.hid (show Below v1.heap.size v1 (v1.drew.alloc (.cells #[] 61)) from (Below.refl _ v1).drew.alloc (Nat.le_refl _) _)
        have RX := Lib.hid (Rd.ownN O1.out)
        have hsz : v1.drew.heap.size = v1.heap.size := rfl
        rw [hsz] at O0
        refine hK _ _ ?_
        clear hK K hsz
        try simp only [List.getElem_toArray, List.getElem_cons_succ, List.getElem_cons_zero, Act.put, List.setIfInBounds_toArray, List.set_cons_zero, List.set_cons_succ]
        refine wpAny_ready (rs := [5]) (by kernel_rfl) (by simp) (AllReady.cons rfl (fun K hK => ?_) AllReady.nil)
        refine step_appN _ rfl (.tmp 48) (.tmp 52) 22 rfl heldsElt (base := v1.heap.size) (v := .slice (some ⟨v1.heap.size, 0, none⟩) 0 0) rfl O0.out (m := k + 1) rfl (rdn_take (okS_len HXO.out) (RX.out.below BA.out) (k + 1)) (by rw [nvs_length (fun y hy => okS_len HXO.out y (List.mem_of_mem_take hy)), List.length_take, HNA1.out]; congr 1; omega) (nvs_one _) (by omega) BA.out.size ?_
        intro A6 c6 v6 ho6 hg6 _
        have hb6 := app_belowN BA.out O0.out hg6 (Nat.le_refl _) BA.out.size
        rw [List.nil_append] at ho6
        have O6 := Lib.hid ho6
        have B6 := Lib.hid hb6
        refine hK _ _ ?_
        clear hK K ho6 hg6 hb6 O0 BA
        try simp only [List.getElem_toArray, List.getElem_cons_succ, List.getElem_cons_zero, Act.put, List.setIfInBounds_toArray, List.set_cons_zero, List.set_cons_succ]
        refine wpAny_ready (rs := [9]) (by kernel_rfl) (by simp) (AllReady.cons rfl (fun K hK => ?_) AllReady.nil)
        refine step_appN _ rfl (.tmp 53) (.tmp 56) 22 rfl heldsElt (base := v1.heap.size) (v := .slice A6 (0 + (k + 1)) c6) rfl O6.out (m := nA1 - k) rfl (rdn_drop (okS_len HXO.out) (RX.out.below B6.out) k) (by rw [nvs_length (fun y hy => okS_len HXO.out y (List.mem_of_mem_drop hy)), List.length_drop, HNA1.out]) (nvs_one _) (by omega) B6.out.size ?_
        intro A7 c7 v7 ho7 hg7 _
        have hb7 := app_belowN B6.out O6.out hg7 (Nat.le_refl _) B6.out.size
        rw [← nvs_append] at ho7
        obtain ⟨N7, hN7⟩ : ∃ N7, N7 = 0 + (k + 1) + (nA1 - k) := ⟨_, rfl⟩
        rw [← hN7] at ho7 ⊢
        have HN7 := Lib.hid (show N7 = nA1 + 1 by omega)
        have O7 := Lib.hid ho7
        refine hK _ _ ?_
        clear hK K ho7 hg7 O6 B6 hN7
        try simp only [List.getElem_toArray, List.getElem_cons_succ, List.getElem_cons_zero, Act.put, List.setIfInBounds_toArray, List.set_cons_zero, List.set_cons_succ]
        refine wpAny_take (i := 10) (v := ?a10) rfl (by kernel_rfl) (by kernel_rfl) (by kernel_rfl) (fun _ _ _ h => h) (Or.inl ⟨by rfl, ?ya10⟩) ?_
        case ya10 => (intro w'; go_simp; try with_reducible rfl)
        try simp only [List.getElem_toArray, List.getElem_cons_succ, List.getElem_cons_zero, Act.put, List.setIfInBounds_toArray, List.set_cons_zero, List.set_cons_succ]
        refine wpAny_done (by kernel_rfl) ?_ _
        have HBx102 := Lib.hid (HBx101.out.trans (hb7.mono HBx101.out.size))
        have O1x102 := Lib.hid (own_belowN O1.out hb7)
        clear hb7 RX HBx101 O1
        obtain ⟨x, hx⟩ : ∃ x, x = X[k]'(by rw [HNA1.out]; omega) := ⟨_, rfl⟩
        obtain ⟨y, hy⟩ : ∃ y, y = X[k + 1]'(by rw [HNA1.out]; omega) := ⟨_, rfl⟩
        have hx3 : x.s.length = 32 := by rw [hx]; exact okS_len HXO.out _ (List.getElem_mem _)
        have hy3 : y.s.length = 32 := by rw [hy]; exact okS_len HXO.out _ (List.getElem_mem _)
        have HIx : Hid ((Try.prog.info? 61).map (·.size) = some (ndV x).length) := by rw [ndV_length hx3]; exact info_held
        have HIy : Hid ((Try.prog.info? 61).map (·.size) = some (ndV y).length) := by rw [ndV_length hy3]; exact info_held
        have HJx : Hid ((Try.prog.info? 61).map (·.size) = some (ndC x).size) := by rw [ndC_size hx3]; exact info_held
        have HJy : Hid ((Try.prog.info? 61).map (·.size) = some (ndC y).size) := by rw [ndC_size hy3]; exact info_held
        have HCx := Lib.hid (show ∀ j v, (ndV x)[j]? = some v → v7.drew.cell? ((⟨h, k * 34, none⟩ : Addr).add j) = some v by rw [hx]; exact rdn_at (okS_len HXO.out) (Rd.ownN O1x102.out) (by rw [HNA1.out]; omega))
        have HCy := Lib.hid (show ∀ j v, (ndV y)[j]? = some v → v7.drew.cell? ((⟨h, (k + 1) * 34, none⟩ : Addr).add j) = some v by rw [hy]; exact rdn_at (okS_len HXO.out) (Rd.ownN O1x102.out) (by rw [HNA1.out]; omega))
        have s1 := own_setN (w := v7.drew) (x := y) (k := k) (show v7.drew.ownsRow _ 61 34 _ nA1 (nvs X) from O1x102.out) (okS_len HXO.out) hy3 (by omega)
        have h3' : ∀ z ∈ X.set k y, z.s.length = 32 := fun z hz => by
          rcases List.mem_or_eq_of_mem_set hz with hz | hz
          · exact okS_len HXO.out z hz
          · rw [hz]; exact hy3
        have s2 := own_setN (x := x) (k := k + 1) s1.1 h3' hx3 (by omega)
        have T1 := Lib.hid s1.2
        have T2 := Lib.hid s2.2
        obtain ⟨Z, hZ⟩ : ∃ Z, Z = (X.set k y).set (k + 1) x := ⟨_, rfl⟩
        rw [← hZ] at s2
        have hZ3 : ∀ z ∈ Z, z.s.length = 32 := fun z hz => by
          rw [hZ] at hz
          rcases List.mem_or_eq_of_mem_set hz with hz | hz
          · exact h3' z hz
          · rw [hz]; exact hx3
        have hZa : ∀ z ∈ Z, 0 ≤ z.a := fun z hz => by
          have hp : ∀ z ∈ X, 0 ≤ z.a := fun z hz => (okS_mem HXO.out z hz).1.2.2.1
          rw [hZ] at hz
          rcases List.mem_or_eq_of_mem_set hz with hz | hz
          · rcases List.mem_or_eq_of_mem_set hz with hz | hz
            · exact hp z hz
            · rw [hz, hy]; exact hp _ (List.getElem_mem _)
          · rw [hz, hx]; exact hp _ (List.getElem_mem _)
        have HZ3 := Lib.hid hZ3
        have HZA := Lib.hid hZa
        have HZL := Lib.hid (show Z.length = nA1 by rw [hZ, List.length_set, List.length_set, HNA1.out])
        have HZN := Lib.hid (show ¬ okS 0 Z by rw [hZ, hx, hy]; exact not_swap HXO.out (by rw [HNA1.out]; omega))
        have HTW := Lib.hid (show ¬ okS 0 (X.take (k + 1) ++ X.drop k) from not_twice HXO.out (by rw [HNA1.out]; omega))
        have HS2 := Lib.hid s2.1
        have HLO := Lib.hid (own_loN O1x102.out)
        have HHV := Lib.hid (show h < v1.heap.size ∧ w.heap.size ≤ h from ⟨by assumption, by assumption⟩)
        clear hx hy hx3 hy3 h3' s1 s2 hZ hZ3 hZa
        go_wp2_with fail
        refine wp_region_any (by kernel_rfl) ?_
        change wpAny _ _ _ _ _ _ _ (World.drew v7)
        refine wpAny_take (i := 0) (v := ?b0) rfl (by kernel_rfl) (by kernel_rfl) (by kernel_rfl) (fun _ _ _ h => h) (Or.inl ⟨by rfl, ?yb0⟩) ?_
        case yb0 => (intro w'; go_simp; try with_reducible rfl)
        refine wpAny_take (i := 1) (v := ?b1) rfl (by kernel_rfl) (by kernel_rfl) (by kernel_rfl) (fun _ _ _ h => h) (Or.inl ⟨by rfl, ?yb1⟩) ?_
        case yb1 => (intro w'; go_simp; try with_reducible rfl)
        try simp only [List.getElem_toArray, List.getElem_cons_succ, List.getElem_cons_zero, Act.put, List.setIfInBounds_toArray, List.set_cons_zero, List.set_cons_succ]
        refine wpAny_take (i := 2) (v := ?b2) rfl (by kernel_rfl) (by kernel_rfl) (by kernel_rfl) (fun _ _ _ h => h) (Or.inl ⟨by rfl, ?yb2⟩) ?_
        case yb2 => (intro w'; go_simp; try with_reducible rfl)
        try simp only [List.getElem_toArray, List.getElem_cons_succ, List.getElem_cons_zero, Act.put, List.setIfInBounds_toArray, List.set_cons_zero, List.set_cons_succ]
        refine wpAny_take (i := 3) (v := ?b3) rfl (by kernel_rfl) (by kernel_rfl) (by kernel_rfl) (fun _ _ _ h => h) (Or.inl ⟨by rfl, ?yb3⟩) ?_
        case yb3 => (intro w'; go_simp; try with_reducible rfl)
        try simp only [List.getElem_toArray, List.getElem_cons_succ, List.getElem_cons_zero, Act.put, List.setIfInBounds_toArray, List.set_cons_zero, List.set_cons_succ]
        refine wpAny_take (i := 4) (v := ?b4) rfl (by kernel_rfl) (by kernel_rfl) (by kernel_rfl) (fun _ _ _ h => h) (Or.inl ⟨by rfl, ?yb4⟩) ?_
        case yb4 => (intro w'; go_simp; try with_reducible rfl)
        try simp only [List.getElem_toArray, List.getElem_cons_succ, List.getElem_cons_zero, Act.put, List.setIfInBounds_toArray, List.set_cons_zero, List.set_cons_succ]
        refine wpAny_take (i := 5) (v := ?b5) rfl (by kernel_rfl) (by kernel_rfl) (by kernel_rfl) (fun _ _ _ h => h) (Or.inl ⟨by rfl, ?yb5⟩) ?_
        case yb5 => (intro w'; go_simp; try with_reducible rfl)
        try simp only [List.getElem_toArray, List.getElem_cons_succ, List.getElem_cons_zero, Act.put, List.setIfInBounds_toArray, List.set_cons_zero, List.set_cons_succ]
        refine wpAny_take (i := 6) (v := ?b6) rfl (by kernel_rfl) (by kernel_rfl) (by kernel_rfl) (fun _ _ _ h => h) (Or.inl ⟨by rfl, ?yb6⟩) ?_
        case yb6 => (intro w'; go_simp; try with_reducible rfl)
        try simp only [List.getElem_toArray, List.getElem_cons_succ, List.getElem_cons_zero, Act.put, List.setIfInBounds_toArray, List.set_cons_zero, List.set_cons_succ]
        refine wpAny_take (i := 7) (v := ?b7) rfl (by kernel_rfl) (by kernel_rfl) (by kernel_rfl) (fun _ _ _ h => h) (Or.inl ⟨by rfl, ?yb7⟩) ?_
        case yb7 => (intro w'; go_simp; try with_reducible rfl)
        try simp only [List.getElem_toArray, List.getElem_cons_succ, List.getElem_cons_zero, Act.put, List.setIfInBounds_toArray, List.set_cons_zero, List.set_cons_succ]
        refine wpAny_take (i := 8) (v := ?b8) rfl (by kernel_rfl) (by kernel_rfl) (by kernel_rfl) (fun _ _ _ h => h) (Or.inl ⟨by rfl, ?yb8⟩) ?_
        case yb8 => (intro w'; go_simp; try with_reducible rfl)
        try simp only [List.getElem_toArray, List.getElem_cons_succ, List.getElem_cons_zero, Act.put, List.setIfInBounds_toArray, List.set_cons_zero, List.set_cons_succ]
        refine wpAny_take (i := 10) (v := ?b10) rfl (by kernel_rfl) (by kernel_rfl) (by kernel_rfl) (fun _ _ _ h => h) (Or.inl ⟨by rfl, ?yb10⟩) ?_
        case yb10 => (intro w'; go_simp; try with_reducible rfl)
        try simp only [List.getElem_toArray, List.getElem_cons_succ, List.getElem_cons_zero, Act.put, List.setIfInBounds_toArray, List.set_cons_zero, List.set_cons_succ]
        refine wpAny_take (i := 11) (v := ?b11) rfl (by kernel_rfl) (by kernel_rfl) (by kernel_rfl) (fun _ _ _ h => h) (Or.inl ⟨by rfl, ?yb11⟩) ?_
        case yb11 => (intro w'; go_simp; try with_reducible rfl)
        try simp only [List.getElem_toArray, List.getElem_cons_succ, List.getElem_cons_zero, Act.put, List.setIfInBounds_toArray, List.set_cons_zero, List.set_cons_succ]
        refine wpAny_take (i := 12) (v := ?b12) rfl (by kernel_rfl) (by kernel_rfl) (by kernel_rfl) (fun _ _ _ h => h) (Or.inl ⟨by rfl, ?yb12⟩) ?_
        case yb12 => (intro w'; go_simp; try with_reducible rfl)
        try simp only [List.getElem_toArray, List.getElem_cons_succ, List.getElem_cons_zero, Act.put, List.setIfInBounds_toArray, List.set_cons_zero, List.set_cons_succ]
        refine wpAny_look (i := 9) (v := .agg (ndC y)) rfl (by kernel_rfl) (by kernel_rfl) (by kernel_rfl) (fun _ _ _ h => h) (by rfl) ?z9 ?_
        case z9 => exact exec_load_at 61 (.tmp 66) rfl ⟨h, (k + 1) * 34, none⟩ rfl HCy.out Try.underlying61 rfl HIy.out
        try simp only [List.getElem_toArray, List.getElem_cons_succ, List.getElem_cons_zero, Act.put, List.setIfInBounds_toArray, List.set_cons_zero, List.set_cons_succ]
        refine wpAny_look (i := 13) (v := .agg (ndC x)) rfl (by kernel_rfl) (by kernel_rfl) (by kernel_rfl) (fun _ _ _ h => h) (by rfl) ?z13 ?_
        case z13 => exact exec_load_at 61 (.tmp 70) rfl ⟨h, k * 34, none⟩ rfl HCx.out Try.underlying61 rfl HIx.out
        try simp only [List.getElem_toArray, List.getElem_cons_succ, List.getElem_cons_zero, Act.put, List.setIfInBounds_toArray, List.set_cons_zero, List.set_cons_succ]
        refine wpAny_take (i := 14) (v := ?b14) rfl (by kernel_rfl) (by kernel_rfl) (by kernel_rfl) (fun _ _ _ h => h) (Or.inl ⟨by rfl, ?yb14⟩) ?_
        case yb14 => (intro w'; go_simp; try with_reducible rfl)
        try simp only [List.getElem_toArray, List.getElem_cons_succ, List.getElem_cons_zero, Act.put, List.setIfInBounds_toArray, List.set_cons_zero, List.set_cons_succ]
        refine wpAny_ready (rs := [15]) (by kernel_rfl) (by simp) (AllReady.cons rfl (fun K hK => ?_) AllReady.nil)
        rw [if_pos (by rfl)]
        refine wp_store_mid 61 (.tmp 72) (.tmp 67) rfl h (k * 34) (ndC y) rfl rfl T1.out HJy.out (ndC_one _) ?_
        refine hK _ _ ?_
        clear hK K
        try simp only [List.getElem_toArray, List.getElem_cons_succ, List.getElem_cons_zero, Act.put]
        refine wpAny_take (i := 16) (v := ?b16) rfl (by kernel_rfl) (by kernel_rfl) (by kernel_rfl) (fun _ _ _ h => h) (Or.inl ⟨by rfl, ?yb16⟩) ?_
        case yb16 => (intro w'; go_simp; try with_reducible rfl)
        try simp only [List.getElem_toArray, List.getElem_cons_succ, List.getElem_cons_zero, Act.put, List.setIfInBounds_toArray, List.set_cons_zero, List.set_cons_succ]
        refine wpAny_ready (rs := [17]) (by kernel_rfl) (by simp) (AllReady.cons rfl (fun K hK => ?_) AllReady.nil)
        rw [if_pos (by rfl)]
        refine wp_store_mid 61 (.tmp 73) (.tmp 71) rfl h ((k + 1) * 34) (ndC x) rfl rfl T2.out HJx.out (ndC_one _) ?_
        refine hK _ _ ?_
        clear hK K
        try simp only [List.getElem_toArray, List.getElem_cons_succ, List.getElem_cons_zero, Act.put]
        refine wpAny_done (by kernel_rfl) ?_ _
        have hg9 : v7.grownBy ((v7.drew.setCells h (k * 34) (ndC y).toList).setCells h ((k + 1) * 34) (ndC x).toList) (some h) :=
          grown_trans (grown_trans (grown_drew v7 (some h)) (grown_setCells h (ndC y).toList (k * 34) v7.drew)) (grown_setCells h (ndC x).toList ((k + 1) * 34) _)
        have o9 := HS2.out
        generalize hv9 : World.setCells (World.setCells _ _ _ _) _ _ _ = v9
        rw [hv9] at hg9 o9
        have O9 := Lib.hid o9
        have B9 := Lib.hid (show Below w.heap.size w v9 from HBx102.out.grown hg9 HBx102.out.size (fun q e => by cases e; exact HHV.out.2))
        have P9 := Lib.hid (show v9.ownsRow _ 61 34 (.slice A7 N7 c7) N7 (nvs (X.take (k + 1) ++ X.drop k)) from O7.out.kept hg9 (by
          cases hA7 : A7 with
          | none => exact .inl rfl
          | some a7 =>
            refine .inr fun e => ?_
            have e1 : (Value.slice A7 N7 c7).ownBlock = some h := by rw [hA7]; exact e
            have := (own_loN O7.out h e1).1
            have := HHV.out.1
            omega))
        clear hg9 o9 hv9 O1x102 O7 HBx102 HS2 T1 T2 HCx HCy
        go_wp2_with fail
        refine (kenc_any (some ⟨h, 0, none⟩) nA1 cA1 Z _ HZL.out HZ3.out HZA.out (Nat.le_refl _) (Rd.ownN O9.out) (by omega)).mono ?_
        rintro e v10 ⟨bw, ⟨⟨hy, _⟩, _⟩ | ⟨_, rfl⟩ | ⟨⟨hy, _⟩, _⟩⟩
        · exact absurd hy HZN.out
        rotate_left
        · exact absurd hy HZN.out
        have P10 := Lib.hid (own_belowN P9.out bw)
        have B10 := Lib.hid (B9.out.trans (bw.mono B9.out.size))
        have h3t : ∀ z ∈ X.take (k + 1) ++ X.drop k, z ∈ X := fun z hz => by
          rcases List.mem_append.1 hz with hz | hz
          · exact List.mem_of_mem_take hz
          · exact List.mem_of_mem_drop hz
        have HM3 := Lib.hid h3t
        have HNL7 := Lib.hid (show (X.take (k + 1) ++ X.drop k).length = N7 by rw [List.length_append, List.length_take, List.length_drop, HNA1.out]; have := HN7.out; omega)
        clear bw h3t P9 B9 O9
        go_wp2_with fail
        refine (kenc_any A7 N7 c7 (X.take (k + 1) ++ X.drop k) _ HNL7.out (fun z hz => okS_len HXO.out z (HM3.out z hz)) (fun z hz => (okS_mem HXO.out z (HM3.out z hz)).1.2.2.1) (Nat.le_refl _) (Rd.ownN P10.out) (by have := HN7.out; omega)).mono ?_
        rintro e v11 ⟨bw, ⟨⟨hy, _⟩, _⟩ | ⟨_, rfl⟩ | ⟨⟨hy, _⟩, _⟩⟩
        · exact absurd hy HTW.out
        rotate_left
        · exact absurd hy HTW.out
        have B11 := Lib.hid (B10.out.trans (bw.mono B10.out.size))
        clear bw B10 P10
        go_wp2_with fail
        go_ret
        exact ⟨rfl, B11.out⟩
  · have hd : decide ((n : Int) > 12) = true := decide_eq_true (by omega)
    go_enter Try.func8, Try.ntmps8
    go_wp2_with fail
    refine (kcAwake_any _).mono ?_
    rintro e w1 ⟨rfl, bw⟩
    have CB := Lib.hid (BB.out.trans (bw.mono BB.out.size))
    clear bw B1 BB
    go_wp2_with fail
    go_ret
    exact ⟨rfl, CB.out⟩
theorem keycodeOrder_own : ownKnob Try.prog.godebug = none := by kernel_rfl
theorem keycodeOrder_laid : laidOutB Try.prog = true := by kernel_rfl

set_option maxRecDepth 100000 in
theorem keycodeOrder_lifted (os : Os) (started : os.Started) (H : Type) (enc : TypeId × Value → H) :
    ReturnsInHanded {} Try.checked os 8 .any (Rows.keycodeOrderSpec.pre6 enc Try.prog Try.f8 Rows.keycodeOrderRow.domain false) (Rows.keycodeOrderSpec.post enc Try.prog Try.f8 false true false false) := by
  refine returnsInHanded_of_change (C := Try.checked) keycodeOrder_own started (by kernel_rfl) Try.func8
    (ChangeSpec.witness6 (enc := enc) (C := Try.checked) false ⟨#[], #[.agg #[.int .u8 0, .int .u8 0, .int .u8 0, .int .u8 0, .int .u8 0, .int .u8 0, .int .u8 0, .int .u8 0, .int .u8 0, .int .u8 0, .int .u8 0, .int .u8 0, .int .u8 0, .int .u8 0, .int .u8 0, .int .u8 0, .int .u8 0, .int .u8 0, .int .u8 0, .int .u8 0, .int .u8 0, .int .u8 0, .int .u8 0, .int .u8 0, .int .u8 0, .int .u8 0, .int .u8 0, .int .u8 0, .int .u8 0, .int .u8 0, .int .u8 0, .int .u8 0], .slice none 0 0, .int .u8 0], []⟩ 8 (by kernel_rfl) (by kernel_rfl) (by kernel_rfl) (by kernel_rfl)) ?_
  intro W base args ds gs before hval0 hW _ _
  have hval : ∀ (j : Nat) t v, Try.f8.params[j]? = some t → args[j]? = some v → Value.okWide Try.prog W .any base t v := hval0
  have hW' := hW
  obtain ⟨p, q, hA0, hV, rfl, hfz, hnd⟩ := hW
  have hA : DataW.TrodAll enc Try.prog W 0 (fun _ => true) true Try.f8.params.toList args.toList ds p := hA0
  rw [Try.params8] at hA hval
  obtain ⟨v0, vs0, d0, ds0, p0, q0, hargs, rfl, rfl, h0, r0⟩ := trodAll_cons hA
  obtain ⟨v1, vs1, d1, ds1, p1, q1, rfl, rfl, rfl, h1, r1⟩ := trodAll_cons r0
  obtain ⟨v2, vs2, d2, ds2, p2, q2, rfl, rfl, rfl, h2, r2⟩ := trodAll_cons r1
  obtain ⟨rfl, rfl, rfl⟩ := trodAll_nil r2
  obtain rfl : args = #[v0, v1, v2] := by cases args; simp_all
  obtain ⟨rfl, rfl⟩ := trodVars_none hV
  have lt0 : ∀ x ∈ p0, x.block < W.heap.size := by obtain ⟨m, hm⟩ := h0; exact DataW.trod_lt m _ _ _ hm
  obtain ⟨l0, hl0, rfl⟩ := open_u8s Try.underlying43 Try.underlying5 (by kernel_rfl) (by kernel_rfl) (hval 0 43 v0 rfl rfl) h0
  obtain ⟨a1, n1, c1, rfl⟩ := okWide_slice Try.underlying44 (hval 1 44 v1 rfl rfl)
  have lt1 : ∀ x ∈ p1, x.block < W.heap.size := by obtain ⟨m, hm⟩ := h1; exact DataW.trod_lt m _ _ _ hm
  obtain ⟨l1, hl1, hc1, hm1, hr1, hz1⟩ := open_u64s Try.underlying44 Try.underlying38 (by kernel_rfl) h1
  obtain ⟨a2, rfl, rfl, rfl, w2⟩ := open_int Try.underlying5 (hval 2 5 v2 rfl rfl) h2
  have b2 := bounds_u8 w2
  clear hA0 hval0
  refine (keycodeOrder_any W l0 hl0 a1 n1 c1 l1 hl1 hc1 hm1 hr1 hz1 a2 b2).mono fun e W' ⟨he, bel⟩ => ?_
  subst he
  exact ⟨_, rfl, _, _, _, [], _, [], hW', trodAll_mk1 (shut_bool Try.underlying4 _), (trodAll_cons_mk (Below.trod keycodeOrder_laid (by kernel_rfl) (of_decide_eq_true (by kernel_rfl)) h0 bel lt0) (trodAll_cons_mk (Below.trod keycodeOrder_laid (by kernel_rfl) (of_decide_eq_true (by kernel_rfl)) h1 bel lt1) (trodAll_cons_mk (shut_int Try.underlying5 w2) trodAll_mk0))), rfl, bel.frame _, fun h => by cases h⟩

theorem keycodeOrder_holds : Rows.KeycodeOrderSaid :=
  OpenClaim.holds_of_wide 8 Try.f8 rfl rfl rfl rfl rfl rfl rfl ⟨rfl, rfl, rfl, rfl, rfl⟩ rfl rfl rfl rfl rfl (by kernel_rfl) Try.func8 (by kernel_rfl)
    (of_decide_eq_true (by kernel_rfl)) (by unfold Func.isWrapper; rw [if_neg (of_decide_eq_false (by kernel_rfl))]; exact ⟨rfl, rfl⟩)
    (fun os started H enc _ => keycodeOrder_lifted os started H enc)

#print axioms keycodeOrder_holds

end Go.Proofs.Ytippbjpodnnhiaa
