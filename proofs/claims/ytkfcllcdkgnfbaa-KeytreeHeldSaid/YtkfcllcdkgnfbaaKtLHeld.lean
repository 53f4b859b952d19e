/-
  A tree that is made of what another one holds holds the same, and has the same keys; a clone goes its own way; for every seed, every row of at most 24 numbers (a longer one comes out true unasked) and every number that is asked.
-/
import Derived.Test.YtkfcllcdkgnfbaaKtTClone
import Derived.Test.YtkfcllcdkgnfbaaRows
import Derived.Test.YtkfcllcdkgnfbaaOpen
import Derived.Test.YtkfcllcdkgnfbaaOpenA
import Derived.ProofKit
import Derived.OpenShut
import Derived.ShutString
import Derived.ChangeOld
namespace Go.Proofs.Ytkfcllcdkgnfbaa
open Go.RowKit Go.ChangeShapes Go.WideShapes Go.ChangeAt
open Kt
attribute [local go_sem ↓] Go.wp_at_zero Go.wp_at_succ
theorem can_pun_not {s : List UInt8} (hs : s.length = 32) (l : List Int) (a : Int) : hasI (punL (canL 17 ⟨0, 0, s⟩ l) a) a = false := by
  rw [punL_can 17 _ l a (okS_root hs).1 rfl, hasI_can 17 _ _ a (okS_root hs).1 rfl, decide_eq_true (show a ∈ l ++ [a] by simp), Bool.not_true, Bool.and_false]
def spoilNd : Nd := ⟨99, 0, List.replicate 32 0⟩
set_option maxRecDepth 100000 in
set_option maxHeartbeats 6400000 in
theorem keytreeHeld_any (w : World) (s : List UInt8) (hs : s.length = 32) (A : Option Addr) (n c : Nat) (l : List Int) (hl : l.length = n) (hc : n ≤ c) (hm : c ≤ maxLen) (hr : Rd w.heap.size w A (iv64 l)) (hz : ∀ z ∈ l, 0 ≤ z ∧ z ≤ 18446744073709551615) (a : Int) (_ha : 0 ≤ a ∧ a ≤ 18446744073709551615) :
    Calls Try.prog 8 #[.agg (bva s), .slice A n c, .int .u64 a] w (RetB (.bool true) w) := by
  have HL := Lib.hid hl
  have HR := Lib.hid hr
  have HZ := Lib.hid hz
  have hcm : n ≤ 9223372036854775807 := by unfold maxLen at hm; omega
  clear hl hr hz hc hm
  have HS := Lib.hid hs
  have HK : Hid ((Try.prog.info? 23).map (·.size) = some (bva s).size) := by rw [bva_size, hs]; exact info_keyL
  have B1 := Lib.hid (show Blk (w.alloc (.cells (bva s) 23)) w.heap.size (bva s) 23 from heap_alloc_new _ _)
  have BB := Lib.hid (show Below w.heap.size w (w.alloc (.cells (bva s) 23)) from (Below.refl _ _).alloc (Nat.le_refl _) _)
  clear hs
  by_cases h24 : n ≤ 24
  · have hd : decide ((n : Int) > 24) = false := decide_eq_false (by omega)
    clear hcm
    go_enter Try.func8, Try.ntmps8
    go_wp2_with fail
    refine (ktAwake_any _).mono ?_
    rintro e w1 ⟨rfl, bw⟩
    have C1 := Lib.hid (B1.out.below bw)
    have CB := Lib.hid (BB.out.trans (bw.mono BB.out.size))
    clear bw B1 BB
    obtain ⟨rt, hrt⟩ : ∃ rt : Nd, rt = ⟨0, 0, s⟩ := ⟨_, rfl⟩
    have HRT := Lib.hid hrt
    have HOK : Hid (okS 0 [rt]) := by rw [hrt]; exact okS_root HS.out
    obtain ⟨zz, hzz⟩ : ∃ zz : List UInt8, zz = List.replicate 32 0 := ⟨_, rfl⟩
    have hz23 : ∀ W, (zeroValue 23).run Try.prog W = .ok (.agg (bva zz)) W := fun _ => by rw [hzz]; kernel_rfl
    have ZZ3 : Hid (zz.length = 32) := by show _ = _; rw [hzz]; rfl
    have HZZ := Lib.hid hzz
    clear hrt hzz
    go_wp2_with (refine wpList_load_row rfl 23 (.tmp 3) rfl w.heap.size rfl 23 (bva s) (0, 0) _ C1.out Try.underlying23 rfl HK.out ?_)
    refine (new_any s HS.out _).mono ?_
    rintro e w2 ⟨⟨g, F, rfl, ht, hF⟩, bw⟩
    rw [← HRT.out] at ht
    have HT := Lib.hid ht
    have HF := Lib.hid (show ∀ q, F q → w.heap.size ≤ q from fun q hq => Nat.le_trans CB.out.size (hF q hq))
    have HB := Lib.hid (CB.out.trans (bw.mono CB.out.size))
    clear ht hF bw C1 CB
    go_wp2_with fail
    go_loopw [8] (fun i wr => ∃ k F, k ≤ n ∧ i = .int .i64 (k : Nat) ∧ Tr wr g (punAll [rt] (l.take k)) F ∧ Hid (∀ q, F q → w.heap.size ≤ q) ∧ Below w.heap.size w wr) (fun i _ => n - (intOf i).toNat)
    case atStart => exact ⟨0, F, by omega, rfl, HT.out, HF, HB.out⟩
    case round =>
      clear HT HF HB
      obtain ⟨k, F, hk, rfl, ht, HF, hbw⟩ := hrel
      have HT := Lib.hid ht
      have HB := Lib.hid hbw
      clear ht hbw
      by_cases hlt : k < n
      · have hkl : k < l.length := by rw [HL.out]; exact hlt
        obtain ⟨ad, hA, hbl, _⟩ := rd_u64 HR.out hkl
        subst hA
        obtain ⟨m, hm⟩ : ∃ m, m = l.getD k 0 := ⟨_, rfl⟩
        have hcell : ∀ w', Below w.heap.size w w' → w'.cell? (ad.add k) = some (.int .u64 m) := fun w' hb' => by
          obtain ⟨ad', hA', _, hc⟩ := rd_u64 (HR.out.below hb') hkl
          injection hA' with hA'
          subst hA'
          rw [hm]; exact hc
        have hmb : 0 ≤ m ∧ m ≤ 18446744073709551615 := HZ.out m (by
          rw [hm, List.getD_eq_getElem?_getD, List.getElem?_eq_getElem hkl]; exact List.getElem_mem hkl)
        have HCL := Lib.hid hcell
        have HMB := Lib.hid hmb
        have HMV := Lib.hid hm
        have k0 : (0 : Int) ≤ (k : Int) := by omega
        have k1 : (k : Int) < (n : Int) := by omega
        clear hcell hmb hm hbl
        have cc := HCL.out _ HB.out
        go_wp2_with fail
        refine (tpuncture_any g _ F m _ HT.out).mono ?_
        rintro e w5 ⟨rfl, hp⟩
        obtain ⟨F5, ht5, hF5, hb5⟩ := pun_one hp HF.out HB.out.size
        rw [HMV.out, ← punAll_snoc _ _ hkl] at ht5
        have HT5 := Lib.hid ht5
        have HF5 := Lib.hid hF5
        have HB5 := Lib.hid (HB.out.trans hb5)
        have ek : IntKind.i64.wrap ((k : Int) + 1) = ((k + 1 : Nat) : Int) := by rw [IntWalk.i64_in _ (by omega)]; omega
        clear hp ht5 hF5 hb5 cc HT HB
        go_wp2_with fail
        go_roundw
        case rel => exact ⟨k + 1, F5, by omega, by go_num, HT5.out, HF5, HB5.out⟩
        case measure => simp [intOf]; omega
      · obtain rfl : k = n := by omega
        have hcan : punAll [rt] (l.take k) = canL 17 rt l := by rw [List.take_of_length_le (by rw [HL.out]; exact Nat.le_refl _), HRT.out]; exact punAll_root HS.out l
        obtain ⟨X, hX⟩ : ∃ X, X = canL 17 rt l := ⟨_, rfl⟩
        have ht := HT.out
        rw [hcan, ← hX] at ht
        have HXV := Lib.hid hX
        have HT2 := Lib.hid ht
        have HXO := Lib.hid ht.ok
        clear HT ht hcan hX
        have HT := HT2
        clear HT2
        obtain ⟨b, hb⟩ : ∃ b, b = hasI X a := ⟨_, rfl⟩
        obtain ⟨kk, hkk⟩ : ∃ kk, kk = keyK X a := ⟨_, rfl⟩
        have hk3 : kk.length = 32 := by rw [hkk]; exact keyK_length (okS_len HXO.out) a
        have HK3 := Lib.hid hk3
        have HIK : Hid ((Try.prog.info? 23).map (·.size) = some (bva kk).size) := by rw [bva_size, hk3]; exact info_keyL
        have HBV := Lib.hid hb
        have HKK := Lib.hid hkk
        have heq : ∀ W, (Op.equalIn 10000 23 (.agg (bva kk)) (.agg (bva kk))).run Try.prog W = .ok true W := fun W => by rw [eq_key kk kk hk3 hk3 W, decide_eq_true rfl]
        have hbb : (b == b) = true := beq_self_eq_true b
        have hxl : ∀ n1, (nvs X).length = n1 * 34 → X.length = n1 ∧ n1 ≤ 131072 := fun n1 h => by
          rw [nvs_length (okS_len HXO.out)] at h
          have := okS_few HXO.out
          exact ⟨by omega, by omega⟩
        have HXL := Lib.hid hxl
        obtain ⟨X', hX'⟩ : ∃ X', X' = punL X a := ⟨_, rfl⟩
        have hno : hasI X' a = false := by rw [hX', HXV.out, HRT.out]; exact can_pun_not HS.out l a
        have HX' := Lib.hid hX'
        have HNO := Lib.hid hno
        have HFL := Lib.hid HT.out.lt
        clear hb hkk hk3 hxl hX' hno
        go_wp2_with fail
        refine (theld_tr HT.out).mono ?_
        rintro e v1 ⟨A1, n1, c1, rfl, ho, bw⟩
        have HN1 := Lib.hid (HXL.out n1 ho.1)
        have O1 := Lib.hid ho
        have HTx101 := Lib.hid (HT.out.below bw)
        have HBx101 := Lib.hid (HB.out.trans (bw.mono HB.out.size))
        have HFLx101 := Lib.hid (show ∀ q, _ → q < _ from fun q hq => Nat.lt_of_lt_of_le (HFL.out q hq) (bw).size)
        clear bw ho HT HB HFL
        go_wp2_with fail
        refine (plain_any A1 n1 c1 X _ HN1.out.1 (okS_len HXO.out) (Nat.le_refl _) (Rd.ownN O1.out) (by have := HN1.out.2; omega)).mono ?_
        rintro e v2 ⟨A2, n2, c2, rfl, ho, bw⟩
        have HN2 := Lib.hid (HXL.out n2 ho.1)
        have O2 := Lib.hid ho
        have HTx102 := Lib.hid (HTx101.out.below bw)
        have HBx102 := Lib.hid (HBx101.out.trans (bw.mono HBx101.out.size))
        have HFLx102 := Lib.hid (show ∀ q, _ → q < _ from fun q hq => Nat.lt_of_lt_of_le (HFLx101.out q hq) (bw).size)
        have O1x102 := Lib.hid (own_belowN O1.out bw)
        clear bw ho HTx101 HBx101 HFLx101 O1
        go_wp2_with fail
        refine (theld_tr HTx102.out).mono ?_
        rintro e v3 ⟨A3, n3, c3, rfl, ho, bw⟩
        have HN3 := Lib.hid (HXL.out n3 ho.1)
        have O3 := Lib.hid ho
        have HTx103 := Lib.hid (HTx102.out.below bw)
        have HBx103 := Lib.hid (HBx102.out.trans (bw.mono HBx102.out.size))
        have HFLx103 := Lib.hid (show ∀ q, _ → q < _ from fun q hq => Nat.lt_of_lt_of_le (HFLx102.out q hq) (bw).size)
        have O2x103 := Lib.hid (own_belowN O2.out bw)
        clear bw ho HTx102 HBx102 HFLx102 O2
        go_wp2_with fail
        refine (from_any A3 n3 c3 X _ HN3.out.1 (okS_len HXO.out) (fun y hy => (okS_mem HXO.out y hy).1.2.2.1) (Nat.le_refl _) (Rd.ownN O3.out) (by have := HN3.out.2; omega)).mono ?_
        rintro e v4 ⟨⟨_, g2, F2, rfl, ht2, hF2⟩ | ⟨hnot, _⟩, bw⟩
        rotate_left
        · exact absurd HXO.out hnot
        have HT2 := Lib.hid ht2
        have HTx104 := Lib.hid (HTx103.out.below bw)
        have HBx104 := Lib.hid (HBx103.out.trans (bw.mono HBx103.out.size))
        have HFLx104 := Lib.hid (show ∀ q, _ → q < _ from fun q hq => Nat.lt_of_lt_of_le (HFLx103.out q hq) (bw).size)
        have O2x104 := Lib.hid (own_belowN O2x103.out bw)
        have O3x104 := Lib.hid (own_belowN O3.out bw)
        clear bw ht2 hF2 HTx103 HBx103 HFLx103 O2x103 O3
        go_wp2_with fail
        refine (theld_tr HT2.out).mono ?_
        rintro e v5 ⟨A5, n5, c5, rfl, ho, bw⟩
        have HN5 := Lib.hid (HXL.out n5 ho.1)
        have O5 := Lib.hid ho
        have HTx105 := Lib.hid (HTx104.out.below bw)
        have HBx105 := Lib.hid (HBx104.out.trans (bw.mono HBx104.out.size))
        have HFLx105 := Lib.hid (show ∀ q, _ → q < _ from fun q hq => Nat.lt_of_lt_of_le (HFLx104.out q hq) (bw).size)
        have O2x105 := Lib.hid (own_belowN O2x104.out bw)
        have HT2x105 := Lib.hid (HT2.out.below bw)
        clear bw ho HTx104 HBx104 HFLx104 O2x104 HT2
        go_wp2_with fail
        refine (plain_any A5 n5 c5 X _ HN5.out.1 (okS_len HXO.out) (Nat.le_refl _) (Rd.ownN O5.out) (by have := HN5.out.2; omega)).mono ?_
        rintro e v6 ⟨A6, n6, c6, rfl, ho, bw⟩
        have HN6 := Lib.hid (HXL.out n6 ho.1)
        have O6 := Lib.hid ho
        have HTx106 := Lib.hid (HTx105.out.below bw)
        have HBx106 := Lib.hid (HBx105.out.trans (bw.mono HBx105.out.size))
        have HFLx106 := Lib.hid (show ∀ q, _ → q < _ from fun q hq => Nat.lt_of_lt_of_le (HFLx105.out q hq) (bw).size)
        have O2x106 := Lib.hid (own_belowN O2x105.out bw)
        have HT2x106 := Lib.hid (HT2x105.out.below bw)
        have O5x106 := Lib.hid (own_belowN O5.out bw)
        clear bw ho HTx105 HBx105 HFLx105 O2x105 HT2x105 O5
        go_wp2_with fail
        refine (same_any A6 A2 n6 n2 c6 c2 X X _ HN6.out.1 HN2.out.1 (okS_len HXO.out) (okS_len HXO.out) (Rd.ownN O6.out) (Rd.ownN O2x106.out) (by have := HN6.out.2; unfold maxLen; omega) (by have := HN2.out.2; unfold maxLen; omega)).mono ?_
        rintro e v7 ⟨rfl, q, rfl⟩
        rw [decide_eq_true (rfl : X = X)]
        have bw : Below v6.heap.size v6 (v6.drewN q) := below_drewN' (Below.refl _ _) q
        have HTx107 := Lib.hid (HTx106.out.below bw)
        have HBx107 := Lib.hid (HBx106.out.trans (bw.mono HBx106.out.size))
        have HFLx107 := Lib.hid (show ∀ q, _ → q < _ from fun q hq => Nat.lt_of_lt_of_le (HFLx106.out q hq) (bw).size)
        have O2x107 := Lib.hid (own_belowN O2x106.out bw)
        have HT2x107 := Lib.hid (HT2x106.out.below bw)
        have O6x107 := Lib.hid (own_belowN O6.out bw)
        clear bw HTx106 HBx106 HFLx106 O2x106 HT2x106 O6
        generalize v6.drewN q = v7 at *
        go_wp2_with fail
        refine (tkey_tr HTx107.out a).mono ?_
        rintro e v8 ⟨rfl, bw⟩
        rw [keyV_form, ← HKK.out, ← HBV.out]
        have HTx108 := Lib.hid (HTx107.out.below bw)
        have HBx108 := Lib.hid (HBx107.out.trans (bw.mono HBx107.out.size))
        have HFLx108 := Lib.hid (show ∀ q, _ → q < _ from fun q hq => Nat.lt_of_lt_of_le (HFLx107.out q hq) (bw).size)
        have O2x108 := Lib.hid (own_belowN O2x107.out bw)
        have HT2x108 := Lib.hid (HT2x107.out.below bw)
        clear bw HTx107 HBx107 HFLx107 O2x107 HT2x107
        go_wp2_with (refine wpList_store_row rfl 23 (.tmp 12) (.tmp 68) rfl v8.heap.size (bva kk) rfl rfl 23 (bva zz) (heap_alloc_new _ _) HIK.out (by rw [bva_size, bva_size, HK3.out, ZZ3.out]) (bva_one _) ?_
                     generalize hwx : World.setRow _ _ _ = wx109
                     have EB : Below v8.heap.size v8 wx109 := by rw [← hwx]; exact below_setRow ((Below.refl _ _).alloc (Nat.le_refl _) _) (Nat.le_refl _) _
                     have KAxn109 := Lib.hid (show Blk wx109 v8.heap.size (bva kk) 23 by rw [← hwx]; exact setRow_heap _ _ _ _ _ _ (heap_alloc_new _ _))
                     have HTx110 := Lib.hid (HTx108.out.below EB)
                     have HBx110 := Lib.hid (HBx108.out.trans (EB.mono HBx108.out.size))
                     have HFLx110 := Lib.hid (show ∀ q, _ → q < _ from fun q hq => Nat.lt_of_lt_of_le (HFLx108.out q hq) (EB).size)
                     have O2x110 := Lib.hid (own_belowN O2x108.out EB)
                     have HT2x110 := Lib.hid (HT2x108.out.below EB)
                     clear hwx EB HTx108 HBx108 HFLx108 O2x108 HT2x108)
        refine (tkey_tr HT2x110.out a).mono ?_
        rintro e v9 ⟨rfl, bw⟩
        rw [keyV_form, ← HKK.out, ← HBV.out]
        have HTx111 := Lib.hid (HTx110.out.below bw)
        have HBx111 := Lib.hid (HBx110.out.trans (bw.mono HBx110.out.size))
        have HFLx111 := Lib.hid (show ∀ q, _ → q < _ from fun q hq => Nat.lt_of_lt_of_le (HFLx110.out q hq) (bw).size)
        have O2x111 := Lib.hid (own_belowN O2x110.out bw)
        have HT2x111 := Lib.hid (HT2x110.out.below bw)
        have KAx111 := Lib.hid (KAxn109.out.below bw)
        clear bw HTx110 HBx110 HFLx110 O2x110 HT2x110 KAxn109
        go_wp2_with (refine wpList_store_row rfl 23 (.tmp 14) (.tmp 74) rfl v9.heap.size (bva kk) rfl rfl 23 (bva zz) (heap_alloc_new _ _) HIK.out (by rw [bva_size, bva_size, HK3.out, ZZ3.out]) (bva_one _) ?_
                     generalize hwx : World.setRow _ _ _ = wx112
                     have EB : Below v9.heap.size v9 wx112 := by rw [← hwx]; exact below_setRow ((Below.refl _ _).alloc (Nat.le_refl _) _) (Nat.le_refl _) _
                     have KBxn112 := Lib.hid (show Blk wx112 v9.heap.size (bva kk) 23 by rw [← hwx]; exact setRow_heap _ _ _ _ _ _ (heap_alloc_new _ _))
                     have HTx113 := Lib.hid (HTx111.out.below EB)
                     have HBx113 := Lib.hid (HBx111.out.trans (EB.mono HBx111.out.size))
                     have HFLx113 := Lib.hid (show ∀ q, _ → q < _ from fun q hq => Nat.lt_of_lt_of_le (HFLx111.out q hq) (EB).size)
                     have O2x113 := Lib.hid (own_belowN O2x111.out EB)
                     have KAx113 := Lib.hid (KAx111.out.below EB)
                     clear hwx EB HTx111 HBx111 HFLx111 O2x111 KAx111)
        refine (tclone_any g X F _ HTx113.out).mono ?_
        rintro e v10 ⟨⟨g3, G, rfl, ht3, hG⟩, bw⟩
        have HC := Lib.hid ht3
        have hG' := Lib.hid (show ∀ q, G q → ¬ F q ∧ (∀ k, (Value.slice A2 n2 c2).ownBlock = some k → k ≠ q) ∧ v8.heap.size ≠ q ∧ v9.heap.size ≠ q ∧ w.heap.size ≤ q from fun q hq => by
          have h1 := hG q hq
          have h2 := KAx113.out.lt
          have h3 := KBxn112.out.lt
          refine ⟨fun h => by have := HFLx113.out q h; omega, fun k hk h => by have := (own_loN O2x113.out k hk).2; omega, by omega, by omega, by have := HBx113.out.size; omega⟩)
        have HTx114 := Lib.hid (HTx113.out.below bw)
        have HBx114 := Lib.hid (HBx113.out.trans (bw.mono HBx113.out.size))
        have HFLx114 := Lib.hid (show ∀ q, _ → q < _ from fun q hq => Nat.lt_of_lt_of_le (HFLx113.out q hq) (bw).size)
        have O2x114 := Lib.hid (own_belowN O2x113.out bw)
        have KAx114 := Lib.hid (KAx113.out.below bw)
        have KBx114 := Lib.hid (KBxn112.out.below bw)
        clear bw ht3 hG HTx113 HBx113 HFLx113 O2x113 KAx113 KBxn112
        go_wp2_with fail
        refine (tpuncture_any g3 X G a _ HC.out).mono ?_
        rintro e v11 ⟨rfl, G', ht3, hbt, _⟩
        rw [← HX'.out] at ht3
        have HC2 := Lib.hid ht3
        have HTx115 := Lib.hid (HTx114.out.but hbt (fun q hq hS => (hG'.out q hS).1 hq))
        have HBx115 := Lib.hid (HBx114.out.trans (but_belowF hbt (fun q hq => (hG'.out q hq).2.2.2.2) HBx114.out.size))
        have HFLx115 := Lib.hid (show ∀ q, _ → q < _ from fun q hq => Nat.lt_of_lt_of_le (HFLx114.out q hq) (hbt).size)
        have O2x115 := Lib.hid (Own.but O2x114.out hbt (fun q hq hS => (hG'.out q hS).2.1 q hq rfl))
        have KAx115 := Lib.hid (KAx114.out.but hbt (fun h => (hG'.out _ h).2.2.1 rfl))
        have KBx115 := Lib.hid (KBx114.out.but hbt (fun h => (hG'.out _ h).2.2.2.1 rfl))
        clear ht3 hbt HC HTx114 HBx114 HFLx114 O2x114 KAx114 KBx114
        go_wp2_with fail
        have HBS := Lib.hid (show w.heap.size ≤ v11.heap.size from HBx115.out.size)
        have hKB := KBx115.out.lt
        have hKA := KAx115.out.lt
        have HTL := HFLx115
        have HO2 := Lib.hid (own_loN O2x115.out)
        obtain ⟨G2, hG2⟩ : ∃ G2 : Nat → Prop, G2 = G' := ⟨_, rfl⟩
        have HGL := Lib.hid (HC2.out.lt)
        refine (theld_tr HTx115.out).mono ?_
        rintro e v12 ⟨A7, n7, c7, rfl, ho, bw⟩
        have HN7 := Lib.hid (HXL.out n7 ho.1)
        have O7 := Lib.hid ho
        have HTx116 := Lib.hid (HTx115.out.below bw)
        have HBx116 := Lib.hid (HBx115.out.trans (bw.mono HBx115.out.size))
        have HFLx116 := Lib.hid (show ∀ q, _ → q < _ from fun q hq => Nat.lt_of_lt_of_le (HFLx115.out q hq) (bw).size)
        have O2x116 := Lib.hid (own_belowN O2x115.out bw)
        have KAx116 := Lib.hid (KAx115.out.below bw)
        have KBx116 := Lib.hid (KBx115.out.below bw)
        have HCx116 := Lib.hid (HC2.out.below bw)
        clear bw ho HTx115 HBx115 HFLx115 O2x115 KAx115 KBx115 HC2
        have hn7 := HN7.out.2
        have HLO7 := Lib.hid (own_loN O7.out)
        have HAP := Lib.hid (show ∀ q, (Value.slice A7 n7 c7).ownBlock = some q → v11.heap.size ≤ q ∧ q < v12.heap.size from fun q hq => own_loN O7.out q hq)
        have HROW := Lib.hid (show ∀ h, A7 = some ⟨h, 0, none⟩ → ∃ L : List Value, Blk v12 h L.toArray 48 ∧ n7 * 34 ≤ L.length from fun h hA => by
          rcases O7.out.2 with ⟨h1, _⟩ | ⟨g7, cap, cur, hv, _, hh, h2, _, h3, _⟩
          · injection h1 with h1; rw [hA] at h1; cases h1
          · injection hv with h1 _ h4
            rw [hA] at h1
            injection h1 with h1
            injection h1 with h1
            subst h1
            exact ⟨cur.toList, by unfold Blk; rw [hh], by rw [Array.length_toList, h3]; exact Nat.mul_le_mul_right _ h2⟩)
        have HADR := Lib.hid (show 0 < n7 → ∃ h, A7 = some ⟨h, 0, none⟩ from fun h => by
          rcases own_addrN O7.out with ⟨_, h2, _⟩ | h1
          · omega
          · exact h1)
        have H99 := Lib.hid (show ∀ W, (Instr.build 48 #[(0, .int .i64 99)]).run Try.prog W = .ok (.agg (ndC spoilNd)) W from fun _ => by kernel_rfl)
        have HIS : Hid ((Try.prog.info? 48).map (·.size) = some (ndC spoilNd).size) := by rw [ndC_size rfl]; exact info_held
        clear O7 hG2
        go_wp2_with fail
        go_loopw [18, 85] (fun _ i wr => ∃ k : Nat, k ≤ n7 ∧ i = .int .i64 k ∧ But (fun q => (Value.slice A7 n7 c7).ownBlock = some q) v12 wr ∧ Hid (∀ h, A7 = some ⟨h, 0, none⟩ → ∃ L : List Value, Blk wr h L.toArray 48 ∧ n7 * 34 ≤ L.length)) (fun _ i _ => n7 - (intOf i).toNat)
        case atStart => exact ⟨0, by omega, rfl, But.refl _, HROW.out⟩
        case round =>
          obtain ⟨j, hj, rfl, hbt, HRW⟩ := hrel
          have HBT := Lib.hid hbt
          clear hbt
          by_cases hlt : j < n7
          · obtain ⟨h, hA⟩ := HADR.out (by omega)
            subst hA
            obtain ⟨L, hL, hL2⟩ := HRW.out h rfl
            have HLB := Lib.hid hL
            have k0 : (0 : Int) ≤ (j : Int) := by omega
            have k1 : (j : Int) < (n7 : Int) := by omega
            have ek : IntKind.i64.wrap ((j : Int) + 1) = ((j + 1 : Nat) : Int) := by rw [IntWalk.i64_in _ (by omega)]; omega
            clear hL HRW
            go_wp2_with (first
              | (refine wpList_build rfl 48 #[(0, .const (.int .i64 99))] rfl (v := .agg (ndC spoilNd)) ?hbld ?_; case hbld => (simp only [List.map_toArray, List.map_cons, List.map_nil]; show (Instr.build 48 #[(0, .int .i64 99)]).run Try.prog _ = _; exact H99.out _))
              | (refine wpList_store_mid rfl 48 (.tmp 91) (.tmp 90) rfl h (j * 34) (ndC spoilNd) rfl rfl (there_of_blk HLB.out (by rw [ndC_size rfl]; omega)) HIS.out (ndC_one _) ?_
                 generalize hwv : World.setCells _ _ _ _ = wv
                 have hB2 : But (fun q => (Value.slice (some ⟨h, 0, none⟩) n7 c7).ownBlock = some q) v12 wv := by rw [← hwv]; exact HBT.out.grown (grown_setCells _ _ _ _) (fun q hq => .inl hq)
                 have hR2 : Blk wv h (splice L (j * 34) (ndC spoilNd).toList).toArray 48 := by rw [← hwv]; exact row_setCells h 48 (ndC spoilNd).toList (j * 34) _ L HLB.out (by rw [Array.length_toList, ndC_size rfl]; omega)
                 have HB2 := Lib.hid hB2
                 have HR2 := Lib.hid hR2
                 clear hwv hB2 hR2 HBT HLB))
            try simp only [Act.put, List.setIfInBounds_toArray, List.set_cons_zero, List.set_cons_succ]
            go_roundw
            case rel => exact ⟨j + 1, by omega, by go_num, HB2.out, fun h' hA' => by
              injection hA' with hA'
              injection hA' with hA'
              subst hA'
              refine ⟨_, HR2.out, ?_⟩
              have hsz : (ndC spoilNd).toList.length = 34 := by rw [Array.length_toList, ndC_size rfl]
              unfold splice
              simp only [List.length_append, List.length_take, List.length_drop, hsz]
              omega⟩
            case measure => simp [intOf]; omega
          · have hap := HBT
            have HTx117 := Lib.hid (HTx116.out.but hap.out (fun q hq hS => by have h1 := (HAP.out q hS).1; have h2 := HTL.out q hq; omega))
            have HBx117 := Lib.hid (HBx116.out.trans (hap.out.below (B := w.heap.size) (fun q hq hS => by have h1 := (HAP.out q hS).1; have h2 := HBS.out; omega) HBx116.out.size))
            have HFLx117 := Lib.hid (show ∀ q, _ → q < _ from fun q hq => Nat.lt_of_lt_of_le (HFLx116.out q hq) (hap.out).size)
            have O2x117 := Lib.hid (Own.but O2x116.out hap.out (fun q hq hS => by have h1 := (HAP.out q hS).1; have h2 := (HO2.out q hq).2; omega))
            have KAx117 := Lib.hid (KAx116.out.but hap.out (fun hS => by have h1 := (HAP.out _ hS).1; omega))
            have KBx117 := Lib.hid (KBx116.out.but hap.out (fun hS => by have h1 := (HAP.out _ hS).1; omega))
            have HCx117 := Lib.hid (HCx116.out.but hap.out (fun q hq hS => by have h1 := (HAP.out q hS).1; have h2 := HGL.out q hq; omega))
            clear hap HBT HRW HTx116 HBx116 HFLx116 O2x116 KAx116 KBx116 HCx116
            go_wp2_with (first
              | (refine wpList_load_row rfl 23 (.tmp 12) rfl v8.heap.size rfl 23 (bva kk) (0, 0) _ KAx117.out Try.underlying23 rfl HIK.out ?_)
              | (refine wpList_load_row rfl 23 (.tmp 14) rfl v9.heap.size rfl 23 (bva kk) (0, 0) _ KBx117.out Try.underlying23 rfl HIK.out ?_))
            refine (thas_tr HCx117.out a).mono ?_
            rintro e v13 ⟨rfl, bw⟩
            rw [HNO.out]
            have HTx118 := Lib.hid (HTx117.out.below bw)
            have HBx118 := Lib.hid (HBx117.out.trans (bw.mono HBx117.out.size))
            have O2x118 := Lib.hid (own_belowN O2x117.out bw)
            have KAx118 := Lib.hid (KAx117.out.below bw)
            have KBx118 := Lib.hid (KBx117.out.below bw)
            have HCx118 := Lib.hid (HCx117.out.below bw)
            clear bw HTx117 HBx117 O2x117 KAx117 KBx117 HCx117
            go_wp2_with fail
            refine (thas_tr HTx118.out a).mono ?_
            rintro e v14 ⟨rfl, bw⟩
            rw [← HBV.out]
            have HTx119 := Lib.hid (HTx118.out.below bw)
            have HBx119 := Lib.hid (HBx118.out.trans (bw.mono HBx118.out.size))
            have O2x119 := Lib.hid (own_belowN O2x118.out bw)
            clear bw HTx118 HBx118 O2x118
            go_wp2_with fail
            refine (theld_tr HTx119.out).mono ?_
            rintro e v15 ⟨A8, n8, c8, rfl, ho, bw⟩
            have HN8 := Lib.hid (HXL.out n8 ho.1)
            have O8 := Lib.hid ho
            have HTx120 := Lib.hid (HTx119.out.below bw)
            have HBx120 := Lib.hid (HBx119.out.trans (bw.mono HBx119.out.size))
            have O2x120 := Lib.hid (own_belowN O2x119.out bw)
            clear bw ho HTx119 HBx119 O2x119
            go_wp2_with fail
            refine (plain_any A8 n8 c8 X _ HN8.out.1 (okS_len HXO.out) (Nat.le_refl _) (Rd.ownN O8.out) (by have := HN8.out.2; omega)).mono ?_
            rintro e v16 ⟨A9, n9, c9, rfl, ho, bw⟩
            have HN9 := Lib.hid (HXL.out n9 ho.1)
            have O9 := Lib.hid ho
            have HBx121 := Lib.hid (HBx120.out.trans (bw.mono HBx120.out.size))
            have O2x121 := Lib.hid (own_belowN O2x120.out bw)
            have O8x121 := Lib.hid (own_belowN O8.out bw)
            clear bw ho HBx120 O2x120 O8
            go_wp2_with fail
            refine (same_any A9 A2 n9 n2 c9 c2 X X _ HN9.out.1 HN2.out.1 (okS_len HXO.out) (okS_len HXO.out) (Rd.ownN O9.out) (Rd.ownN O2x121.out) (by have := HN9.out.2; unfold maxLen; omega) (by have := HN2.out.2; unfold maxLen; omega)).mono ?_
            rintro e v17 ⟨rfl, q, rfl⟩
            rw [decide_eq_true (rfl : X = X)]
            have HBF := Lib.hid (below_drewN' HBx121.out q)
            go_wp2_with fail
            go_ret
            exact ⟨rfl, HBF.out⟩
  · have hd : decide ((n : Int) > 24) = true := decide_eq_true (by omega)
    go_enter Try.func8, Try.ntmps8
    go_wp2_with fail
    refine (ktAwake_any _).mono ?_
    rintro e w1 ⟨rfl, bw⟩
    have CB := Lib.hid (BB.out.trans (bw.mono BB.out.size))
    clear bw B1 BB
    go_wp2_with fail
    refine (ktAwake_any _).mono ?_
    rintro e w2 ⟨rfl, bw⟩
    have CB2 := Lib.hid (CB.out.trans (bw.mono CB.out.size))
    clear bw CB
    go_wp2_with fail
    go_ret
    exact ⟨rfl, CB2.out⟩
theorem keytreeHeld_own : ownKnob Try.prog.godebug = none := by kernel_rfl
theorem keytreeHeld_laid : laidOutB Try.prog = true := by kernel_rfl

set_option maxRecDepth 100000 in
theorem keytreeHeld_lifted (os : Os) (started : os.Started) (H : Type) (enc : TypeId × Value → H) :
    ReturnsInHanded {} Try.checked os 8 .any (Rows.keytreeHeldSpec.pre6 enc Try.prog Try.f8 Rows.keytreeHeldRow.domain false) (Rows.keytreeHeldSpec.post enc Try.prog Try.f8 false true false false) := by
  refine returnsInHanded_of_change (C := Try.checked) keytreeHeld_own started (by kernel_rfl) Try.func8
    (ChangeSpec.witness6 (enc := enc) (C := Try.checked) false ⟨#[], #[.agg #[.int .u8 0, .int .u8 0, .int .u8 0, .int .u8 0, .int .u8 0, .int .u8 0, .int .u8 0, .int .u8 0, .int .u8 0, .int .u8 0, .int .u8 0, .int .u8 0, .int .u8 0, .int .u8 0, .int .u8 0, .int .u8 0, .int .u8 0, .int .u8 0, .int .u8 0, .int .u8 0, .int .u8 0, .int .u8 0, .int .u8 0, .int .u8 0, .int .u8 0, .int .u8 0, .int .u8 0, .int .u8 0, .int .u8 0, .int .u8 0, .int .u8 0, .int .u8 0], .slice none 0 0, .int .u64 0], []⟩ 8 (by kernel_rfl) (by kernel_rfl) (by kernel_rfl) (by kernel_rfl)) ?_
  intro W base args ds gs before hval0 hW _ _
  have hval : ∀ (j : Nat) t v, Try.f8.params[j]? = some t → args[j]? = some v → Value.okWide Try.prog W .any base t v := hval0
  have hW' := hW
  obtain ⟨p, q, hA0, hV, rfl, hfz, hnd⟩ := hW
  have hA : DataW.TrodAll enc Try.prog W 0 (fun _ => true) true Try.f8.params.toList args.toList ds p := hA0
  rw [Try.params8] at hA hval
  obtain ⟨v0, vs0, d0, ds0, p0, q0, hargs, rfl, rfl, h0, r0⟩ := trodAll_cons hA
  obtain ⟨v1, vs1, d1, ds1, p1, q1, rfl, rfl, rfl, h1, r1⟩ := trodAll_cons r0
  obtain ⟨v2, vs2, d2, ds2, p2, q2, rfl, rfl, rfl, h2, r2⟩ := trodAll_cons r1
  obtain ⟨rfl, rfl, rfl⟩ := trodAll_nil r2
  obtain rfl : args = #[v0, v1, v2] := by cases args; simp_all
  obtain ⟨rfl, rfl⟩ := trodVars_none hV
  have lt0 : ∀ x ∈ p0, x.block < W.heap.size := by obtain ⟨m, hm⟩ := h0; exact DataW.trod_lt m _ _ _ hm
  obtain ⟨l0, hl0, rfl⟩ := open_u8s Try.underlying23 Try.underlying5 (by kernel_rfl) (by kernel_rfl) (hval 0 23 v0 rfl rfl) h0
  obtain ⟨a1, n1, c1, rfl⟩ := okWide_slice Try.underlying24 (hval 1 24 v1 rfl rfl)
  have lt1 : ∀ x ∈ p1, x.block < W.heap.size := by obtain ⟨m, hm⟩ := h1; exact DataW.trod_lt m _ _ _ hm
  obtain ⟨l1, hl1, hc1, hm1, hr1, hz1⟩ := open_u64s Try.underlying24 Try.underlying25 (by kernel_rfl) h1
  obtain ⟨a2, rfl, rfl, rfl, w2⟩ := open_int Try.underlying25 (hval 2 25 v2 rfl rfl) h2
  have b2 := bounds_u64 w2
  clear hA0 hval0
  refine (keytreeHeld_any W l0 hl0 a1 n1 c1 l1 hl1 hc1 hm1 hr1 hz1 a2 b2).mono fun e W' ⟨he, bel⟩ => ?_
  subst he
  exact ⟨_, rfl, _, _, _, [], _, [], hW', trodAll_mk1 (shut_bool Try.underlying4 _), (trodAll_cons_mk (Below.trod keytreeHeld_laid (by kernel_rfl) (of_decide_eq_true (by kernel_rfl)) h0 bel lt0) (trodAll_cons_mk (Below.trod keytreeHeld_laid (by kernel_rfl) (of_decide_eq_true (by kernel_rfl)) h1 bel lt1) (trodAll_cons_mk (shut_int Try.underlying25 w2) trodAll_mk0))), rfl, bel.frame _, fun h => by cases h⟩

theorem keytreeHeld_holds : Rows.KeytreeHeldSaid :=
  OpenClaim.holds_of_wide 8 Try.f8 rfl rfl rfl rfl rfl rfl rfl ⟨rfl, rfl, rfl, rfl, rfl⟩ rfl rfl rfl rfl rfl (by kernel_rfl) Try.func8 (by kernel_rfl)
    (of_decide_eq_true (by kernel_rfl)) (by unfold Func.isWrapper; rw [if_neg (of_decide_eq_false (by kernel_rfl))]; exact ⟨rfl, rfl⟩)
    (fun os started H enc _ => keytreeHeld_lifted os started H enc)

#print axioms keytreeHeld_holds

end Go.Proofs.Ytkfcllcdkgnfbaa
