/-
  Who has one held node has its leaves, with the same keys, and no other one's; for every seed, every row of at most 24 numbers (a longer one comes out true unasked), every choice and every number of 16 bits.
-/
import Derived.Test.YtkfcllcdkgnfbaaKtCan
import Derived.Test.YtkfcllcdkgnfbaaRows
import Derived.Test.YtkfcllcdkgnfbaaOpen
import Derived.Test.YtkfcllcdkgnfbaaOpenA
import Derived.ProofKit
import Derived.OpenShut
import Derived.ShutString
import Derived.ChangeOld
namespace Go.Proofs.Ytkfcllcdkgnfbaa
open Go.RowKit Go.ChangeShapes Go.WideShapes Go.ChangeAt
open Kt
attribute [local go_sem ↓] Go.wp_at_zero Go.wp_at_succ
theorem nIn_le (x : Nd) (ms : List Int) : nIn x ms ≤ ms.length := List.length_filter_le _ _
theorem nodup_of (l : List Int) : ∃ d : List Int, d.Nodup ∧ (∀ z, z ∈ l ↔ z ∈ d) ∧ d.length ≤ l.length := by
  induction l with
  | nil => exact ⟨[], List.nodup_nil, fun z => Iff.rfl, Nat.le_refl _⟩
  | cons a l ih =>
    obtain ⟨d, h1, h2, h3⟩ := ih
    by_cases ha : a ∈ d
    · exact ⟨d, h1, fun z => by
        rw [List.mem_cons, h2]
        constructor
        · rintro (rfl | h)
          · exact ha
          · exact h
        · exact fun h => .inr h, by rw [List.length_cons]; omega⟩
    · exact ⟨a :: d, List.nodup_cons.2 ⟨ha, h1⟩, fun z => by rw [List.mem_cons, List.mem_cons, h2], by rw [List.length_cons, List.length_cons]; omega⟩
/-- Behind few punctures something is held. -/
theorem can_some {s : List UInt8} (hs : s.length = 32) (l : List Int) (hl : l.length ≤ 24) : 0 < (canL 17 ⟨0, 0, s⟩ l).length := by
  obtain ⟨d, h1, h2, h3⟩ := nodup_of l
  have hr := (okS_root hs).1
  have hc := count_can 17 ⟨0, 0, s⟩ d hr rfl h1
  rw [can_congr 17 _ h2]
  have hn := nIn_le ⟨0, 0, s⟩ d
  have h0 : manyI (⟨0, 0, s⟩ : Nd).d = 131072 := by show manyI 0 = 131072; decide
  rw [h0] at hc
  cases h : canL 17 ⟨0, 0, s⟩ d with
  | nil => rw [h, countL] at hc; omega
  | cons a b => simp
theorem okS_find : ∀ {e : Int} {l : List Nd}, okS e l → ∀ x ∈ l, ∀ m, inI x m = true → l.find? (inI · m) = some x
  | _, [], _, x, hx, _, _ => by simp at hx
  | e, y :: l, h, x, hx, m, hm => by
    rcases List.mem_cons.1 hx with rfl | hx
    · exact List.find?_cons_of_pos hm
    · have h1 := (okS_mem h.2.2 x hx).2
      have hy : inI y m = false := by
        rw [inI_iff] at hm
        rw [inI_not]; omega
      rw [List.find?_cons_of_neg (by simp [hy])]
      exact okS_find h.2.2 x hx m hm
theorem okS_single {x : Nd} (h : okH x) : okS 0 [x] := ⟨h, h.2.2.1, trivial⟩
theorem shl_many {d : Int} (h0 : 0 ≤ d) (h1 : d ≤ 17) : (2 : Int) ^ (17 - d).toNat = manyI d := (manyI_ok h0 h1).1.symm
set_option maxRecDepth 100000 in
set_option maxHeartbeats 6400000 in
theorem keytreePart_any (w : World) (s : List UInt8) (hs : s.length = 32) (A : Option Addr) (n c : Nat) (l : List Int) (hl : l.length = n) (hc : n ≤ c) (hm : c ≤ maxLen) (hr : Rd w.heap.size w A (iv64 l)) (hz : ∀ z ∈ l, 0 ≤ z ∧ z ≤ 18446744073709551615) (b : Int) (hb : 0 ≤ b ∧ b ≤ 255) (q : Int) (hq : 0 ≤ q ∧ q ≤ 65535) :
    Calls Try.prog 11 #[.agg (bva s), .slice A n c, .int .u8 b, .int .u16 q] w (RetB (.bool true) w) := by
  have HL := Lib.hid hl
  have HR := Lib.hid hr
  have HZ := Lib.hid hz
  have hcm : n ≤ 9223372036854775807 := by unfold maxLen at hm; omega
  clear hl hr hz hc hm
  have HS := Lib.hid hs
  have HK : Hid ((Try.prog.info? 23).map (·.size) = some (bva s).size) := by rw [bva_size, hs]; exact info_keyL
  have B1 := Lib.hid (show Blk (w.alloc (.cells (bva s) 23)) w.heap.size (bva s) 23 from heap_alloc_new _ _)
  have BB := Lib.hid (show Below w.heap.size w (w.alloc (.cells (bva s) 23)) from (Below.refl _ _).alloc (Nat.le_refl _) _)
  clear hs
  obtain ⟨b, rfl⟩ := Int.eq_ofNat_of_zero_le hb.1
  by_cases h24 : n ≤ 24
  · have hd : decide ((n : Int) > 24) = false := decide_eq_false (by omega)
    clear hcm
    go_enter Try.func11, Try.ntmps11
    go_wp2_with fail
    refine (ktAwake_any _).mono ?_
    rintro e w1 ⟨rfl, bw⟩
    have C1 := Lib.hid (B1.out.below bw)
    have CB := Lib.hid (BB.out.trans (bw.mono BB.out.size))
    clear bw B1 BB
    obtain ⟨rt, hrt⟩ : ∃ rt : Nd, rt = ⟨0, 0, s⟩ := ⟨_, rfl⟩
    have HRT := Lib.hid hrt
    have HOK : Hid (okS 0 [rt]) := by rw [hrt]; exact okS_root HS.out
    obtain ⟨zz, hzz⟩ : ∃ zz : List UInt8, zz = List.replicate 32 0 := ⟨_, rfl⟩
    have hz23 : ∀ W, (zeroValue 23).run Try.prog W = .ok (.agg (bva zz)) W := fun _ => by rw [hzz]; kernel_rfl
    have ZZ3 : Hid (zz.length = 32) := by show _ = _; rw [hzz]; rfl
    have HZZ := Lib.hid hzz
    clear hrt hzz
    go_wp2_with (refine wpList_load_row rfl 23 (.tmp 4) rfl w.heap.size rfl 23 (bva s) (0, 0) _ C1.out Try.underlying23 rfl HK.out ?_)
    refine (new_any s HS.out _).mono ?_
    rintro e w2 ⟨⟨g, F, rfl, ht, hF⟩, bw⟩
    rw [← HRT.out] at ht
    have HT := Lib.hid ht
    have HF := Lib.hid (show ∀ q, F q → w.heap.size ≤ q from fun q hq => Nat.le_trans CB.out.size (hF q hq))
    have HB := Lib.hid (CB.out.trans (bw.mono CB.out.size))
    clear ht hF bw C1 CB
    go_wp2_with fail
    go_loopw [10] (fun i wr => ∃ k F, k ≤ n ∧ i = .int .i64 (k : Nat) ∧ Tr wr g (punAll [rt] (l.take k)) F ∧ Hid (∀ q, F q → w.heap.size ≤ q) ∧ Below w.heap.size w wr) (fun i _ => n - (intOf i).toNat)
    case atStart => exact ⟨0, F, by omega, rfl, HT.out, HF, HB.out⟩
    case round =>
      clear HT HF HB
      obtain ⟨k, F, hk, rfl, ht, HF, hbw⟩ := hrel
      have HT := Lib.hid ht
      have HB := Lib.hid hbw
      clear ht hbw
      by_cases hlt : k < n
      · have hkl : k < l.length := by rw [HL.out]; exact hlt
        obtain ⟨ad, hA, hbl, _⟩ := rd_u64 HR.out hkl
        subst hA
        obtain ⟨m, hm⟩ : ∃ m, m = l.getD k 0 := ⟨_, rfl⟩
        have hcell : ∀ w', Below w.heap.size w w' → w'.cell? (ad.add k) = some (.int .u64 m) := fun w' hb' => by
          obtain ⟨ad', hA', _, hc⟩ := rd_u64 (HR.out.below hb') hkl
          injection hA' with hA'
          subst hA'
          rw [hm]; exact hc
        have hmb : 0 ≤ m ∧ m ≤ 18446744073709551615 := HZ.out m (by
          rw [hm, List.getD_eq_getElem?_getD, List.getElem?_eq_getElem hkl]; exact List.getElem_mem hkl)
        have HCL := Lib.hid hcell
        have HMB := Lib.hid hmb
        have HMV := Lib.hid hm
        have k0 : (0 : Int) ≤ (k : Int) := by omega
        have k1 : (k : Int) < (n : Int) := by omega
        clear hcell hmb hm hbl
        have cc := HCL.out _ HB.out
        go_wp2_with fail
        refine (tpuncture_any g _ F m _ HT.out).mono ?_
        rintro e w5 ⟨rfl, hp⟩
        obtain ⟨F5, ht5, hF5, hb5⟩ := pun_one hp HF.out HB.out.size
        rw [HMV.out, ← punAll_snoc _ _ hkl] at ht5
        have HT5 := Lib.hid ht5
        have HF5 := Lib.hid hF5
        have HB5 := Lib.hid (HB.out.trans hb5)
        have ek : IntKind.i64.wrap ((k : Int) + 1) = ((k + 1 : Nat) : Int) := by rw [IntWalk.i64_in _ (by omega)]; omega
        clear hp ht5 hF5 hb5 cc HT HB
        go_wp2_with fail
        go_roundw
        case rel => exact ⟨k + 1, F5, by omega, by go_num, HT5.out, HF5, HB5.out⟩
        case measure => simp [intOf]; omega
      · obtain rfl : k = n := by omega
        have hcan : punAll [rt] (l.take k) = canL 17 rt l := by rw [List.take_of_length_le (by rw [HL.out]; exact Nat.le_refl _), HRT.out]; exact punAll_root HS.out l
        obtain ⟨X, hX⟩ : ∃ X, X = canL 17 rt l := ⟨_, rfl⟩
        have ht := HT.out
        rw [hcan, ← hX] at ht
        have HXV := Lib.hid hX
        have HT2 := Lib.hid ht
        have HXO := Lib.hid ht.ok
        clear HT ht hcan hX
        have HT := HT2
        clear HT2
        have hxn : 0 < X.length := by rw [HXV.out, HRT.out]; exact can_some HS.out l (by rw [HL.out]; exact h24)
        have hxl : ∀ n1, (nvs X).length = n1 * 34 → X.length = n1 ∧ n1 ≤ 131072 := fun n1 h => by
          rw [nvs_length (okS_len HXO.out)] at h
          have := okS_few HXO.out
          exact ⟨by omega, by omega⟩
        have HXL := Lib.hid hxl
        have HXN := Lib.hid hxn
        clear hxl hxn
        go_wp2_with fail
        refine (theld_tr HT.out).mono ?_
        rintro e v1 ⟨A1, n1, c1, rfl, ho, bw⟩
        have HN1 := Lib.hid (HXL.out n1 ho.1)
        have O1 := Lib.hid ho
        have HTx101 := Lib.hid (HT.out.below bw)
        have HBx101 := Lib.hid (HB.out.trans (bw.mono HB.out.size))
        clear bw ho HT HB
        have hn1 : 0 < n1 := by have := HN1.out.1; have := HXN.out; omega
        have hfew := HN1.out.2
        obtain ⟨i, hi⟩ : ∃ i, i = b % n1 := ⟨_, rfl⟩
        have hin : i < n1 := by rw [hi]; exact Nat.mod_lt _ hn1
        have hil : i < X.length := by rw [HN1.out.1]; exact hin
        have e1 : (b : Int) % (n1 : Int) = (i : Int) := by rw [hi, Int.natCast_emod]
        have e2 : (b : Int).tmod (n1 : Int) = (i : Int) := by rw [Int.tmod_eq_emod_of_nonneg (by omega), e1]
        have nz : ((n1 : Int) == 0) = false := by simp; omega
        have i0 : (0 : Int) ≤ (i : Int) := by omega
        have i1 : (i : Int) < (n1 : Int) := by omega
        obtain ⟨ad, hA, hbl, hcell⟩ := rd_node (Rd.ownN O1.out) (okS_len HXO.out) hil
        subst hA
        obtain ⟨x, hxe⟩ : ∃ x, x = X[i] := ⟨_, rfl⟩
        have hxm : x ∈ X := by rw [hxe]; exact List.getElem_mem hil
        have hx : okH x := (okS_mem HXO.out x hxm).1
        rw [← hxe] at hcell
        have HCE := Lib.hid hcell
        have HX := Lib.hid hx
        have HXM := Lib.hid hxm
        have HI : Hid ((Try.prog.info? 48).map (·.size) = some (ndV x).length) := by rw [ndV_length hx.2.2.2.2.2]; exact info_held
        have HIC : Hid ((Try.prog.info? 48).map (·.size) = some (ndC x).size) := by rw [ndC_size hx.2.2.2.2.2]; exact info_held
        obtain ⟨cz, hcz⟩ : ∃ cz, cz = ndC zeroNd := ⟨_, rfl⟩
        have hzh : ∀ W, (zeroValue 48).run Try.prog W = .ok (.agg cz) W := fun _ => by rw [hcz]; kernel_rfl
        have ZH : Hid (cz.size = 34) := by show _ = _; rw [hcz]; exact ndC_size rfl
        obtain ⟨ie, hie, hz0, hz1, hz2⟩ := info_parts info_heldW
        obtain ⟨M, hM⟩ : ∃ M, M = manyI x.d := ⟨_, rfl⟩
        have hMb := hx.many
        rw [← hM] at hMb
        have hd0 : decide (x.d < 0) = false := decide_eq_false (by have := hx.1; omega)
        have hd1 : decide (x.d > 17) = false := decide_eq_false (by have := hx.2.1; omega)
        have hx1 := hx.1
        have hx2 := hx.2.1
        have hxa := hx.2.2.1
        have hxb := hx.2.2.2.2.1
        rw [← hM] at hxb
        have HMV := Lib.hid hM
        clear hcell hxe hx hxm hbl hcz hM hi
        go_wp2_with (first
          | (refine wpList_load_at rfl 48 (.tmp 56) rfl (ad.add (i * 34)) rfl HCE.out Try.underlying48 rfl HI.out ?_
             change wpList _ _ _ _ (Act.put _ _ (.agg (ndC x))) _)
          | (refine wpList_store_row rfl 48 (.tmp 12) (.tmp 57) rfl v1.heap.size (ndC x) rfl rfl 48 cz (heap_alloc_new _ _) HIC.out (by rw [ndC_size HX.out.2.2.2.2.2, ZH.out]) (ndC_one _) ?_
             generalize hwx : World.setRow _ _ _ = wx
             have EB : Below v1.heap.size v1 wx := by rw [← hwx]; exact below_setRow ((Below.refl _ _).alloc (Nat.le_refl _) _) (Nat.le_refl _) _
             have e1' : Blk wx v1.heap.size (ndC x) 48 := by rw [← hwx]; exact setRow_heap _ _ _ _ _ _ (heap_alloc_new _ _)
             have c0 := ndt_d e1'
             have c1' := ndt_a e1'
             have BX := Lib.hid e1'
             have HTx102 := Lib.hid (HTx101.out.below EB)
             have HBx102 := Lib.hid (HBx101.out.trans (EB.mono HBx101.out.size))
             clear hwx EB e1' HTx101 HBx101)
          | (refine wpList_load_row rfl 48 (.tmp 12) rfl v1.heap.size rfl 48 (ndC x) (0, 0) _ BX.out Try.underlying48 rfl HIC.out ?_)
          | (refine wpList_buildSlice rfl 40 48 1 #[(0, .tmp 69)] rfl (ndC x) ie _ Try.underlying40 hie hz0 (by rw [hz1]; omega) (by rw [hz1]; omega) (by rw [hz1]; simp only [List.map_toArray, List.map_cons, List.map_nil]; exact one_fill x HX.out.2.2.2.2.2) ?_))
        have EA : Below wx.heap.size wx (wx.alloc (.cells (ndC x) 48)) := (Below.refl _ _).alloc (Nat.le_refl _) _
        have hrd : Rd (wx.alloc (.cells (ndC x) 48)).heap.size (wx.alloc (.cells (ndC x) 48)) (some ⟨wx.heap.size, 0, none⟩) (nvs [x]) := by
          rw [nvs, nvs, List.append_nil]
          exact rd_ndC (heap_alloc_new _ _)
        have HRD := Lib.hid hrd
        have HTx103 := Lib.hid (HTx102.out.below EA)
        have HBx103 := Lib.hid (HBx102.out.trans (EA.mono HBx102.out.size))
        have BXx103 := Lib.hid (BX.out.below EA)
        clear EA hrd c0 c1' HTx102 HBx102 BX
        refine (from_any (some ⟨wx.heap.size, 0, none⟩) 1 1 [x] _ rfl (fun y hy => by rw [List.mem_singleton] at hy; rw [hy]; exact HX.out.2.2.2.2.2) (fun y hy => by rw [List.mem_singleton] at hy; rw [hy]; exact hxa) (Nat.le_refl _) HRD.out (by omega)).mono ?_
        rintro e v4 ⟨⟨_, g2, F2, rfl, ht2, hF2⟩ | ⟨hnot, _⟩, bw⟩
        rotate_left
        · exact absurd (okS_single HX.out) hnot
        have HT2 := Lib.hid ht2
        have HTx104 := Lib.hid (HTx103.out.below bw)
        have HBx104 := Lib.hid (HBx103.out.trans (bw.mono HBx103.out.size))
        have BXx104 := Lib.hid (BXx103.out.below bw)
        clear bw ht2 hF2 HRD HTx103 HBx103 BXx103
        have c0 := ndt_d BXx104.out
        have c1' := ndt_a BXx104.out
        have es : IntKind.i64.wrap (17 - x.d) = 17 - x.d := IntWalk.i64_in _ (by omega)
        have ep : (2 : Int) ^ (17 - x.d).toNat = M := by rw [HMV.out]; exact shl_many hx1 hx2
        obtain ⟨r, hr⟩ : ∃ r, q.tmod M = r := ⟨_, rfl⟩
        have hr2 : r = q % M := by rw [← hr]; exact Int.tmod_eq_emod_of_nonneg hq.1
        have hr0 : 0 ≤ r ∧ r < M := by rw [hr2]; exact ⟨Int.emod_nonneg _ (by omega), Int.emod_lt_of_pos _ (by omega)⟩
        have hMz : (M == 0) = false := by simp; omega
        obtain ⟨at_, hat⟩ : ∃ z, z = x.a + r := ⟨_, rfl⟩
        have er : IntKind.u64.wrap (x.a + r) = at_ := by rw [hat]; exact IntWalk.u64_in _ (by omega)
        have hinx : inI x at_ = true := by rw [inI_iff, ← HMV.out]; omega
        have HF1 := Lib.hid (okS_find HXO.out x HXM.out at_ hinx)
        have HF2 := Lib.hid (show [x].find? (inI · at_) = some x from okS_find (okS_single HX.out) x (by simp) at_ hinx)
        obtain ⟨kk, hkk⟩ : ∃ kk, kk = (goL (17 - x.d).toNat x at_).s := ⟨_, rfl⟩
        have hk3 : kk.length = 32 := by rw [hkk]; exact goL_s _ _ _ HX.out.2.2.2.2.2
        have HK3 := Lib.hid hk3
        have HKK := Lib.hid hkk
        have HIK : Hid ((Try.prog.info? 23).map (·.size) = some (bva kk).size) := by rw [bva_size, hk3]; exact info_keyL
        have heq : ∀ W, (Op.equalIn 10000 23 (.agg (bva kk)) (.agg (bva kk))).run Try.prog W = .ok true W := fun W => by rw [eq_key kk kk hk3 hk3 W, decide_eq_true rfl]
        have eM : IntKind.i64.wrap M = M := IntWalk.i64_in _ (by omega)
        have eaM : IntKind.u64.wrap (x.a + M) = x.a + M := IntWalk.u64_in _ (by omega)
        have hbM : (M == M) = true := beq_self_eq_true M
        have HNO1 := Lib.hid (show hasI [x] (x.a + M) = false by rw [hasI_single, inI_not, ← HMV.out]; omega)
        have HNO2 := Lib.hid (show hasI [x] (x.a - 1) = false by rw [hasI_single, inI_not]; omega)
        have HCT := Lib.hid (show countL [x] = M by rw [countL, countL, ← HMV.out]; omega)
        clear hr2 hr0 hinx hkk hk3 hat
        go_wp2_with fail
        go_quiet (fail)
        rename_i nq
        have bw : Below v4.heap.size v4 (v4.drewN nq) := below_drewN' (Below.refl _ _) nq
        have HTx105 := Lib.hid (HTx104.out.below bw)
        have HBx105 := Lib.hid (HBx104.out.trans (bw.mono HBx104.out.size))
        have BXx105 := Lib.hid (BXx104.out.below bw)
        have HT2x105 := Lib.hid (HT2.out.below bw)
        clear bw c0 c1' HTx104 HBx104 BXx104 HT2
        generalize v4.drewN nq = v5 at *
        have c0 := ndt_d BXx105.out
        have c1' := ndt_a BXx105.out
        skip
        go_wp2_with fail
        refine (tkey_tr HTx105.out at_).mono ?_
        rintro e v6 ⟨rfl, bw⟩
        rw [HF1.out, keyV_some, ← HKK.out]
        have HTx106 := Lib.hid (HTx105.out.below bw)
        have HBx106 := Lib.hid (HBx105.out.trans (bw.mono HBx105.out.size))
        have BXx106 := Lib.hid (BXx105.out.below bw)
        have HT2x106 := Lib.hid (HT2x105.out.below bw)
        clear bw c0 c1' HTx105 HBx105 BXx105 HT2x105
        go_wp2_with (refine wpList_store_row rfl 23 (.tmp 17) (.tmp 90) rfl v6.heap.size (bva kk) rfl rfl 23 (bva zz) (heap_alloc_new _ _) HIK.out (by rw [bva_size, bva_size, HK3.out, ZZ3.out]) (bva_one _) ?_
                     generalize hwx : World.setRow _ _ _ = wx107
                     have EB : Below v6.heap.size v6 wx107 := by rw [← hwx]; exact below_setRow ((Below.refl _ _).alloc (Nat.le_refl _) _) (Nat.le_refl _) _
                     have KAxn107 := Lib.hid (show Blk wx107 v6.heap.size (bva kk) 23 by rw [← hwx]; exact setRow_heap _ _ _ _ _ _ (heap_alloc_new _ _))
                     have HTx108 := Lib.hid (HTx106.out.below EB)
                     have HBx108 := Lib.hid (HBx106.out.trans (EB.mono HBx106.out.size))
                     have BXx108 := Lib.hid (BXx106.out.below EB)
                     have HT2x108 := Lib.hid (HT2x106.out.below EB)
                     clear hwx EB HTx106 HBx106 BXx106 HT2x106)
        refine (tkey_tr HT2x108.out at_).mono ?_
        rintro e v7 ⟨rfl, bw⟩
        rw [HF2.out, keyV_some, ← HKK.out]
        have HTx109 := Lib.hid (HTx108.out.below bw)
        have HBx109 := Lib.hid (HBx108.out.trans (bw.mono HBx108.out.size))
        have BXx109 := Lib.hid (BXx108.out.below bw)
        have HT2x109 := Lib.hid (HT2x108.out.below bw)
        have KAx109 := Lib.hid (KAxn107.out.below bw)
        clear bw HTx108 HBx108 BXx108 HT2x108 KAxn107
        go_wp2_with (refine wpList_store_row rfl 23 (.tmp 19) (.tmp 96) rfl v7.heap.size (bva kk) rfl rfl 23 (bva zz) (heap_alloc_new _ _) HIK.out (by rw [bva_size, bva_size, HK3.out, ZZ3.out]) (bva_one _) ?_
                     generalize hwx : World.setRow _ _ _ = wx110
                     have EB : Below v7.heap.size v7 wx110 := by rw [← hwx]; exact below_setRow ((Below.refl _ _).alloc (Nat.le_refl _) _) (Nat.le_refl _) _
                     have KBxn110 := Lib.hid (show Blk wx110 v7.heap.size (bva kk) 23 by rw [← hwx]; exact setRow_heap _ _ _ _ _ _ (heap_alloc_new _ _))
                     have HBx111 := Lib.hid (HBx109.out.trans (EB.mono HBx109.out.size))
                     have BXx111 := Lib.hid (BXx109.out.below EB)
                     have HT2x111 := Lib.hid (HT2x109.out.below EB)
                     have KAx111 := Lib.hid (KAx109.out.below EB)
                     clear hwx EB HBx109 BXx109 HT2x109 KAx109)
        have c0 := ndt_d BXx111.out
        have c1' := ndt_a BXx111.out
        refine (tcount_tr HT2x111.out).mono ?_
        rintro e v8 ⟨rfl, bw⟩
        rw [HCT.out]
        have HBx112 := Lib.hid (HBx111.out.trans (bw.mono HBx111.out.size))
        have BXx112 := Lib.hid (BXx111.out.below bw)
        have HT2x112 := Lib.hid (HT2x111.out.below bw)
        have KAx112 := Lib.hid (KAx111.out.below bw)
        have KBx112 := Lib.hid (KBxn110.out.below bw)
        clear bw c0 c1' HBx111 BXx111 HT2x111 KAx111 KBxn110
        have c0 := ndt_d BXx112.out
        have c1' := ndt_a BXx112.out
        go_wp2_with (first
          | (refine wpList_load_if rfl 23 (.tmp 17) rfl (g := v6.heap.size) rfl KAx112.out Try.underlying23 rfl HIK.out ?_)
          | (refine wpList_load_if rfl 23 (.tmp 19) rfl (g := v7.heap.size) rfl KBx112.out Try.underlying23 rfl HIK.out ?_))
        refine (thas_tr HT2x112.out (x.a + M)).mono ?_
        rintro e v9 ⟨rfl, bw⟩
        rw [HNO1.out]
        have HBx113 := Lib.hid (HBx112.out.trans (bw.mono HBx112.out.size))
        have BXx113 := Lib.hid (BXx112.out.below bw)
        have HT2x113 := Lib.hid (HT2x112.out.below bw)
        have KAx113 := Lib.hid (KAx112.out.below bw)
        have KBx113 := Lib.hid (KBx112.out.below bw)
        clear bw c0 c1' HBx112 BXx112 HT2x112 KAx112 KBx112
        have c0 := ndt_d BXx113.out
        have c1' := ndt_a BXx113.out
        by_cases ha0 : x.a = 0
        · have hz : (x.a == 0) = true := by rw [beq_iff_eq]; exact ha0
          clear ha0
          go_wp2_with fail
          go_ret
          exact ⟨rfl, HBx113.out⟩
        · have hz : (x.a == 0) = false := by rw [beq_eq_false_iff_ne]; exact ha0
          have ez : IntKind.u64.wrap (x.a - 1) = x.a - 1 := IntWalk.u64_in _ (by omega)
          clear ha0
          go_wp2_with fail
          refine (thas_tr HT2x113.out (x.a - 1)).mono ?_
          rintro e v10 ⟨rfl, bw⟩
          rw [HNO2.out]
          have HBF := Lib.hid (HBx113.out.trans (bw.mono HBx113.out.size))
          clear bw c0 c1'
          go_wp2_with fail
          go_ret
          exact ⟨rfl, HBF.out⟩
  · have hd : decide ((n : Int) > 24) = true := decide_eq_true (by omega)
    go_enter Try.func11, Try.ntmps11
    go_wp2_with fail
    refine (ktAwake_any _).mono ?_
    rintro e w1 ⟨rfl, bw⟩
    have CB := Lib.hid (BB.out.trans (bw.mono BB.out.size))
    clear bw B1 BB
    go_wp2_with fail
    refine (ktAwake_any _).mono ?_
    rintro e w2 ⟨rfl, bw⟩
    have CB2 := Lib.hid (CB.out.trans (bw.mono CB.out.size))
    clear bw CB
    go_wp2_with fail
    go_ret
    exact ⟨rfl, CB2.out⟩
theorem keytreePart_own : ownKnob Try.prog.godebug = none := by kernel_rfl
theorem keytreePart_laid : laidOutB Try.prog = true := by kernel_rfl

set_option maxRecDepth 100000 in
theorem keytreePart_lifted (os : Os) (started : os.Started) (H : Type) (enc : TypeId × Value → H) :
    ReturnsInHanded {} Try.checked os 11 .any (Rows.keytreePartSpec.pre6 enc Try.prog Try.f11 Rows.keytreePartRow.domain false) (Rows.keytreePartSpec.post enc Try.prog Try.f11 false true false false) := by
  refine returnsInHanded_of_change (C := Try.checked) keytreePart_own started (by kernel_rfl) Try.func11
    (ChangeSpec.witness6 (enc := enc) (C := Try.checked) false ⟨#[], #[.agg #[.int .u8 0, .int .u8 0, .int .u8 0, .int .u8 0, .int .u8 0, .int .u8 0, .int .u8 0, .int .u8 0, .int .u8 0, .int .u8 0, .int .u8 0, .int .u8 0, .int .u8 0, .int .u8 0, .int .u8 0, .int .u8 0, .int .u8 0, .int .u8 0, .int .u8 0, .int .u8 0, .int .u8 0, .int .u8 0, .int .u8 0, .int .u8 0, .int .u8 0, .int .u8 0, .int .u8 0, .int .u8 0, .int .u8 0, .int .u8 0, .int .u8 0, .int .u8 0], .slice none 0 0, .int .u8 0, .int .u16 0], []⟩ 8 (by kernel_rfl) (by kernel_rfl) (by kernel_rfl) (by kernel_rfl)) ?_
  intro W base args ds gs before hval0 hW _ _
  have hval : ∀ (j : Nat) t v, Try.f11.params[j]? = some t → args[j]? = some v → Value.okWide Try.prog W .any base t v := hval0
  have hW' := hW
  obtain ⟨p, q, hA0, hV, rfl, hfz, hnd⟩ := hW
  have hA : DataW.TrodAll enc Try.prog W 0 (fun _ => true) true Try.f11.params.toList args.toList ds p := hA0
  rw [Try.params11] at hA hval
  obtain ⟨v0, vs0, d0, ds0, p0, q0, hargs, rfl, rfl, h0, r0⟩ := trodAll_cons hA
  obtain ⟨v1, vs1, d1, ds1, p1, q1, rfl, rfl, rfl, h1, r1⟩ := trodAll_cons r0
  obtain ⟨v2, vs2, d2, ds2, p2, q2, rfl, rfl, rfl, h2, r2⟩ := trodAll_cons r1
  obtain ⟨v3, vs3, d3, ds3, p3, q3, rfl, rfl, rfl, h3, r3⟩ := trodAll_cons r2
  obtain ⟨rfl, rfl, rfl⟩ := trodAll_nil r3
  obtain rfl : args = #[v0, v1, v2, v3] := by cases args; simp_all
  obtain ⟨rfl, rfl⟩ := trodVars_none hV
  have lt0 : ∀ x ∈ p0, x.block < W.heap.size := by obtain ⟨m, hm⟩ := h0; exact DataW.trod_lt m _ _ _ hm
  obtain ⟨l0, hl0, rfl⟩ := open_u8s Try.underlying23 Try.underlying5 (by kernel_rfl) (by kernel_rfl) (hval 0 23 v0 rfl rfl) h0
  obtain ⟨a1, n1, c1, rfl⟩ := okWide_slice Try.underlying24 (hval 1 24 v1 rfl rfl)
  have lt1 : ∀ x ∈ p1, x.block < W.heap.size := by obtain ⟨m, hm⟩ := h1; exact DataW.trod_lt m _ _ _ hm
  obtain ⟨l1, hl1, hc1, hm1, hr1, hz1⟩ := open_u64s Try.underlying24 Try.underlying25 (by kernel_rfl) h1
  obtain ⟨a2, rfl, rfl, rfl, w2⟩ := open_int Try.underlying5 (hval 2 5 v2 rfl rfl) h2
  have b2 := bounds_u8 w2
  obtain ⟨a3, rfl, rfl, rfl, w3⟩ := open_int Try.underlying60 (hval 3 60 v3 rfl rfl) h3
  have b3 := bounds_u16 w3
  clear hA0 hval0
  refine (keytreePart_any W l0 hl0 a1 n1 c1 l1 hl1 hc1 hm1 hr1 hz1 a2 b2 a3 b3).mono fun e W' ⟨he, bel⟩ => ?_
  subst he
  exact ⟨_, rfl, _, _, _, [], _, [], hW', trodAll_mk1 (shut_bool Try.underlying4 _), (trodAll_cons_mk (Below.trod keytreePart_laid (by kernel_rfl) (of_decide_eq_true (by kernel_rfl)) h0 bel lt0) (trodAll_cons_mk (Below.trod keytreePart_laid (by kernel_rfl) (of_decide_eq_true (by kernel_rfl)) h1 bel lt1) (trodAll_cons_mk (shut_int Try.underlying5 w2) (trodAll_cons_mk (shut_int Try.underlying60 w3) trodAll_mk0)))), rfl, bel.frame _, fun h => by cases h⟩

theorem keytreePart_holds : Rows.KeytreePartSaid :=
  OpenClaim.holds_of_wide 11 Try.f11 rfl rfl rfl rfl rfl rfl rfl ⟨rfl, rfl, rfl, rfl, rfl⟩ rfl rfl rfl rfl rfl (by kernel_rfl) Try.func11 (by kernel_rfl)
    (of_decide_eq_true (by kernel_rfl)) (by unfold Func.isWrapper; rw [if_neg (of_decide_eq_false (by kernel_rfl))]; exact ⟨rfl, rfl⟩)
    (fun os started H enc _ => keytreePart_lifted os started H enc)

#print axioms keytreePart_holds

end Go.Proofs.Ytkfcllcdkgnfbaa
