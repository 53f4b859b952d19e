/-
  KeycodeSpoilt holds: a seed that is another one is read as that one, and no other node changes.
-/
import Derived.Test.YtippbjpodnnhiaaMk1
import Derived.Test.YtippbjpodnnhiaaRows
import Derived.ProofKit
import Derived.OpenShut
import Derived.ShutString
import Derived.ChangeOld
namespace Go.Proofs.Ytippbjpodnnhiaa
open Go.RowKit Go.ChangeShapes Go.WideShapes Go.ChangeAt
open Kg Kc
attribute [local go_sem ↓] Go.wp_at_zero Go.wp_at_succ
set_option maxRecDepth 100000 in
set_option maxHeartbeats 6400000 in
theorem keycodeSpoilt_any (w : World) (s : List UInt8) (hs : s.length = 32) (A : Option Addr) (n c : Nat) (l : List Int) (hl : l.length = n) (_hc : n ≤ c) (_hm : c ≤ maxLen) (hr : Rd w.heap.size w A (iv64 l)) (hz : ∀ z ∈ l, 0 ≤ z ∧ z ≤ 18446744073709551615) (i : Int) (hib : 0 ≤ i ∧ i ≤ 65535) (by' : Int) (hby : 0 ≤ by' ∧ by' ≤ 255) :
    Calls Try.prog 7 #[.agg (bva s), .slice A n c, .int .u16 i, .int .u8 by'] w (RetB (.bool true) w) := by
  have HL := Lib.hid hl
  have HR := Lib.hid hr
  have HZ := Lib.hid hz
  clear hl hr hz _hc _hm
  have HS := Lib.hid hs
  have HK : Hid ((Try.prog.info? 43).map (·.size) = some (bva s).size) := by rw [bva_size, hs]; exact info_keyL
  have B1 := Lib.hid (show Blk (w.alloc (.cells (bva s) 43)) w.heap.size (bva s) 43 from heap_alloc_new _ _)
  have BB := Lib.hid (show Below w.heap.size w (w.alloc (.cells (bva s) 43)) from (Below.refl _ _).alloc (Nat.le_refl _) _)
  have HBL := Lib.hid (show ∀ W, (Instr.build 49 #[]).run Try.prog W = .ok (.agg zeroLit) W from fun _ => by kernel_rfl)
  clear hs
  have HIB := Lib.hid hib
  have HBY := Lib.hid hby
  clear hib hby
  by_cases h24 : n ≤ 12
  · have hd : decide ((n : Int) > 12) = false := decide_eq_false (by omega)
    go_enter Try.func7, Try.ntmps7
    go_wp2_with fail
    refine (kcAwake_any _).mono ?_
    rintro e w1 ⟨rfl, bw⟩
    have C1 := Lib.hid (B1.out.below bw)
    have CB := Lib.hid (BB.out.trans (bw.mono BB.out.size))
    clear bw B1 BB
    obtain ⟨rt, hrt⟩ : ∃ rt : Nd, rt = ⟨0, 0, s⟩ := ⟨_, rfl⟩
    have HRT := Lib.hid hrt
    have HOK : Hid (okS 0 [rt]) := by rw [hrt]; exact okS_root HS.out
    obtain ⟨zz, hzz⟩ : ∃ zz : List UInt8, zz = List.replicate 32 0 := ⟨_, rfl⟩
    have hz23 : ∀ W, (zeroValue 43).run Try.prog W = .ok (.agg (bva zz)) W := fun _ => by rw [hzz]; kernel_rfl
    have ZZ3 : Hid (zz.length = 32) := by show _ = _; rw [hzz]; rfl
    obtain ⟨L, hL⟩ : ∃ L, L = l.map (· % 131072) := ⟨_, rfl⟩
    have HLV := Lib.hid hL
    have HLL := Lib.hid (show L.length = n by rw [hL, List.length_map, HL.out])
    clear hrt hzz hL
    go_wp2_with (first
      | (refine wpList_build rfl 49 #[] rfl (v := .agg zeroLit) ?hbld ?_; case hbld => exact HBL.out _)
      | (refine wpList_load_row rfl 43 (.tmp 4) rfl w.heap.size rfl 43 (bva s) (0, 0) _ C1.out Try.underlying43 rfl HK.out ?_))
    refine (new_any (ci := litC) s HS.out _).mono ?_
    rintro e w2 ⟨⟨g, F, rfl, ht, hF⟩, bw⟩
    rw [← HRT.out] at ht
    have HT := Lib.hid ht
    have HF := Lib.hid (show ∀ q, F q → w.heap.size ≤ q from fun q hq => Nat.le_trans CB.out.size (hF q hq))
    have HB := Lib.hid (CB.out.trans (bw.mono CB.out.size))
    clear ht hF bw C1 CB
    go_wp2_with fail
    go_loopw [11, 31] (fun _ i wr => ∃ k F, k ≤ n ∧ i = .int .i64 (k : Nat) ∧ Tr litC wr g (punAll litC [rt] (L.take k)) F ∧ Hid (∀ q, F q → w.heap.size ≤ q) ∧ Below w.heap.size w wr) (fun _ i _ => n - (intOf i).toNat)
    case atStart => exact ⟨0, F, by omega, rfl, HT.out, HF, HB.out⟩
    case round =>
      clear HT HF HB
      obtain ⟨k, F, hk, rfl, ht, HF, hbw⟩ := hrel
      have HT := Lib.hid ht
      have HB := Lib.hid hbw
      clear ht hbw
      by_cases hlt : k < n
      · have hkl : k < l.length := by rw [HL.out]; exact hlt
        have hkL : k < L.length := by rw [HLL.out]; exact hlt
        obtain ⟨ad, hA, hbl, _⟩ := rd_u64 HR.out hkl
        subst hA
        obtain ⟨m, hm⟩ : ∃ m, m = l.getD k 0 := ⟨_, rfl⟩
        have hcell : ∀ w', Below w.heap.size w w' → w'.cell? (ad.add k) = some (.int .u64 m) := fun w' hb' => by
          obtain ⟨ad', hA', _, hc⟩ := rd_u64 (HR.out.below hb') hkl
          injection hA' with hA'
          subst hA'
          rw [hm]; exact hc
        have hmb : 0 ≤ m ∧ m ≤ 18446744073709551615 := HZ.out m (by
          rw [hm, List.getD_eq_getElem?_getD, List.getElem?_eq_getElem hkl]; exact List.getElem_mem hkl)
        obtain ⟨p, hp⟩ : ∃ p, p = L.getD k 0 := ⟨_, rfl⟩
        have hpm : m % 131072 = p := by
          rw [hp, hm, List.getD_eq_getElem?_getD, List.getD_eq_getElem?_getD, HLV.out, List.getElem?_map, List.getElem?_eq_getElem hkl]; rfl
        have hpt : m.tmod 131072 = p := by rw [Int.tmod_eq_emod_of_nonneg hmb.1, hpm]
        have HCL := Lib.hid hcell
        have HMB := Lib.hid hmb
        have HPV := Lib.hid hp
        have HPM := Lib.hid hpm
        have m0 : 0 ≤ m := hmb.1
        have k0 : (0 : Int) ≤ (k : Int) := by omega
        have k1 : (k : Int) < (n : Int) := by omega
        clear hcell hmb hm hp hbl
        have cc := HCL.out _ HB.out
        go_wp2_with fail
        refine (tpuncture_any g _ F p _ HT.out).mono ?_
        rintro e w5 ⟨rfl, hp⟩
        obtain ⟨F5, ht5, hF5, hb5⟩ := pun_one hp HF.out HB.out.size
        rw [HPV.out, ← punAll_snoc _ _ hkL] at ht5
        have HT5 := Lib.hid ht5
        have HF5 := Lib.hid hF5
        have HB5 := Lib.hid (HB.out.trans hb5)
        have ek : IntKind.i64.wrap ((k : Int) + 1) = ((k + 1 : Nat) : Int) := by rw [IntWalk.i64_in _ (by omega)]; omega
        clear hp ht5 hF5 hb5 cc HT HB hpm hpt
        go_wp2_with fail
        go_roundw
        case rel => exact ⟨k + 1, F5, by omega, by go_num, HT5.out, HF5, HB5.out⟩
        case measure => simp [intOf]; omega
      · obtain rfl : n = k := by omega
        have hcan : punAll litC [rt] (L.take n) = canL litC 17 rt L := by rw [List.take_of_length_le (by rw [HLL.out]; exact Nat.le_refl _), HRT.out]; exact punAll_root HS.out L
        obtain ⟨X, hX⟩ : ∃ X, X = canL litC 17 rt L := ⟨_, rfl⟩
        have ht := HT.out
        rw [hcan, ← hX] at ht
        have HXV := Lib.hid hX
        have HT2 := Lib.hid ht
        have HXO := Lib.hid ht.ok
        have HXN := Lib.hid (show X.length ≤ 65535 by
          have h1 := length_can (ci := litC) 17 rt L (by rw [HRT.out]; exact (okS_root HS.out).1) (by rw [HRT.out]; rfl)
          have h2 : nIn rt L ≤ n := by rw [← HLL.out]; exact List.length_filter_le _ _
          rw [← hX] at h1; omega)
        clear HT ht hcan hX
        have HT := HT2
        clear HT2
        clear HOK hz23 ZZ3
        go_wp2_with fail
        have HWB := Lib.hid (show w.heap.size ≤ wr.heap.size from HB.out.size)
        refine (theld_tr HT.out).mono ?_
        rintro e v1 ⟨A1, nA1, cA1, rfl, ho, bw⟩
        have HNA1 := Lib.hid (show X.length = nA1 by have h1 := ho.1; rw [nvs_length (okS_len HXO.out)] at h1; omega)
        have O1 := Lib.hid ho
        have HTx101 := Lib.hid (HT.out.below bw)
        have HBx101 := Lib.hid (HB.out.trans (bw.mono HB.out.size))
        clear bw ho HT HB
        by_cases hx0 : nA1 = 0
        · have h0 : ((nA1 : Int) == 0) = true := by rw [hx0]; rfl
          go_wp2_with fail
          go_ret
          exact ⟨rfl, HBx101.out⟩
        have h0 : ((nA1 : Int) == 0) = false := by rw [beq_eq_false_iff_ne]; omega
        have hn6 : nA1 ≤ 65535 := by have h1 := HXN.out; have h2 := HNA1.out; omega
        obtain ⟨h, hA⟩ : ∃ h, A1 = some ⟨h, 0, none⟩ := by
          rcases own_addrN O1.out with ⟨_, h0, _⟩ | h0
          · exact absurd h0 hx0
          · exact h0
        subst hA
        have HHV := Lib.hid (show h < v1.heap.size ∧ w.heap.size ≤ h from ⟨(own_loN O1.out h rfl).2, Nat.le_trans HWB.out (own_loN O1.out h rfl).1⟩)
        have HN1 := Lib.hid (show 0 < nA1 by omega)
        clear hx0
        go_wp2_with fail
        refine (kenc_any (some ⟨h, 0, none⟩) nA1 cA1 X _ HNA1.out (okS_len HXO.out) (fun y hy => (okS_mem HXO.out y hy).1.2.2.1) (Nat.le_refl _) (Rd.ownN O1.out) (by omega)).mono ?_
        rintro e v2 ⟨bw, ⟨_, Y1, mY1, cY1, rfl, ho⟩ | ⟨hno, _⟩ | ⟨⟨_, hno⟩, _⟩⟩
        rotate_left
        · exact absurd HXO.out hno
        · exact absurd hno (by have h1 := HXN.out; omega)
        have hm := own_blen ho
        have HMY1 := Lib.hid (show mY1 = 2 + 36 * nA1 by rw [← hm, ← HNA1.out]; exact encB_length (okS_len HXO.out))
        have HCY1 := Lib.hid (cap_own ho)
        have E1 := Lib.hid ho
        have HBx102 := Lib.hid (HBx101.out.trans (bw.mono HBx101.out.size))
        have O1x102 := Lib.hid (own_belowN O1.out bw)
        clear bw ho hm HBx101 O1
        have hmy := HMY1.out
        have hib := HIB.out
        obtain ⟨k, hk⟩ : ∃ k : Nat, (k : Int) = i % (nA1 : Int) := ⟨(i % (nA1 : Int)).toNat, Int.toNat_of_nonneg (Int.emod_nonneg _ (by have := HN1.out; omega))⟩
        obtain ⟨j, hj⟩ : ∃ j : Nat, (j : Int) = i % 32 := ⟨(i % 32).toNat, Int.toNat_of_nonneg (by omega)⟩
        have hkm : (k : Int) < (nA1 : Int) := by rw [hk]; exact Int.emod_lt_of_pos _ (by have := HN1.out; omega)
        have hj32 : (j : Int) < 32 := by omega
        have e1 : IntKind.i64.wrap i = i := IntWalk.i64_in _ (by omega)
        have e2 : i.tmod (nA1 : Int) = (k : Int) := by rw [Int.tmod_eq_emod_of_nonneg hib.1, hk]
        have e3 : i % (nA1 : Int) = (k : Int) := hk.symm
        have e4 : i.tmod 32 = (j : Int) := by rw [Int.tmod_eq_emod_of_nonneg hib.1, hj]
        have e5 : i % 32 = (j : Int) := hj.symm
        have hn0 : ¬ (nA1 : Int) = 0 := by have := HN1.out; omega
        have e6 : IntKind.i64.wrap (36 * (nA1 : Int)) = 36 * (nA1 : Int) := IntWalk.i64_in _ (by omega)
        have e7 : IntKind.i64.wrap (2 + 36 * (nA1 : Int)) = (mY1 : Int) := by rw [IntWalk.i64_in _ (by omega)]; omega
        obtain ⟨p, hp⟩ : ∃ p, p = 2 + 36 * k + 4 + j := ⟨_, rfl⟩
        have f1 : IntKind.i64.wrap (36 * (k : Int)) = 36 * (k : Int) := IntWalk.i64_in _ (by omega)
        have f2 : IntKind.i64.wrap (2 + 36 * (k : Int)) = 2 + 36 * (k : Int) := IntWalk.i64_in _ (by omega)
        have f3 : IntKind.i64.wrap (2 + 36 * (k : Int) + 4) = 2 + 36 * (k : Int) + 4 := IntWalk.i64_in _ (by omega)
        have f4 : IntKind.i64.wrap (2 + 36 * (k : Int) + 4 + (j : Int)) = (p : Int) := by rw [IntWalk.i64_in _ (by omega)]; omega
        have p0 : (0 : Int) ≤ (p : Int) := by omega
        have p1 : (p : Int) < (mY1 : Int) := by omega
        have hkX : k < X.length := by rw [HNA1.out]; omega
        have hjN : j < 32 := by omega
        obtain ⟨gb, hY⟩ : ∃ gb, Y1 = some ⟨gb, 0, none⟩ ∧ v1.heap.size ≤ gb := by
          obtain ⟨gb, h1, h2, _⟩ := own_addr E1.out (by omega)
          exact ⟨gb, h1, h2⟩
        obtain ⟨rfl, hgb⟩ := hY
        have hxs : X[k].s.length = 32 := okS_len HXO.out _ (List.getElem_mem hkX)
        obtain ⟨c0, hc0⟩ : ∃ c0, X[k].s[j]? = some c0 := ⟨_, List.getElem?_eq_getElem (l := X[k].s) (i := j) (by rw [hxs]; exact hjN)⟩
        obtain ⟨B, hB⟩ : ∃ B : UInt8, (B.toNat : Int) = by' := ⟨UInt8.ofNat by'.toNat, by have := HBY.out; rw [UInt8.toNat_ofNat']; omega⟩
        subst hB
        obtain ⟨y, hy⟩ : ∃ y, y = c0 ^^^ B := ⟨_, rfl⟩
        have hbx : bits BinOp.xor IntKind.u8 (c0.toNat : Int) (B.toNat : Int) = (y.toNat : Int) := by rw [hy]; exact bits_xor8 c0 B
        have hcb : v2.cell? ⟨gb, p, none⟩ = some (.int .u8 (c0.toNat : Int)) := by
          rw [E1.out.cellAt p (by omega), bv, List.getElem?_map, hp, encB_get (okS_len HXO.out) hkX hjN, hc0]; rfl
        have hfb : v2.frozen? ⟨gb, p, none⟩ = false := E1.out.frozenAt p
        have hst := E1.out.stored p (.int .u8 (y.toNat : Int))
        have hset : (bv (encB X)).set p (.int .u8 (y.toNat : Int)) = bv (encB (X.set k (spoilN X[k] j y))) := by
          rw [bv, ← List.map_set, hp, encB_set (okS_len HXO.out) hkX hjN]; rfl
        rw [hset] at hst
        have hnx := nvs_set (okS_len HXO.out) hkX hjN y
        have hnc := nvs_get (okS_len HXO.out) hkX hjN
        rw [bv, List.getElem?_map, hc0] at hnc
        have hok2 := okS_spoil HXO.out hkX j y
        have hl2 : (X.set k (spoilN X[k] j y)).length = nA1 := by rw [List.length_set, HNA1.out]
        obtain ⟨Z, hZ⟩ : ∃ Z, Z = X.set k (spoilN X[k] j y) := ⟨_, rfl⟩
        rw [← hZ] at hst hnx hok2 hl2
        have HST := Lib.hid hst
        have HNX := Lib.hid hnx
        have HNC := Lib.hid hnc
        have HZO := Lib.hid hok2
        have HZL := Lib.hid hl2
        have HGB := Lib.hid hgb
        have HP := Lib.hid hp
        have HK := Lib.hid hkm
        have HJ := Lib.hid hj32
        clear hmy hib hk hj hp hkX hxs hc0 hy hset hst hnx hnc hok2 hl2 hZ hgb
        go_wp2_with fail
        generalize hv3 : World.setCell v2 _ _ = v3
        have hg3 : v2.grownBy v3 (some gb) := by rw [← hv3]; exact HST.out.2
        have e3' := HST.out.1
        rw [hv3] at e3'
        have HZN := Lib.hid (show Z.length ≤ 65535 by rw [HZL.out]; exact hn6)
        have E3 := Lib.hid e3'
        have O3 := Lib.hid (show v3.ownsRow _ 61 34 (.slice (some ⟨h, 0, none⟩) nA1 cA1) nA1 (nvs X) from O1x102.out.kept hg3 (.inr (fun e => by
          have e1 : h = gb := by simpa [Value.ownBlock] using e
          have := HHV.out.1
          have := HGB.out
          omega)))
        have B3 := Lib.hid (show Below w.heap.size w v3 from HBx102.out.grown hg3 HBx102.out.size (fun q e => by cases e; have h1 := HHV.out; have h2 := HGB.out; omega))
        have HSZ := Lib.hid (show gb < v3.heap.size from (E3.out.lt gb rfl).2)
        clear hv3 hg3 e3' O1x102 E1 HBx102 HST hcb hfb f1 f2 f3 f4 e1 e2 e3 e4 e5 p0 p1
        refine (kdec_any (some ⟨gb, 0, none⟩) mY1 cY1 (encB Z) _ (own_blen E3.out) HCY1.out.1 (Nat.le_refl _) (Rd.own E3.out) (by have := HMY1.out; omega)).mono ?_
        rintro e v4 ⟨bw, ⟨_, A3, m3, c3, rfl, ho⟩ | ⟨hno, _⟩⟩
        rotate_left
        · exact absurd (okY_encB HZO.out HZN.out) hno
        rw [(dec_encB HZO.out HZN.out).2] at ho
        have hm3 : m3 = nA1 := by have h1 := ho.1; rw [nvs_length (okS_len HZO.out), HZL.out] at h1; omega
        subst hm3
        have O4 := Lib.hid (own_belowN O3.out bw)
        have E4 := Lib.hid (own_below E3.out bw)
        have B4 := Lib.hid (B3.out.trans (bw.mono B3.out.size))
        have L4 := Lib.hid ho
        clear bw ho O3 E3 B3
        have HLD := Lib.hid (own_loN L4.out)
        have HVS := Lib.hid (show gb < v4.heap.size from (E4.out.lt gb rfl).2)
        have HMQ := Lib.hid (show mY1 ≤ 2400000 by have := HMY1.out; omega)
        go_wp2_with fail
        go_loopw [93] (fun i wr => ∃ (q : Nat) (ZB : List UInt8), q ≤ mY1 ∧ i = .int .i64 q ∧ But (fun r => gb = r) v4 wr ∧ wr.ownsRow _ 5 1 (.slice (some ⟨gb, 0, none⟩) mY1 cY1) mY1 (bv ZB)) (fun i _ => mY1 - (intOf i).toNat)
        case atStart => exact ⟨0, encB Z, by omega, rfl, But.refl _, E4.out⟩
        case round =>
          obtain ⟨q, ZB, hq, rfl, hbt, how⟩ := hrel
          have HBT := Lib.hid hbt
          by_cases hlt : q < mY1
          · have q0 : (0 : Int) ≤ (q : Int) := by omega
            have q1 : (q : Int) < (mY1 : Int) := by omega
            have eq : IntKind.i64.wrap ((q : Int) + 1) = ((q + 1 : Nat) : Int) := by rw [IntWalk.i64_in _ (by have := HMQ.out; omega)]; omega
            have hzl := own_blen how
            obtain ⟨u, hu⟩ : ∃ u, (bv ZB)[q]? = some u := ⟨_, bv_get (by omega)⟩
            have hc := how.cellAt q (by omega)
            rw [hu] at hc
            have hf := how.frozenAt q
            have hst := how.stored q (.int .u8 0)
            have hbs : (bv ZB).set q (.int .u8 0) = bv (ZB.set q 0) := by rw [bv, bv, List.map_set]; rfl
            rw [hbs] at hst
            have HST := Lib.hid hst
            have HB2 := Lib.hid (hbt.grown hst.2 (fun r hr => .inl (by cases hr; rfl)))
            clear hbt how hst hbs hzl hu
            go_wp2_with fail
            go_roundw
            case rel => exact ⟨q + 1, ZB.set q 0, by omega, by go_num, HB2.out, HST.out.1⟩
            case measure => simp [intOf]; omega
          · obtain rfl : mY1 = q := by omega
            have O5 := Lib.hid (Own.but O4.out HBT.out (fun r hr e => by
              have e1 : h = r := by simpa [Value.ownBlock] using hr
              have h1 := HHV.out.1
              have h2 := HGB.out
              omega))
            have L5 := Lib.hid (Own.but L4.out HBT.out (fun r hr e => by
              have h1 := (HLD.out r hr).1
              have h2 := HSZ.out
              omega))
            have B5 := Lib.hid (B4.out.trans (HBT.out.below (B := w.heap.size) (fun r hr e => by have h1 := HHV.out; have h2 := HGB.out; omega) B4.out.size))
            clear hbt how HBT
            obtain ⟨r, hr⟩ : ∃ r, r = k * 34 + 2 + j := ⟨_, rfl⟩
            have hkm := HK.out
            have hjm := HJ.out
            have hca : wr.cell? ⟨h, r, none⟩ = some (.int .u8 (c0.toNat : Int)) := by
              rw [O5.out.cellAt r (by omega), hr, HNC.out]; rfl
            have hfa : wr.frozen? ⟨h, r, none⟩ = false := O5.out.frozenAt r
            have hst := O5.out.stored r (.int .u8 (y.toNat : Int))
            rw [hr, HNX.out, ← hr] at hst
            have HST := Lib.hid hst
            have k0 : (0 : Int) ≤ (k : Int) := by omega
            have j0 : (0 : Int) ≤ (j : Int) := by omega
            subst hr
            clear hst hkm hjm
            go_wp2_with fail
            refine wp_region_any (by kernel_rfl) ?_
            change wpAny _ _ _ _ _ _ _ (World.drew wr)
            refine wpAny_take (i := 0) (v := ?a0) rfl (by kernel_rfl) (by kernel_rfl) (by kernel_rfl) (fun _ _ _ h => h) (Or.inl ⟨by rfl, ?ya0⟩) ?_
            case ya0 => (intro w'; go_simp; try with_reducible rfl)
            refine wpAny_take (i := 1) (v := ?a1) rfl (by kernel_rfl) (by kernel_rfl) (by kernel_rfl) (fun _ _ _ h => h) (Or.inl ⟨by rfl, ?ya1⟩) ?_
            case ya1 => (intro w'; go_simp; try with_reducible rfl)
            try simp only [List.getElem_toArray, List.getElem_cons_succ, List.getElem_cons_zero, Act.put, List.setIfInBounds_toArray, List.set_cons_zero, List.set_cons_succ]
            refine wpAny_take (i := 2) (v := ?a2) rfl (by kernel_rfl) (by kernel_rfl) (by kernel_rfl) (fun _ _ _ h => h) (Or.inl ⟨by rfl, ?ya2⟩) ?_
            case ya2 => (intro w'; go_simp; try with_reducible rfl)
            try simp only [List.getElem_toArray, List.getElem_cons_succ, List.getElem_cons_zero, Act.put, List.setIfInBounds_toArray, List.set_cons_zero, List.set_cons_succ]
            refine wpAny_take (i := 3) (v := ?a3) rfl (by kernel_rfl) (by kernel_rfl) (by kernel_rfl) (fun _ _ _ h => h) (Or.inl ⟨by rfl, ?ya3⟩) ?_
            case ya3 => (intro w'; go_simp; try with_reducible rfl)
            try simp only [List.getElem_toArray, List.getElem_cons_succ, List.getElem_cons_zero, Act.put, List.setIfInBounds_toArray, List.set_cons_zero, List.set_cons_succ]
            refine wpAny_take (i := 4) (v := ?a4) rfl (by kernel_rfl) (by kernel_rfl) (by kernel_rfl) (fun _ _ _ h => h) (Or.inl ⟨by rfl, ?ya4⟩) ?_
            case ya4 => (intro w'; go_simp; try with_reducible rfl)
            try simp only [List.getElem_toArray, List.getElem_cons_succ, List.getElem_cons_zero, Act.put, List.setIfInBounds_toArray, List.set_cons_zero, List.set_cons_succ]
            refine wpAny_take (i := 5) (v := ?a5) rfl (by kernel_rfl) (by kernel_rfl) (by kernel_rfl) (fun _ _ _ h => h) (Or.inl ⟨by rfl, ?ya5⟩) ?_
            case ya5 => (intro w'; go_simp; try with_reducible rfl)
            try simp only [List.getElem_toArray, List.getElem_cons_succ, List.getElem_cons_zero, Act.put, List.setIfInBounds_toArray, List.set_cons_zero, List.set_cons_succ]
            refine wpAny_take (i := 7) (v := ?b7) rfl (by kernel_rfl) (by kernel_rfl) (by kernel_rfl) (fun _ _ _ h => h) (Or.inl ⟨by rfl, ?yb7⟩) ?_
            case yb7 => (intro w'; go_simp; try with_reducible rfl)
            try simp only [List.getElem_toArray, List.getElem_cons_succ, List.getElem_cons_zero, Act.put, List.setIfInBounds_toArray, List.set_cons_zero, List.set_cons_succ]
            refine wpAny_take (i := 9) (v := ?b9) rfl (by kernel_rfl) (by kernel_rfl) (by kernel_rfl) (fun _ _ _ h => h) (Or.inl ⟨by rfl, ?yb9⟩) ?_
            case yb9 => (intro w'; go_simp; try with_reducible rfl)
            try simp only [List.getElem_toArray, List.getElem_cons_succ, List.getElem_cons_zero, Act.put, List.setIfInBounds_toArray, List.set_cons_zero, List.set_cons_succ]
            refine wpAny_take (i := 10) (v := ?b10) rfl (by kernel_rfl) (by kernel_rfl) (by kernel_rfl) (fun _ _ _ h => h) (Or.inl ⟨by rfl, ?yb10⟩) ?_
            case yb10 => (intro w'; go_simp; try with_reducible rfl)
            try simp only [List.getElem_toArray, List.getElem_cons_succ, List.getElem_cons_zero, Act.put, List.setIfInBounds_toArray, List.set_cons_zero, List.set_cons_succ]
            refine wpAny_look (i := 6) (v := .int .u8 (c0.toNat : Int)) rfl (by kernel_rfl) (by kernel_rfl) (by kernel_rfl) (fun _ _ _ h => h) (by rfl) ?z6 ?_
            case z6 => (go_simp; try with_reducible rfl)
            try simp only [List.getElem_toArray, List.getElem_cons_succ, List.getElem_cons_zero, Act.put, List.setIfInBounds_toArray, List.set_cons_zero, List.set_cons_succ]
            refine wpAny_take (i := 8) (v := ?b8) rfl (by kernel_rfl) (by kernel_rfl) (by kernel_rfl) (fun _ _ _ h => h) (Or.inl ⟨by rfl, ?yb8⟩) ?_
            case yb8 => (intro w'; go_simp; try with_reducible rfl)
            try simp only [List.getElem_toArray, List.getElem_cons_succ, List.getElem_cons_zero, Act.put, List.setIfInBounds_toArray, List.set_cons_zero, List.set_cons_succ]
            refine wpAny_take (i := 11) (v := ?b11) rfl (by kernel_rfl) (by kernel_rfl) (by kernel_rfl) (fun _ _ _ h => h) (Or.inl ⟨by rfl, ?yb11⟩) ?_
            case yb11 => (intro w'; go_simp; try with_reducible rfl)
            try simp only [List.getElem_toArray, List.getElem_cons_succ, List.getElem_cons_zero, Act.put, List.setIfInBounds_toArray, List.set_cons_zero, List.set_cons_succ]
            refine wpAny_ready (rs := [12]) (by kernel_rfl) (by simp) (AllReady.cons rfl (fun K hK => ?_) AllReady.nil)
            go_simp
            generalize hv9 : World.setCell _ _ _ = v9
            have o9 := HST.out
            have hg9 : wr.grownBy (World.setCell wr ⟨h, k * 34 + 2 + j, none⟩ (.int .u8 (y.toNat : Int))) (some h) := grown_setCell wr h (k * 34 + 2 + j) _
            have o9' : (World.setCell wr ⟨h, k * 34 + 2 + j, none⟩ (.int .u8 (y.toNat : Int))).ownsRow _ 61 34 (.slice (some ⟨h, 0, none⟩) m3 cA1) m3 (nvs Z) := o9.1
            rw [hv9] at hg9 o9'
            have O9 := Lib.hid o9'
            have L9 := Lib.hid (show v9.ownsRow _ 61 34 (.slice A3 m3 c3) m3 (nvs Z) from World.ownsRow.kept (w := wr) L5.out hg9 (by
              cases hA7 : A3 with
              | none => exact .inl rfl
              | some a7 =>
                refine .inr fun e => ?_
                have e1 : (Value.slice A3 m3 c3).ownBlock = some h := by rw [hA7]; exact e
                have h1 := (HLD.out h e1).1
                have h2 := HHV.out.1
                have h3 := HGB.out
                have h4 := HSZ.out
                omega))
            have B9 := Lib.hid (show Below w.heap.size w v9 from B5.out.grown hg9 B5.out.size (fun q e => by cases e; exact HHV.out.2))
            refine hK _ _ ?_
            clear hK K hv9 hg9 o9 o9' O5 L5 B5 HST hca hfa
            refine wpAny_done (by kernel_rfl) ?_ _
            go_wp2_with fail
            refine (same_any A3 (some ⟨h, 0, none⟩) m3 m3 c3 cA1 Z Z _ HZL.out HZL.out (okS_len HZO.out) (okS_len HZO.out) (Rd.ownN (show v9.drew.ownsRow _ 61 34 _ m3 (nvs Z) from L9.out)) (Rd.ownN (show v9.drew.ownsRow _ 61 34 _ m3 (nvs Z) from O9.out)) (by unfold maxLen; omega) (by unfold maxLen; omega)).mono ?_
            rintro e v10 ⟨rfl, q, rfl⟩
            rw [decide_eq_true (rfl : Z = Z)]
            go_wp2_with fail
            go_ret
            exact ⟨rfl, below_drewN' B9.out _⟩
  · have hd : decide ((n : Int) > 12) = true := decide_eq_true (by omega)
    go_enter Try.func7, Try.ntmps7
    go_wp2_with fail
    refine (kcAwake_any _).mono ?_
    rintro e w1 ⟨rfl, bw⟩
    have CB := Lib.hid (BB.out.trans (bw.mono BB.out.size))
    clear bw B1 BB
    go_wp2_with fail
    go_ret
    exact ⟨rfl, CB.out⟩
theorem keycodeSpoilt_own : ownKnob Try.prog.godebug = none := by kernel_rfl
theorem keycodeSpoilt_laid : laidOutB Try.prog = true := by kernel_rfl

set_option maxRecDepth 100000 in
theorem keycodeSpoilt_lifted (os : Os) (started : os.Started) (H : Type) (enc : TypeId × Value → H) :
    ReturnsInHanded {} Try.checked os 7 .any (Rows.keycodeSpoiltSpec.pre6 enc Try.prog Try.f7 Rows.keycodeSpoiltRow.domain false) (Rows.keycodeSpoiltSpec.post enc Try.prog Try.f7 false true false false) := by
  refine returnsInHanded_of_change (C := Try.checked) keycodeSpoilt_own started (by kernel_rfl) Try.func7
    (ChangeSpec.witness6 (enc := enc) (C := Try.checked) false ⟨#[], #[.agg #[.int .u8 0, .int .u8 0, .int .u8 0, .int .u8 0, .int .u8 0, .int .u8 0, .int .u8 0, .int .u8 0, .int .u8 0, .int .u8 0, .int .u8 0, .int .u8 0, .int .u8 0, .int .u8 0, .int .u8 0, .int .u8 0, .int .u8 0, .int .u8 0, .int .u8 0, .int .u8 0, .int .u8 0, .int .u8 0, .int .u8 0, .int .u8 0, .int .u8 0, .int .u8 0, .int .u8 0, .int .u8 0, .int .u8 0, .int .u8 0, .int .u8 0, .int .u8 0], .slice none 0 0, .int .u16 0, .int .u8 0], []⟩ 8 (by kernel_rfl) (by kernel_rfl) (by kernel_rfl) (by kernel_rfl)) ?_
  intro W base args ds gs before hval0 hW _ _
  have hval : ∀ (j : Nat) t v, Try.f7.params[j]? = some t → args[j]? = some v → Value.okWide Try.prog W .any base t v := hval0
  have hW' := hW
  obtain ⟨p, q, hA0, hV, rfl, hfz, hnd⟩ := hW
  have hA : DataW.TrodAll enc Try.prog W 0 (fun _ => true) true Try.f7.params.toList args.toList ds p := hA0
  rw [Try.params7] at hA hval
  obtain ⟨v0, vs0, d0, ds0, p0, q0, hargs, rfl, rfl, h0, r0⟩ := trodAll_cons hA
  obtain ⟨v1, vs1, d1, ds1, p1, q1, rfl, rfl, rfl, h1, r1⟩ := trodAll_cons r0
  obtain ⟨v2, vs2, d2, ds2, p2, q2, rfl, rfl, rfl, h2, r2⟩ := trodAll_cons r1
  obtain ⟨v3, vs3, d3, ds3, p3, q3, rfl, rfl, rfl, h3, r3⟩ := trodAll_cons r2
  obtain ⟨rfl, rfl, rfl⟩ := trodAll_nil r3
  obtain rfl : args = #[v0, v1, v2, v3] := by cases args; simp_all
  obtain ⟨rfl, rfl⟩ := trodVars_none hV
  have lt0 : ∀ x ∈ p0, x.block < W.heap.size := by obtain ⟨m, hm⟩ := h0; exact DataW.trod_lt m _ _ _ hm
  obtain ⟨l0, hl0, rfl⟩ := open_u8s Try.underlying43 Try.underlying5 (by kernel_rfl) (by kernel_rfl) (hval 0 43 v0 rfl rfl) h0
  obtain ⟨a1, n1, c1, rfl⟩ := okWide_slice Try.underlying44 (hval 1 44 v1 rfl rfl)
  have lt1 : ∀ x ∈ p1, x.block < W.heap.size := by obtain ⟨m, hm⟩ := h1; exact DataW.trod_lt m _ _ _ hm
  obtain ⟨l1, hl1, hc1, hm1, hr1, hz1⟩ := open_u64s Try.underlying44 Try.underlying38 (by kernel_rfl) h1
  obtain ⟨a2, rfl, rfl, rfl, w2⟩ := open_int Try.underlying58 (hval 2 58 v2 rfl rfl) h2
  have b2 := bounds_u16 w2
  obtain ⟨a3, rfl, rfl, rfl, w3⟩ := open_int Try.underlying5 (hval 3 5 v3 rfl rfl) h3
  have b3 := bounds_u8 w3
  clear hA0 hval0
  refine (keycodeSpoilt_any W l0 hl0 a1 n1 c1 l1 hl1 hc1 hm1 hr1 hz1 a2 b2 a3 b3).mono fun e W' ⟨he, bel⟩ => ?_
  subst he
  exact ⟨_, rfl, _, _, _, [], _, [], hW', trodAll_mk1 (shut_bool Try.underlying4 _), (trodAll_cons_mk (Below.trod keycodeSpoilt_laid (by kernel_rfl) (of_decide_eq_true (by kernel_rfl)) h0 bel lt0) (trodAll_cons_mk (Below.trod keycodeSpoilt_laid (by kernel_rfl) (of_decide_eq_true (by kernel_rfl)) h1 bel lt1) (trodAll_cons_mk (shut_int Try.underlying58 w2) (trodAll_cons_mk (shut_int Try.underlying5 w3) trodAll_mk0)))), rfl, bel.frame _, fun h => by cases h⟩

theorem keycodeSpoilt_holds : Rows.KeycodeSpoiltSaid :=
  OpenClaim.holds_of_wide 7 Try.f7 rfl rfl rfl rfl rfl rfl rfl ⟨rfl, rfl, rfl, rfl, rfl⟩ rfl rfl rfl rfl rfl (by kernel_rfl) Try.func7 (by kernel_rfl)
    (of_decide_eq_true (by kernel_rfl)) (by unfold Func.isWrapper; rw [if_neg (of_decide_eq_false (by kernel_rfl))]; exact ⟨rfl, rfl⟩)
    (fun os started H enc _ => keycodeSpoilt_lifted os started H enc)

#print axioms keycodeSpoilt_holds

end Go.Proofs.Ytippbjpodnnhiaa
