/-
  KeycodeFew holds: the bytes of what is held are few; all leaves that a tree told and that it lost are all leaves.
-/
import Derived.Test.YtippbjpodnnhiaaMi1
import Derived.Test.YtippbjpodnnhiaaRows
import Derived.ProofKit
import Derived.OpenShut
import Derived.ShutString
import Derived.ChangeOld
namespace Go.Proofs.Ytippbjpodnnhiaa
open Go.RowKit Go.ChangeShapes Go.WideShapes Go.ChangeAt
open Kg Kc
attribute [local go_sem ↓] Go.wp_at_zero Go.wp_at_succ
theorem countL_le : ∀ {e : Int} {l : List Nd}, okS e l → e ≤ 131072 → e + countL l ≤ 131072
  | e, [], _, he => by rw [countL]; omega
  | e, x :: l, h, _ => by
    have h1 := countL_le h.2.2 h.1.2.2.2.2.1
    have h2 := h.2.1
    rw [countL]; omega
theorem countL_nonneg : ∀ {l : List Nd}, (∀ y ∈ l, okH y) → 0 ≤ countL l
  | [], _ => by rw [countL]; omega
  | x :: l, h => by
    have h1 := countL_nonneg (l := l) (fun y hy => h y (by simp [hy]))
    have h2 := (h x (by simp)).many
    rw [countL]; omega
theorem count_take {l : List Nd} (h : okS 0 l) (k : Nat) : countL (l.take k) ≤ 131072 := by
  have := countL_le (okS_pre h k) (by omega)
  omega
theorem nIn_all {x : Nd} : ∀ {ms : List Int}, (∀ m ∈ ms, inI x m = true) → nIn x ms = ms.length
  | [], _ => rfl
  | m :: ms, h => by
    have ih := nIn_all (x := x) (ms := ms) (fun y hy => h y (by simp [hy]))
    unfold nIn at ih ⊢
    rw [List.filter_cons, if_pos (h m (by simp)), List.length_cons, ih, List.length_cons]
theorem inI_rt {s : List UInt8} {m : Int} (h0 : 0 ≤ m) (h1 : m < 131072) : inI ⟨0, 0, s⟩ m = true := by
  rw [inI_iff]
  have : manyI 0 = 131072 := by decide
  show 0 ≤ m ∧ m < 0 + manyI 0
  omega
theorem shr_many {d : Int} (h0 : 0 ≤ d) (h1 : d ≤ 17) : (131072 : Int) / 2 ^ d.toNat = manyI d := by
  obtain ⟨n, rfl⟩ := Int.eq_ofNat_of_zero_le h0
  rw [Int.toNat_natCast]
  have hn : n ≤ 17 := by omega
  have : ∀ n : Nat, n ≤ 17 → (131072 : Int) / 2 ^ n = manyI (n : Int) := by decide
  exact this n hn
set_option maxRecDepth 100000 in
set_option maxHeartbeats 6400000 in
theorem keycodeFew_any (w : World) (s : List UInt8) (hs : s.length = 32) (A : Option Addr) (n c : Nat) (l : List Int) (hl : l.length = n) (_hc : n ≤ c) (_hm : c ≤ maxLen) (hr : Rd w.heap.size w A (iv64 l)) (hz : ∀ z ∈ l, 0 ≤ z ∧ z ≤ 18446744073709551615) :
    Calls Try.prog 9 #[.agg (bva s), .slice A n c] w (RetB (.bool true) w) := by
  have HL := Lib.hid hl
  have HR := Lib.hid hr
  have HZ := Lib.hid hz
  clear hl hr hz _hc _hm
  have HS := Lib.hid hs
  have HK : Hid ((Try.prog.info? 43).map (·.size) = some (bva s).size) := by rw [bva_size, hs]; exact info_keyL
  have B1 := Lib.hid (show Blk (w.alloc (.cells (bva s) 43)) w.heap.size (bva s) 43 from heap_alloc_new _ _)
  have BB := Lib.hid (show Below w.heap.size w (w.alloc (.cells (bva s) 43)) from (Below.refl _ _).alloc (Nat.le_refl _) _)
  have HBL := Lib.hid (show ∀ W, (Instr.build 49 #[]).run Try.prog W = .ok (.agg zeroLit) W from fun _ => by kernel_rfl)
  clear hs
  by_cases h24 : n ≤ 12
  · have hd : decide ((n : Int) > 12) = false := decide_eq_false (by omega)
    go_enter Try.func9, Try.ntmps9
    go_wp2_with fail
    refine (kcAwake_any _).mono ?_
    rintro e w1 ⟨rfl, bw⟩
    have C1 := Lib.hid (B1.out.below bw)
    have CB := Lib.hid (BB.out.trans (bw.mono BB.out.size))
    clear bw B1 BB
    obtain ⟨rt, hrt⟩ : ∃ rt : Nd, rt = ⟨0, 0, s⟩ := ⟨_, rfl⟩
    have HRT := Lib.hid hrt
    have HOK : Hid (okS 0 [rt]) := by rw [hrt]; exact okS_root HS.out
    obtain ⟨zz, hzz⟩ : ∃ zz : List UInt8, zz = List.replicate 32 0 := ⟨_, rfl⟩
    have hz23 : ∀ W, (zeroValue 43).run Try.prog W = .ok (.agg (bva zz)) W := fun _ => by rw [hzz]; kernel_rfl
    have ZZ3 : Hid (zz.length = 32) := by show _ = _; rw [hzz]; rfl
    obtain ⟨L, hL⟩ : ∃ L, L = l.map (· % 131072) := ⟨_, rfl⟩
    have HLV := Lib.hid hL
    have HLL := Lib.hid (show L.length = n by rw [hL, List.length_map, HL.out])
    clear hrt hzz hL
    go_wp2_with (first
      | (refine wpList_build rfl 49 #[] rfl (v := .agg zeroLit) ?hbld ?_; case hbld => exact HBL.out _)
      | (refine wpList_load_row rfl 43 (.tmp 2) rfl w.heap.size rfl 43 (bva s) (0, 0) _ C1.out Try.underlying43 rfl HK.out ?_))
    refine (new_any (ci := litC) s HS.out _).mono ?_
    rintro e w2 ⟨⟨g, F, rfl, ht, hF⟩, bw⟩
    rw [← HRT.out] at ht
    have HT := Lib.hid ht
    have HF := Lib.hid (show ∀ q, F q → w.heap.size ≤ q from fun q hq => Nat.le_trans CB.out.size (hF q hq))
    have HB := Lib.hid (CB.out.trans (bw.mono CB.out.size))
    clear ht hF bw C1 CB
    go_wp2_with fail
    go_loopw [6, 8, 27] (fun q _ i wr => ∃ k F M, k ≤ n ∧ i = .int .i64 (k : Nat) ∧ Tr litC wr g (canL litC 17 rt (L.take k)) F ∧ Hid (∀ q, F q → w.heap.size ≤ q) ∧ Below w.heap.size w wr ∧ q = .int .i64 (List.length M : Nat) ∧ Hid (M.Nodup ∧ (∀ z : Int, z ∈ M ↔ z ∈ L.take k) ∧ M.length ≤ k)) (fun _ _ i _ => n - (intOf i).toNat)
    case atStart => exact ⟨0, F, [], by omega, rfl, by rw [List.take_zero, canL_none rfl]; exact HT.out, HF, HB.out, rfl, List.nodup_nil, by simp, by simp⟩
    case round =>
      clear HT HF HB
      obtain ⟨k, F, M, hk, rfl, ht, HF, hbw, rfl, HMM⟩ := hrel
      have HT := Lib.hid ht
      have HB := Lib.hid hbw
      clear ht hbw
      by_cases hlt : k < n
      · have hkl : k < l.length := by rw [HL.out]; exact hlt
        have hkL : k < L.length := by rw [HLL.out]; exact hlt
        obtain ⟨ad, hA, hbl, _⟩ := rd_u64 HR.out hkl
        subst hA
        obtain ⟨m, hm⟩ : ∃ m, m = l.getD k 0 := ⟨_, rfl⟩
        have hcell : ∀ w', Below w.heap.size w w' → w'.cell? (ad.add k) = some (.int .u64 m) := fun w' hb' => by
          obtain ⟨ad', hA', _, hc⟩ := rd_u64 (HR.out.below hb') hkl
          injection hA' with hA'
          subst hA'
          rw [hm]; exact hc
        have hmb : 0 ≤ m ∧ m ≤ 18446744073709551615 := HZ.out m (by
          rw [hm, List.getD_eq_getElem?_getD, List.getElem?_eq_getElem hkl]; exact List.getElem_mem hkl)
        obtain ⟨p, hp⟩ : ∃ p, p = L.getD k 0 := ⟨_, rfl⟩
        have hpm : m % 131072 = p := by
          rw [hp, hm, List.getD_eq_getElem?_getD, List.getD_eq_getElem?_getD, HLV.out, List.getElem?_map, List.getElem?_eq_getElem hkl]; rfl
        have hpt : m.tmod 131072 = p := by rw [Int.tmod_eq_emod_of_nonneg hmb.1, hpm]
        have HCL := Lib.hid hcell
        have HMB := Lib.hid hmb
        have HPV := Lib.hid hp
        have HPM := Lib.hid hpm
        have m0 : 0 ≤ m := hmb.1
        have k0 : (0 : Int) ≤ (k : Int) := by omega
        have k1 : (k : Int) < (n : Int) := by omega
        clear hcell hmb hm hp hbl
        have cc := HCL.out _ HB.out
        have hr0 : okH rt := by rw [HRT.out]; exact (okS_root HS.out).1
        have hr1 : rt.d = 17 - ((17 : Nat) : Int) := by rw [HRT.out]; rfl
        have hpb : 0 ≤ p ∧ p < 131072 := by rw [← hpm]; omega
        have hhas := hasI_can (ci := litC) 17 rt (L.take k) p hr0 hr1
        rw [show inI rt p = true by rw [HRT.out]; exact inI_rt hpb.1 hpb.2, Bool.true_and] at hhas
        have hsn : L.take (k + 1) = L.take k ++ [p] := by
          rw [List.take_succ_eq_append_getElem hkL, HPV.out, List.getD_eq_getElem?_getD, List.getElem?_eq_getElem hkL]; rfl
        have hpc := punL_can (ci := litC) 17 rt (L.take k) p hr0 hr1
        rw [← hsn] at hpc
        have HSN := Lib.hid hsn
        have HPC := Lib.hid hpc
        have HMX := Lib.hid HMM.out.2.2
        have ek : IntKind.i64.wrap ((k : Int) + 1) = ((k + 1 : Nat) : Int) := by rw [IntWalk.i64_in _ (by omega)]; omega
        have em : IntKind.i64.wrap ((M.length : Int) + 1) = ((M.length + 1 : Nat) : Int) := by rw [IntWalk.i64_in _ (by have := HMX.out; omega)]; omega
        clear hr0 hr1 hpb hsn hpc
        by_cases hpM : p ∈ M
        · have hh : hasI (canL litC 17 rt (L.take k)) p = false := by
            rw [hhas, decide_eq_true ((HMM.out.2.1 p).1 hpM)]; rfl
          have HM2 := Lib.hid (show M.Nodup ∧ (∀ z : Int, z ∈ M ↔ z ∈ L.take (k + 1)) ∧ M.length ≤ k + 1 from ⟨HMM.out.1, fun z => by
            rw [HSN.out, List.mem_append, List.mem_singleton, ← HMM.out.2.1 z]
            exact ⟨fun h => .inl h, fun h => h.elim id (fun h => h ▸ hpM)⟩, by have := HMX.out; omega⟩)
          have HHF := Lib.hid hh
          clear hhas hpM hh em
          go_wp2_with fail
          refine (tpuncture_any g _ F p _ HT.out).mono ?_
          rintro e w5 ⟨rfl, hp⟩
          rw [HHF.out]
          obtain ⟨F5, ht5, hF5, hb5⟩ := pun_one hp HF.out HB.out.size
          rw [HPC.out] at ht5
          have HT5 := Lib.hid ht5
          have HF5 := Lib.hid hF5
          have HB5 := Lib.hid (HB.out.trans hb5)
          clear hp ht5 hF5 hb5 cc HT HB hpm hpt
          go_wp2_with fail
          go_roundw
          case rel => exact ⟨k + 1, F5, M, by omega, by go_num, HT5.out, HF5, HB5.out, rfl, HM2⟩
          case measure => simp [intOf]; omega
        · have hh : hasI (canL litC 17 rt (L.take k)) p = true := by
            rw [hhas, decide_eq_false (fun h => hpM ((HMM.out.2.1 p).2 h))]; rfl
          have HM2 := Lib.hid (show (p :: M).Nodup ∧ (∀ z : Int, z ∈ p :: M ↔ z ∈ L.take (k + 1)) ∧ (p :: M).length ≤ k + 1 from ⟨List.nodup_cons.2 ⟨hpM, HMM.out.1⟩, fun z => by
            rw [HSN.out, List.mem_append, List.mem_singleton, ← HMM.out.2.1 z, List.mem_cons]
            exact ⟨fun h => h.symm, fun h => h.symm⟩, by have := HMX.out; rw [List.length_cons]; omega⟩)
          have HHF := Lib.hid hh
          clear hhas hpM hh
          go_wp2_with fail
          refine (tpuncture_any g _ F p _ HT.out).mono ?_
          rintro e w5 ⟨rfl, hp⟩
          rw [HHF.out]
          obtain ⟨F5, ht5, hF5, hb5⟩ := pun_one hp HF.out HB.out.size
          rw [HPC.out] at ht5
          have HT5 := Lib.hid ht5
          have HF5 := Lib.hid hF5
          have HB5 := Lib.hid (HB.out.trans hb5)
          clear hp ht5 hF5 hb5 cc HT HB hpm hpt
          go_wp2_with fail
          go_roundw
          case rel => exact ⟨k + 1, F5, p :: M, by omega, by go_num, HT5.out, HF5, HB5.out, by rw [List.length_cons]; simp, HM2⟩
          case measure => simp [intOf]; omega
      · obtain rfl : n = k := by omega
        have htk : L.take n = L := List.take_of_length_le (by rw [HLL.out]; exact Nat.le_refl _)
        obtain ⟨X, hX⟩ : ∃ X, X = canL litC 17 rt L := ⟨_, rfl⟩
        have hr0 : okH rt := by rw [HRT.out]; exact (okS_root HS.out).1
        have hr1 : rt.d = 17 - ((17 : Nat) : Int) := by rw [HRT.out]; rfl
        have hmm := HMM.out
        rw [htk] at hmm
        have hXM : X = canL litC 17 rt M := by rw [hX]; exact can_congr (ci := litC) 17 rt (fun z => (hmm.2.1 z).symm)
        have hnin : nIn rt M = M.length := nIn_all (fun m hm => by
          have h1 := (hmm.2.1 m).1 hm
          rw [HLV.out, List.mem_map] at h1
          obtain ⟨z, _, rfl⟩ := h1
          rw [HRT.out]; exact inI_rt (by omega) (by omega))
        obtain ⟨q, hq⟩ : ∃ q, q = M.length := ⟨_, rfl⟩
        have HCO := Lib.hid (show countL X = 131072 - (q : Int) by
          have h1 := count_can (ci := litC) 17 rt M hr0 hr1 hmm.1
          rw [← hXM, hnin] at h1
          rw [h1, hq, show rt.d = 0 by rw [HRT.out]]; rfl)
        have HLE := Lib.hid (show X.length ≤ q * 17 + 1 by
          have h1 := length_can (ci := litC) 17 rt M hr0 hr1
          rw [← hXM, hnin, ← hq] at h1; exact h1)
        have hq12 : q ≤ 12 := by rw [hq]; omega
        have ht := HT.out
        rw [htk, ← hX] at ht
        rw [← hq]
        have HT2 := Lib.hid ht
        have HXO := Lib.hid ht.ok
        have HXN := Lib.hid (show X.length ≤ 65535 by have := HLE.out; omega)
        clear HT ht htk hX hr0 hr1 hmm hXM hnin hq HMM
        have HT := HT2
        clear HT2
        clear HOK hz23 ZZ3
        go_wp2_with fail
        refine (theld_tr HT.out).mono ?_
        rintro e v1 ⟨A1, nA1, cA1, rfl, ho, bw⟩
        have HNA1 := Lib.hid (show X.length = nA1 by have h1 := ho.1; rw [nvs_length (okS_len HXO.out)] at h1; omega)
        have O1 := Lib.hid ho
        have HTx101 := Lib.hid (HT.out.below bw)
        have HBx101 := Lib.hid (HB.out.trans (bw.mono HB.out.size))
        clear bw ho HT HB
        go_wp2_with fail
        refine (kenc_any A1 nA1 cA1 X _ HNA1.out (okS_len HXO.out) (fun y hy => (okS_mem HXO.out y hy).1.2.2.1) (Nat.le_refl _) (Rd.ownN O1.out) (by have h1 := HXN.out; have h2 := HNA1.out; omega)).mono ?_
        rintro e v2 ⟨bw, ⟨_, Y1, mY1, cY1, rfl, ho⟩ | ⟨hno, _⟩ | ⟨⟨_, hno⟩, _⟩⟩
        rotate_left
        · exact absurd HXO.out hno
        · exact absurd hno (by have h1 := HXN.out; omega)
        have hm := own_blen ho
        have HMY1 := Lib.hid (show mY1 = 2 + 36 * X.length by rw [← hm]; exact encB_length (okS_len HXO.out))
        have HCY1 := Lib.hid (cap_own ho)
        have E1 := Lib.hid ho
        have HTx102 := Lib.hid (HTx101.out.below bw)
        have HBx102 := Lib.hid (HBx101.out.trans (bw.mono HBx101.out.size))
        have O1x102 := Lib.hid (own_belowN O1.out bw)
        clear bw ho hm HTx101 HBx101 O1
        obtain ⟨b, hb⟩ : ∃ b, b = encB X := ⟨_, rfl⟩
        have HOY := Lib.hid (show okY b by rw [hb]; exact okY_encB HXO.out HXN.out)
        have HBL2 := Lib.hid (show b.length = mY1 by rw [hb]; exact own_blen E1.out)
        have E2 := Lib.hid (show v2.ownsRow _ 5 1 (.slice Y1 mY1 cY1) mY1 (bv b) by rw [hb]; exact E1.out)
        have HDB := Lib.hid (show decN (manyY b) (b.drop 2) = X by rw [hb]; exact (dec_encB HXO.out HXN.out).2)
        have hfew : mY1 ≤ 2400000 := by have h1 := HMY1.out; have h2 := HXN.out; omega
        clear hb E1
        go_wp2_with fail
        refine (kdec_any Y1 mY1 cY1 b _ HBL2.out HCY1.out.1 (Nat.le_refl _) (Rd.own E2.out) (by omega)).mono ?_
        rintro e v3 ⟨bw, ⟨_, A3, m3, c3, rfl, ho⟩ | ⟨hno, _⟩⟩
        rotate_left
        · exact absurd HOY.out hno
        rw [HDB.out] at ho
        have HN3 := Lib.hid (show X.length = m3 by have h1 := ho.1; rw [nvs_length (okS_len HXO.out)] at h1; omega)
        have O3 := Lib.hid ho
        have HTx103 := Lib.hid (HTx102.out.below bw)
        have HBx103 := Lib.hid (HBx102.out.trans (bw.mono HBx102.out.size))
        clear bw ho E2 HTx102 HBx102
        go_wp2_with fail
        obtain ⟨cz, hcz⟩ : ∃ cz, cz = ndC zeroNd := ⟨_, rfl⟩
        have hzh : ∀ W, (zeroValue 61).run Try.prog W = .ok (.agg cz) W := fun _ => by rw [hcz]; kernel_rfl
        have ZH : Hid (cz.size = 34) := by show _ = _; rw [hcz]; exact ndC_size rfl
        clear hcz
        go_loopw [13, 51] (fun q i wr => ∃ k : Nat, k ≤ m3 ∧ i = .int .i64 k ∧ q = .int .i64 (countL (X.take k)) ∧ Tr litC wr g X F ∧ wr.ownsRow v2.heap.size 61 34 (.slice A3 m3 c3) m3 (nvs X) ∧ Below w.heap.size w wr) (fun _ i _ => m3 - (intOf i).toNat)
        case atStart => exact ⟨0, by omega, rfl, rfl, HTx103.out, O3.out, HBx103.out⟩
        case round =>
          clear HTx103 O3 HBx103
          obtain ⟨k, hk, rfl, rfl, ht, ho, hbw⟩ := hrel
          have HT1 := Lib.hid ht
          have HO1 := Lib.hid ho
          have HB1 := Lib.hid hbw
          clear ht ho hbw
          by_cases hlt : k < m3
          · have hkl : k < X.length := by rw [HN3.out]; exact hlt
            obtain ⟨ad, hA, _, hcell⟩ := rd_node (Rd.ownN HO1.out) (okS_len HXO.out) hkl
            subst hA
            obtain ⟨x, hxe⟩ : ∃ x, x = X[k] := ⟨_, rfl⟩
            have hxm : x ∈ X := by rw [hxe]; exact List.getElem_mem hkl
            have hx3 : x.s.length = 32 := okS_len HXO.out x hxm
            have hxo := (okS_mem HXO.out x hxm).1
            have hcs : countL (X.take (k + 1)) = countL (X.take k) + manyI x.d := by
              rw [List.take_succ_eq_append_getElem hkl, countL_append, hxe, countL, countL, Int.add_zero]
            have hle : countL (X.take (k + 1)) ≤ 131072 := by
              have h1 := count_take HXO.out (k + 1)
              omega
            have hge : 0 ≤ countL (X.take k) := countL_nonneg (fun y hy => (okS_mem HXO.out y (List.mem_of_mem_take hy)).1)
            rw [← hxe] at hcell
            obtain ⟨C, hC⟩ : ∃ C, C = countL (X.take k) := ⟨_, rfl⟩
            obtain ⟨C', hC'⟩ : ∃ C', C' = countL (X.take (k + 1)) := ⟨_, rfl⟩
            obtain ⟨M, hM⟩ : ∃ M, M = manyI x.d := ⟨_, rfl⟩
            rw [← hC, ← hC', ← hM] at hcs
            rw [← hC'] at hle
            rw [← hC] at hge ⊢
            have hmm := hxo.many
            have HCE := Lib.hid hcell
            have HI : Hid ((Try.prog.info? 61).map (·.size) = some (ndV x).length) := by rw [ndV_length hx3]; exact info_held
            have HIC : Hid ((Try.prog.info? 61).map (·.size) = some (ndC x).size) := by rw [ndC_size hx3]; exact info_held
            have HX3 := Lib.hid hx3
            have HCV := Lib.hid hC'
            have d0 : 0 ≤ x.d := hxo.1
            have d1 : x.d ≤ 17 := hxo.2.1
            have k0 : (0 : Int) ≤ (k : Int) := by omega
            have k1 : (k : Int) < (m3 : Int) := by omega
            have ek : IntKind.i64.wrap ((k : Int) + 1) = ((k + 1 : Nat) : Int) := by rw [IntWalk.i64_in _ (by omega)]; omega
            have ed : IntKind.u64.wrap x.d = x.d := IntWalk.u64_in _ (by omega)
            have es := shr_many d0 d1
            rw [← hM] at es hmm
            have ec : IntKind.i64.wrap (C + M) = C' := by rw [IntWalk.i64_in _ (by omega)]; omega
            clear hcell hxe hxm hx3 hC hC' hM hcs hle hge hmm hxo hkl
            go_wp2_with (first
              | (refine wpList_load_at rfl 61 (.tmp 53) rfl (ad.add (k * 34)) rfl HCE.out Try.underlying61 rfl HI.out ?_
                 change wpList _ _ _ _ (Act.put _ _ (.agg (ndC x))) _)
              | (refine wpList_store_row rfl 61 (.tmp 15) (.tmp 54) rfl wr.heap.size (ndC x) rfl rfl 61 cz (heap_alloc_new _ _) HIC.out (by rw [ndC_size HX3.out, ZH.out]) (ndC_one _) ?_
                 generalize hwx : World.setRow _ _ _ = wx
                 have E1 := Lib.hid (show Blk wx wr.heap.size (ndC x) 61 by rw [← hwx]; exact setRow_heap _ _ _ _ _ _ (heap_alloc_new _ _))
                 have EW := Lib.hid (show Below wr.heap.size wr wx by rw [← hwx]; exact below_setRow ((Below.refl _ wr).alloc (Nat.le_refl _) _) (Nat.le_refl _) _)
                 have HT2 := Lib.hid (HT1.out.below EW.out)
                 have HO2 := Lib.hid (own_belowN HO1.out EW.out)
                 have HB2 := Lib.hid (HB1.out.trans (EW.out.mono HB1.out.size))
                 have c0 := ndt_d E1.out
                 clear hwx HT1 HO1 HB1 EW))
            go_roundw
            case rel => exact ⟨k + 1, by omega, by go_num, by rw [HCV.out], HT2.out, HO2.out, HB2.out⟩
            case measure => simp [intOf]; omega
          · obtain rfl : m3 = k := by omega
            obtain ⟨D, hD⟩ : ∃ D : Int, D = 131072 - (q : Int) := ⟨_, rfl⟩
            have hce : countL (X.take m3) = D := by rw [List.take_of_length_le (by rw [HN3.out]; exact Nat.le_refl _), hD]; exact HCO.out
            rw [hce]
            have HCX := Lib.hid (show countL X = D by rw [hD]; exact HCO.out)
            have e1 : IntKind.i64.wrap (612 * (q : Int)) = 612 * (q : Int) := IntWalk.i64_in _ (by omega)
            have e2 : IntKind.i64.wrap (38 + 612 * (q : Int)) = 38 + 612 * (q : Int) := IntWalk.i64_in _ (by omega)
            have e3 : IntKind.i64.wrap (D + (q : Int)) = 131072 := by rw [IntWalk.i64_in _ (by omega)]; omega
            have hle : (mY1 : Int) ≤ 38 + 612 * (q : Int) := by have h1 := HMY1.out; have h2 := HLE.out; omega
            have hdd : (D == D) = true := beq_self_eq_true D
            clear hce hD
            go_wp2_with fail
            refine (tcount_tr HT1.out).mono ?_
            rintro e v9 ⟨rfl, bw⟩
            rw [HCX.out]
            have HBq := Lib.hid (HB1.out.trans (bw.mono HB1.out.size))
            clear bw HT1 HB1 HO1
            go_wp2_with fail
            go_ret
            exact ⟨rfl, HBq.out⟩
  · have hd : decide ((n : Int) > 12) = true := decide_eq_true (by omega)
    go_enter Try.func9, Try.ntmps9
    go_wp2_with fail
    refine (kcAwake_any _).mono ?_
    rintro e w1 ⟨rfl, bw⟩
    have CB := Lib.hid (BB.out.trans (bw.mono BB.out.size))
    clear bw B1 BB
    go_wp2_with fail
    go_ret
    exact ⟨rfl, CB.out⟩
theorem keycodeFew_own : ownKnob Try.prog.godebug = none := by kernel_rfl
theorem keycodeFew_laid : laidOutB Try.prog = true := by kernel_rfl

set_option maxRecDepth 100000 in
theorem keycodeFew_lifted (os : Os) (started : os.Started) (H : Type) (enc : TypeId × Value → H) :
    ReturnsInHanded {} Try.checked os 9 .any (Rows.keycodeFewSpec.pre6 enc Try.prog Try.f9 Rows.keycodeFewRow.domain false) (Rows.keycodeFewSpec.post enc Try.prog Try.f9 false true false false) := by
  refine returnsInHanded_of_change (C := Try.checked) keycodeFew_own started (by kernel_rfl) Try.func9
    (ChangeSpec.witness6 (enc := enc) (C := Try.checked) false ⟨#[], #[.agg #[.int .u8 0, .int .u8 0, .int .u8 0, .int .u8 0, .int .u8 0, .int .u8 0, .int .u8 0, .int .u8 0, .int .u8 0, .int .u8 0, .int .u8 0, .int .u8 0, .int .u8 0, .int .u8 0, .int .u8 0, .int .u8 0, .int .u8 0, .int .u8 0, .int .u8 0, .int .u8 0, .int .u8 0, .int .u8 0, .int .u8 0, .int .u8 0, .int .u8 0, .int .u8 0, .int .u8 0, .int .u8 0, .int .u8 0, .int .u8 0, .int .u8 0, .int .u8 0], .slice none 0 0], []⟩ 8 (by kernel_rfl) (by kernel_rfl) (by kernel_rfl) (by kernel_rfl)) ?_
  intro W base args ds gs before hval0 hW _ _
  have hval : ∀ (j : Nat) t v, Try.f9.params[j]? = some t → args[j]? = some v → Value.okWide Try.prog W .any base t v := hval0
  have hW' := hW
  obtain ⟨p, q, hA0, hV, rfl, hfz, hnd⟩ := hW
  have hA : DataW.TrodAll enc Try.prog W 0 (fun _ => true) true Try.f9.params.toList args.toList ds p := hA0
  rw [Try.params9] at hA hval
  obtain ⟨v0, vs0, d0, ds0, p0, q0, hargs, rfl, rfl, h0, r0⟩ := trodAll_cons hA
  obtain ⟨v1, vs1, d1, ds1, p1, q1, rfl, rfl, rfl, h1, r1⟩ := trodAll_cons r0
  obtain ⟨rfl, rfl, rfl⟩ := trodAll_nil r1
  obtain rfl : args = #[v0, v1] := by cases args; simp_all
  obtain ⟨rfl, rfl⟩ := trodVars_none hV
  have lt0 : ∀ x ∈ p0, x.block < W.heap.size := by obtain ⟨m, hm⟩ := h0; exact DataW.trod_lt m _ _ _ hm
  obtain ⟨l0, hl0, rfl⟩ := open_u8s Try.underlying43 Try.underlying5 (by kernel_rfl) (by kernel_rfl) (hval 0 43 v0 rfl rfl) h0
  obtain ⟨a1, n1, c1, rfl⟩ := okWide_slice Try.underlying44 (hval 1 44 v1 rfl rfl)
  have lt1 : ∀ x ∈ p1, x.block < W.heap.size := by obtain ⟨m, hm⟩ := h1; exact DataW.trod_lt m _ _ _ hm
  obtain ⟨l1, hl1, hc1, hm1, hr1, hz1⟩ := open_u64s Try.underlying44 Try.underlying38 (by kernel_rfl) h1
  clear hA0 hval0
  refine (keycodeFew_any W l0 hl0 a1 n1 c1 l1 hl1 hc1 hm1 hr1 hz1).mono fun e W' ⟨he, bel⟩ => ?_
  subst he
  exact ⟨_, rfl, _, _, _, [], _, [], hW', trodAll_mk1 (shut_bool Try.underlying4 _), (trodAll_cons_mk (Below.trod keycodeFew_laid (by kernel_rfl) (of_decide_eq_true (by kernel_rfl)) h0 bel lt0) (trodAll_cons_mk (Below.trod keycodeFew_laid (by kernel_rfl) (of_decide_eq_true (by kernel_rfl)) h1 bel lt1) trodAll_mk0)), rfl, bel.frame _, fun h => by cases h⟩

theorem keycodeFew_holds : Rows.KeycodeFewSaid :=
  OpenClaim.holds_of_wide 9 Try.f9 rfl rfl rfl rfl rfl rfl rfl ⟨rfl, rfl, rfl, rfl, rfl⟩ rfl rfl rfl rfl rfl (by kernel_rfl) Try.func9 (by kernel_rfl)
    (of_decide_eq_true (by kernel_rfl)) (by unfold Func.isWrapper; rw [if_neg (of_decide_eq_false (by kernel_rfl))]; exact ⟨rfl, rfl⟩)
    (fun os started H enc _ => keycodeFew_lifted os started H enc)

#print axioms keycodeFew_holds

end Go.Proofs.Ytippbjpodnnhiaa
