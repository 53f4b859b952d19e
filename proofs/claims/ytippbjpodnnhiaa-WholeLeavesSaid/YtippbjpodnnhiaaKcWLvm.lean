/-
  WholeLeaves holds: the keys of the first two leaves are what the real cipher's splits come to.
-/
import Derived.Test.YtippbjpodnnhiaaMw9
import Derived.Test.YtippbjpodnnhiaaRows
import Derived.ProofKit
import Derived.OpenShut
import Derived.ShutString
import Derived.ChangeOld
namespace Go.Proofs.Ytippbjpodnnhiaa
open Go.RowKit Go.ChangeShapes Go.WideShapes Go.ChangeAt
open Kg Kc
attribute [local go_sem ↓] Go.wp_at_zero Go.wp_at_succ
/-- The left one each time. -/
def iterL (L : List UInt8 → List UInt8) : Nat → List UInt8 → List UInt8
  | 0, s => s
  | k + 1, s => L (iterL L k s)
theorem iterL_in (L : List UInt8 → List UInt8) : ∀ (k : Nat) (s : List UInt8), iterL L k (L s) = L (iterL L k s)
  | 0, _ => rfl
  | k + 1, s => by show L (iterL L k (L s)) = _; rw [iterL_in L k s]; rfl
theorem iterL_length {ci : Ciph} {s : List UInt8} (hs : s.length = 32) : ∀ k, (iterL ci.L k s).length = 32
  | 0 => hs
  | _ + 1 => ci.lenL _
theorem many_two {d : Int} (h0 : 0 ≤ d) (h1 : d ≤ 16) : 2 ≤ manyI d ∧ manyI d ≤ 131072 := by
  rcases many_cases h0 (by omega) with h | h
  · omega
  · have := manyI_ok (d := d + 1) (by omega) (by omega)
    have := manyI_ok (d := d) (by omega) (by omega)
    omega
theorem goL_lefts {ci : Ciph} (m : Int) (h0 : 0 ≤ m) (h1 : m ≤ 1) : ∀ (j : Nat) (d : Int) (s : List UInt8), 0 ≤ d → d + j = 16 → goL ci (j + 1) ⟨d, 0, s⟩ m = stepK ci ⟨16, 0, iterL ci.L j s⟩ m
  | 0, d, s, hd, he => by
    obtain rfl : d = 16 := by omega
    rfl
  | j + 1, d, s, hd, he => by
    have h2 := many_two (d := d + 1) (by omega) (by omega)
    have hst : stepK ci ⟨d, 0, s⟩ m = ⟨d + 1, 0, ci.L s⟩ := by
      unfold stepK
      rw [if_neg]; rfl
      show ¬ IntKind.u64.wrap (0 + manyI (d + 1)) ≤ m
      rw [IntWalk.u64_in _ (by omega)]; omega
    show goL ci (j + 1) (stepK ci ⟨d, 0, s⟩ m) m = _
    rw [hst, goL_lefts m h0 h1 j (d + 1) (ci.L s) (by omega) (by omega), iterL_in]; rfl
/-- The keys of the first two leaves. -/
theorem first_two {ci : Ciph} (s : List UInt8) : (goL ci 17 ⟨0, 0, s⟩ 0).s = ci.L (iterL ci.L 16 s) ∧ (goL ci 17 ⟨0, 0, s⟩ 1).s = ci.R (iterL ci.L 16 s) := by
  have m17 : manyI (16 + 1) = 1 := by decide
  have e : IntKind.u64.wrap (0 + 1) = 1 := by decide
  refine ⟨?_, ?_⟩
  · rw [goL_lefts 0 (by omega) (by omega) 16 0 s (by omega) (by omega)]
    unfold stepK
    rw [if_neg]; rfl
    show ¬ IntKind.u64.wrap (0 + manyI (16 + 1)) ≤ 0
    rw [m17, e]; omega
  · rw [goL_lefts 1 (by omega) (by omega) 16 0 s (by omega) (by omega)]
    unfold stepK
    rw [if_pos]; rfl
    show IntKind.u64.wrap (0 + manyI (16 + 1)) ≤ 1
    rw [m17, e]; omega
/-- What stands behind at most one puncture that is neither. -/
theorem two_keys {ci : Ciph} {s : List UInt8} (hs : s.length = 32) (ms : List Int) (h0 : (0 : Int) ∉ ms) (h1 : (1 : Int) ∉ ms) : hasI (canL ci 17 ⟨0, 0, s⟩ ms) 0 = true ∧ hasI (canL ci 17 ⟨0, 0, s⟩ ms) 1 = true ∧ keyK ci (canL ci 17 ⟨0, 0, s⟩ ms) 0 = ci.L (iterL ci.L 16 s) ∧ keyK ci (canL ci 17 ⟨0, 0, s⟩ ms) 1 = ci.R (iterL ci.L 16 s) := by
  have hr := (okS_root hs).1
  have hm0 : manyI 0 = 131072 := by decide
  have i0 : inI ⟨0, 0, s⟩ 0 = true := by rw [inI_iff]; refine ⟨by show (0 : Int) ≤ 0; omega, ?_⟩; show (0 : Int) < 0 + manyI 0; omega
  have i1 : inI ⟨0, 0, s⟩ 1 = true := by rw [inI_iff]; refine ⟨by show (0 : Int) ≤ 1; omega, ?_⟩; show (1 : Int) < 0 + manyI 0; omega
  have g0 : hasI (canL ci 17 ⟨0, 0, s⟩ ms) 0 = true := by rw [hasI_can 17 _ _ _ hr rfl, i0, decide_eq_false h0]; rfl
  have g1 : hasI (canL ci 17 ⟨0, 0, s⟩ ms) 1 = true := by rw [hasI_can 17 _ _ _ hr rfl, i1, decide_eq_false h1]; rfl
  refine ⟨g0, g1, ?_, ?_⟩
  · rw [keyK_can (ci := ci) (f := 17) ms 0 hr rfl, if_pos g0, (first_two s).1]
  · rw [keyK_can (ci := ci) (f := 17) ms 1 hr rfl, if_pos g1, (first_two s).2]
set_option maxRecDepth 100000 in
set_option maxHeartbeats 6400000 in
theorem wholeLeaves_any (w : World) (s : List UInt8) (hs : s.length = 32) (m : Int) (hm : 0 ≤ m ∧ m ≤ 18446744073709551615) :
    Calls Try.prog 11 #[.agg (bva s), .int .u64 m] w (RetB (.bool true) w) := by
  have HS := Lib.hid hs
  have HK : Hid ((Try.prog.info? 43).map (·.size) = some (bva s).size) := by rw [bva_size, hs]; exact info_keyL
  have B1 := Lib.hid (show Blk (w.alloc (.cells (bva s) 43)) w.heap.size (bva s) 43 from heap_alloc_new _ _)
  have BB := Lib.hid (show Below w.heap.size w (w.alloc (.cells (bva s) 43)) from (Below.refl _ _).alloc (Nat.le_refl _) _)
  have HBL := Lib.hid (show ∀ W, (Instr.build 68 #[]).run Try.prog W = .ok (.agg #[]) W from fun _ => by kernel_rfl)
  have m0 : 0 ≤ m := hm.1
  have HM := Lib.hid hm
  clear hs hm
  go_enter Try.func11, Try.ntmps11
  go_wp2_with fail
  refine (topAwake_any _).mono ?_
  rintro e w1 ⟨rfl, bw⟩
  have C1 := Lib.hid (B1.out.below bw)
  have CB := Lib.hid (BB.out.trans (bw.mono BB.out.size))
  clear bw B1 BB
  obtain ⟨rt, hrt⟩ : ∃ rt : Nd, rt = ⟨0, 0, s⟩ := ⟨_, rfl⟩
  have HRT := Lib.hid hrt
  have HOK : Hid (okS 0 [rt]) := by rw [hrt]; exact okS_root HS.out
  obtain ⟨zz, hzz⟩ : ∃ zz : List UInt8, zz = List.replicate 32 0 := ⟨_, rfl⟩
  have hz23 : ∀ W, (zeroValue 43).run Try.prog W = .ok (.agg (bva zz)) W := fun _ => by rw [hzz]; kernel_rfl
  have ZZ3 : Hid (zz.length = 32) := by show _ = _; rw [hzz]; rfl
  clear hrt hzz
  go_wp2_with (first
    | (refine wpList_build rfl 68 #[] rfl (v := .agg #[]) ?hbld ?_; case hbld => exact HBL.out _)
    | (refine wpList_load_row rfl 43 (.tmp 2) rfl w.heap.size rfl 43 (bva s) (0, 0) _ C1.out Try.underlying43 rfl HK.out ?_))
  refine (new_any (ci := realC) s HS.out _).mono ?_
  rintro e w2 ⟨⟨g, F, rfl, ht, hF⟩, bw⟩
  rw [← HRT.out] at ht
  have HT := Lib.hid ht
  have HF := Lib.hid (show ∀ q, F q → w.heap.size ≤ q from fun q hq => Nat.le_trans CB.out.size (hF q hq))
  have HB := Lib.hid (CB.out.trans (bw.mono CB.out.size))
  have C2 := Lib.hid (C1.out.below bw)
  clear ht hF bw C1 CB
  have HLT := Lib.hid (show ∀ q, F q → q < w2.heap.size from HT.out.lt)
  have HB2X := Lib.hid (show w.heap.size ≤ w2.heap.size from HB.out.size)
  go_wp2_with (first
    | (refine wpList_store_row rfl 43 (.tmp 6) (.tmp 20) rfl w2.heap.size (bva s) rfl rfl 43 (bva zz) (heap_alloc_new _ _) HK.out (by rw [bva_size, bva_size, HS.out, ZZ3.out]) (bva_one _) ?_
       generalize hwx : World.setRow _ _ _ = wx101
       have EB : Below w2.heap.size w2 wx101 := by rw [← hwx]; exact below_setRow ((Below.refl _ _).alloc (Nat.le_refl _) _) (Nat.le_refl _) _
       have KXxn101 := Lib.hid (show Blk wx101 w2.heap.size (bva s) 43 by rw [← hwx]; exact setRow_heap _ _ _ _ _ _ (heap_alloc_new _ _))
       have HTx102 := Lib.hid (HT.out.below EB)
       have HBx102 := Lib.hid (HB.out.trans (EB.mono HB.out.size))
       clear hwx EB HT HB)
    | (refine wpList_load_row rfl 43 (.tmp 2) rfl w.heap.size rfl 43 (bva s) (0, 0) _ C2.out Try.underlying43 rfl HK.out ?_))

  obtain ⟨kb, hkb⟩ : ∃ kb, kb = w2.heap.size := ⟨_, rfl⟩
  have HNE := Lib.hid (show w.heap.size ≤ kb ∧ ∀ q, F q → q ≠ kb from by rw [hkb]; exact ⟨HB2X.out, fun q hq => by have h1 := HLT.out q hq; omega⟩)
  rw [← hkb]
  have KX0 := Lib.hid (show Blk wx101 kb (bva s) 43 by rw [hkb]; exact KXxn101.out)
  clear hkb KXxn101 HB2X HLT C2
  go_wp2_with fail
  go_loopw [7] (fun i wr => ∃ k, k ≤ 16 ∧ i = .int .i64 (k : Nat) ∧ Tr realC wr g [rt] F ∧ Blk wr kb (bva (iterL realC.L k s)) 43 ∧ Below w.heap.size w wr) (fun i _ => 16 - (intOf i).toNat)
  case atStart => exact ⟨0, by omega, rfl, HTx102.out, KX0.out, HBx102.out⟩
  case round =>
    clear HTx102 KX0 HBx102
    obtain ⟨k, hk, rfl, ht, hb6, hbw⟩ := hrel
    have HT := Lib.hid ht
    have HB := Lib.hid hbw
    obtain ⟨kk, hkk⟩ : ∃ kk, kk = iterL realC.L k s := ⟨_, rfl⟩
    rw [← hkk] at hb6
    have K6 := Lib.hid hb6
    have HKV := Lib.hid hkk
    have KK3 : Hid (kk.length = 32) := by show _ = _; rw [hkk]; exact iterL_length HS.out k
    have HKK : Hid ((Try.prog.info? 43).map (·.size) = some (bva kk).size) := by rw [bva_size, KK3.out]; exact info_keyL
    clear ht hb6 hbw hkk
    by_cases hlt : k < 16
    · have k0 : (0 : Int) ≤ (k : Int) := by omega
      have k1 : (k : Int) < 16 := by omega
      have ek : IntKind.i64.wrap ((k : Int) + 1) = ((k + 1 : Nat) : Int) := by rw [IntWalk.i64_in _ (by omega)]; omega
      go_wp2_with (first
        | (refine wpList_build rfl 68 #[] rfl (v := .agg #[]) ?hbld ?_; case hbld => exact HBL.out _)
        | (refine wpList_load_row rfl 43 (.tmp 6) rfl kb rfl 43 (bva kk) (0, 0) _ K6.out Try.underlying43 rfl HKK.out ?_))
      refine (realC.hS kk KK3.out _).mono ?_
      rintro e w5 ⟨rfl, bw⟩
      have HT5 := Lib.hid (HT.out.below bw)
      have K5 := Lib.hid (K6.out.below bw)
      have HB5 := Lib.hid (HB.out.trans (bw.mono HB.out.size))
      have hk1 : realC.L kk = iterL realC.L (k + 1) s := by rw [HKV.out]; rfl
      have hk3 : (realC.L kk).length = 32 := realC.lenL _
      generalize realC.L kk = ky at hk1 hk3 ⊢
      generalize realC.R kk = kz
      have HK1 := Lib.hid hk1
      have KY3 := Lib.hid hk3
      have HKY : Hid ((Try.prog.info? 43).map (·.size) = some (bva ky).size) := by rw [bva_size, hk3]; exact info_keyL
      clear bw HT HB K6 hk1 hk3
      go_wp2_with (refine wpList_store_row rfl 43 (.tmp 6) (.tmp 29) rfl kb (bva ky) rfl rfl 43 (bva kk) K5.out HKY.out (by rw [bva_size, bva_size, KY3.out, KK3.out]) (bva_one _) ?_
                   generalize hwx : World.setRow _ _ _ = w6
                   have EB : But (fun q => q = kb) w5 w6 := by rw [← hwx]; exact But.setRow (S := fun q => q = kb) (But.refl _) (Or.inl (show kb = kb from rfl)) _
                   have K6 := Lib.hid (show Blk w6 kb (bva ky) 43 by rw [← hwx]; exact setRow_heap _ _ _ _ _ _ K5.out)
                   have HT6 := Lib.hid (HT5.out.but EB (fun q hq h => HNE.out.2 q hq h))
                   have HB6 := Lib.hid (HB5.out.trans (EB.below (fun q hq h => by have h1 := HNE.out.1; have h2 : q = kb := h; omega) HB5.out.size))
                   clear hwx EB K5 HT5 HB5)
      go_roundw
      case rel => exact ⟨k + 1, by omega, by go_num, HT6.out, by rw [← HK1.out]; exact K6.out, HB6.out⟩
      case measure => simp [intOf]; omega
    · obtain rfl : k = 16 := by omega
      go_wp2_with (first
        | (refine wpList_build rfl 68 #[] rfl (v := .agg #[]) ?hbld ?_; case hbld => exact HBL.out _)
        | (refine wpList_load_row rfl 43 (.tmp 6) rfl kb rfl 43 (bva kk) (0, 0) _ K6.out Try.underlying43 rfl HKK.out ?_))
      refine (realC.hS kk KK3.out _).mono ?_
      rintro e w5 ⟨rfl, bw⟩
      have HT5 := Lib.hid (HT.out.below bw)
      have HB5 := Lib.hid (HB.out.trans (bw.mono HB.out.size))
      have hl3 : (realC.L kk).length = 32 := realC.lenL _
      have hr3 : (realC.R kk).length = 32 := realC.lenR _
      have hlv : realC.L kk = realC.L (iterL realC.L 16 s) := by rw [HKV.out]
      have hrv : realC.R kk = realC.R (iterL realC.L 16 s) := by rw [HKV.out]
      generalize realC.L kk = kl at hl3 hlv ⊢
      generalize realC.R kk = kr at hr3 hrv ⊢
      have HLV := Lib.hid hlv
      have HRV := Lib.hid hrv
      have KL3 := Lib.hid hl3
      have KR3 := Lib.hid hr3
      have HIL : Hid ((Try.prog.info? 43).map (·.size) = some (bva kl).size) := by rw [bva_size, hl3]; exact info_keyL
      have HIR : Hid ((Try.prog.info? 43).map (·.size) = some (bva kr).size) := by rw [bva_size, hr3]; exact info_keyL
      have AL1 := Lib.hid (show Blk ((w5.alloc (.cells (bva zz) 43)).alloc (.cells (bva zz) 43)) w5.heap.size (bva zz) 43 from blk_oldL (heap_alloc_new _ _))
      have AL2 := Lib.hid (show Blk ((w5.alloc (.cells (bva zz) 43)).alloc (.cells (bva zz) 43)) (w5.heap.size + 1) (bva zz) 43 from by have h := heap_alloc_new (w5.alloc (.cells (bva zz) 43)) (.cells (bva zz) 43); rwa [World.size_alloc] at h)
      have AB := Lib.hid (show Below w5.heap.size w5 ((w5.alloc (.cells (bva zz) 43)).alloc (.cells (bva zz) 43)) from ((Below.refl _ w5).alloc (Nat.le_refl _) _).alloc (by simp) _)
      have hl5 := HT5.out.lt
      have HL5 := Lib.hid hl5
      clear bw HT HB K6 hl3 hr3 hlv hrv hl5 HKV KK3 HKK
      have heqa : ∀ W, (Op.equalIn 10000 43 (.agg (bva kl)) (.agg (bva kl))).run Try.prog W = .ok true W := fun W => by rw [eq_key kl kl KL3.out KL3.out W, decide_eq_true rfl]
      have heqb : ∀ W, (Op.equalIn 10000 43 (.agg (bva kr)) (.agg (bva kr))).run Try.prog W = .ok true W := fun W => by rw [eq_key kr kr KR3.out KR3.out W, decide_eq_true rfl]
      go_wp2_with (first
        | (refine wpList_store_row rfl 43 (.tmp 8) (.tmp 35) rfl w5.heap.size (bva kl) rfl rfl 43 (bva zz) AL1.out HIL.out (by rw [bva_size, bva_size, KL3.out, ZZ3.out]) (bva_one _) ?_
           generalize hwx : World.setRow _ _ _ = wa
           have ea : Below w5.heap.size w5 wa := by rw [← hwx]; exact below_setRow AB.out (Nat.le_refl _) _
           have SA1 := Lib.hid (show Blk wa w5.heap.size (bva kl) 43 by rw [← hwx]; exact setRow_heap _ _ _ _ _ _ AL1.out)
           have SA2 := Lib.hid (show Blk wa (w5.heap.size + 1) (bva zz) 43 by rw [← hwx]; exact blk_row AL2.out (by omega))
           have EA := Lib.hid ea
           clear hwx ea AL1 AL2 AB)
        | (refine wpList_store_row rfl 43 (.tmp 9) (.tmp 36) rfl (w5.heap.size + 1) (bva kr) rfl rfl 43 (bva zz) SA2.out HIR.out (by rw [bva_size, bva_size, KR3.out, ZZ3.out]) (bva_one _) ?_
           generalize hwx : World.setRow _ _ _ = wb
           have eb : Below w5.heap.size w5 wb := by rw [← hwx]; exact below_setRow EA.out (by omega) _
           have SB1 := Lib.hid (show Blk wb w5.heap.size (bva kl) 43 by rw [← hwx]; exact blk_row SA1.out (by omega))
           have SB2 := Lib.hid (show Blk wb (w5.heap.size + 1) (bva kr) 43 by rw [← hwx]; exact setRow_heap _ _ _ _ _ _ SA2.out)
           have HTB := Lib.hid (HT5.out.below eb)
           have HBB := Lib.hid (HB5.out.trans (eb.mono HB5.out.size))
           clear hwx eb EA SA1 SA2 HT5 HB5))
      · rename_i hgt
        refine (tpuncture_any g _ F m _ HTB.out).mono ?_
        rintro e w6 ⟨rfl, F6, ht, hbt, hF6⟩
        obtain ⟨X, hX⟩ : ∃ X, X = canL realC 17 rt [m] := ⟨_, rfl⟩
        have hp : punL realC [rt] m = X := by rw [hX, HRT.out, ← punAll_root (ci := realC) HS.out, punAll, List.foldl_cons, List.foldl_nil]
        rw [hp] at ht
        have HT6 := Lib.hid ht
        have HXV := Lib.hid hX
        have SC1 := Lib.hid (SB1.out.but hbt (fun h => by have := HL5.out _ h; omega))
        have SC2 := Lib.hid (SB2.out.but hbt (fun h => by have := HL5.out _ h; omega))
        have HB6 := Lib.hid (HBB.out.trans (but_belowF hbt HF.out HBB.out.size))
        clear hp ht hX hbt hF6 HTB HBB SB1 SB2
        go_wp2_with fail
        obtain ⟨q0, q1, e0, e1⟩ := two_keys (ci := realC) HS.out [m] (by simp; try omega) (by simp; try omega)
        rw [← HRT.out, ← HXV.out] at q0 q1 e0 e1
        rw [← HLV.out] at e0
        rw [← HRV.out] at e1
        have Q0 := Lib.hid q0
        have Q1 := Lib.hid q1
        have E0 := Lib.hid e0
        have E1 := Lib.hid e1
        clear q0 q1 e0 e1
        refine (tkey_tr HT6.out 0).mono ?_
        rintro e v1 ⟨rfl, bw⟩
        rw [keyV_form, E0.out, Q0.out]
        have HTx201 := Lib.hid (HT6.out.below bw)
        have HBx201 := Lib.hid (HB6.out.trans (bw.mono HB6.out.size))
        have PLx201 := Lib.hid (SC1.out.below bw)
        have PRx201 := Lib.hid (SC2.out.below bw)
        clear bw HT6 HB6 SC1 SC2
        go_wp2_with (refine wpList_store_row rfl 43 (.tmp 10) (.tmp 45) rfl v1.heap.size (bva kl) rfl rfl 43 (bva zz) (heap_alloc_new _ _) HIL.out (by rw [bva_size, bva_size, KL3.out, ZZ3.out]) (bva_one _) ?_
                     generalize hwx : World.setRow _ _ _ = wx202
                     have EB : Below v1.heap.size v1 wx202 := by rw [← hwx]; exact below_setRow ((Below.refl _ _).alloc (Nat.le_refl _) _) (Nat.le_refl _) _
                     have PAxn202 := Lib.hid (show Blk wx202 v1.heap.size (bva kl) 43 by rw [← hwx]; exact setRow_heap _ _ _ _ _ _ (heap_alloc_new _ _))
                     have HTx203 := Lib.hid (HTx201.out.below EB)
                     have HBx203 := Lib.hid (HBx201.out.trans (EB.mono HBx201.out.size))
                     have PLx203 := Lib.hid (PLx201.out.below EB)
                     have PRx203 := Lib.hid (PRx201.out.below EB)
                     clear hwx EB HTx201 HBx201 PLx201 PRx201)
        refine (tkey_tr HTx203.out 1).mono ?_
        rintro e v2 ⟨rfl, bw⟩
        rw [keyV_form, E1.out, Q1.out]
        have HTx204 := Lib.hid (HTx203.out.below bw)
        have HBx204 := Lib.hid (HBx203.out.trans (bw.mono HBx203.out.size))
        have PLx204 := Lib.hid (PLx203.out.below bw)
        have PRx204 := Lib.hid (PRx203.out.below bw)
        have PAx204 := Lib.hid (PAxn202.out.below bw)
        clear bw HTx203 HBx203 PLx203 PRx203 PAxn202
        go_wp2_with (first
          | (refine wpList_store_row rfl 43 (.tmp 12) (.tmp 50) rfl v2.heap.size (bva kr) rfl rfl 43 (bva zz) (heap_alloc_new _ _) HIR.out (by rw [bva_size, bva_size, KR3.out, ZZ3.out]) (bva_one _) ?_
             generalize hwx : World.setRow _ _ _ = wx205
             have EB : Below v2.heap.size v2 wx205 := by rw [← hwx]; exact below_setRow ((Below.refl _ _).alloc (Nat.le_refl _) _) (Nat.le_refl _) _
             have PBxn205 := Lib.hid (show Blk wx205 v2.heap.size (bva kr) 43 by rw [← hwx]; exact setRow_heap _ _ _ _ _ _ (heap_alloc_new _ _))
             have HTx206 := Lib.hid (HTx204.out.below EB)
             have HBx206 := Lib.hid (HBx204.out.trans (EB.mono HBx204.out.size))
             have PLx206 := Lib.hid (PLx204.out.below EB)
             have PRx206 := Lib.hid (PRx204.out.below EB)
             have PAx206 := Lib.hid (PAx204.out.below EB)
             clear hwx EB HTx204 HBx204 PLx204 PRx204 PAx204)
          | (refine wpList_execg rfl (exec_load 43 (.tmp 10) rfl rfl PAx206.out Try.underlying43 rfl HIL.out) ?_
             change wpList _ _ _ _ (Act.put _ _ (.agg (bva kl))) _)
          | (refine wpList_execg rfl (exec_load 43 (.tmp 8) rfl rfl PLx206.out Try.underlying43 rfl HIL.out) ?_
             change wpList _ _ _ _ (Act.put _ _ (.agg (bva kl))) _)
          | (refine wpList_execg rfl (exec_load 43 (.tmp 12) rfl rfl PBxn205.out Try.underlying43 rfl HIR.out) ?_
             change wpList _ _ _ _ (Act.put _ _ (.agg (bva kr))) _)
          | (refine wpList_execg rfl (exec_load 43 (.tmp 9) rfl rfl PRx206.out Try.underlying43 rfl HIR.out) ?_
             change wpList _ _ _ _ (Act.put _ _ (.agg (bva kr))) _))
        go_ret
        exact ⟨rfl, HBx206.out⟩
      · obtain ⟨X, hX⟩ : ∃ X, X = canL realC 17 rt [] := ⟨_, rfl⟩
        have hp : [rt] = X := by rw [hX, HRT.out, ← punAll_root (ci := realC) HS.out, punAll, List.foldl_nil]
        have ht := HTB.out
        rw [hp] at ht
        have HT6 := Lib.hid ht
        have HXV := Lib.hid hX
        clear hp ht hX HTB
        obtain ⟨q0, q1, e0, e1⟩ := two_keys (ci := realC) HS.out [] (by simp; try omega) (by simp; try omega)
        rw [← HRT.out, ← HXV.out] at q0 q1 e0 e1
        rw [← HLV.out] at e0
        rw [← HRV.out] at e1
        have Q0 := Lib.hid q0
        have Q1 := Lib.hid q1
        have E0 := Lib.hid e0
        have E1 := Lib.hid e1
        clear q0 q1 e0 e1
        refine (tkey_tr HT6.out 0).mono ?_
        rintro e v1 ⟨rfl, bw⟩
        rw [keyV_form, E0.out, Q0.out]
        have HTx201 := Lib.hid (HT6.out.below bw)
        have HBx201 := Lib.hid (HBB.out.trans (bw.mono HBB.out.size))
        have PLx201 := Lib.hid (SB1.out.below bw)
        have PRx201 := Lib.hid (SB2.out.below bw)
        clear bw HT6 HBB SB1 SB2
        go_wp2_with (refine wpList_store_row rfl 43 (.tmp 10) (.tmp 45) rfl v1.heap.size (bva kl) rfl rfl 43 (bva zz) (heap_alloc_new _ _) HIL.out (by rw [bva_size, bva_size, KL3.out, ZZ3.out]) (bva_one _) ?_
                     generalize hwx : World.setRow _ _ _ = wx202
                     have EB : Below v1.heap.size v1 wx202 := by rw [← hwx]; exact below_setRow ((Below.refl _ _).alloc (Nat.le_refl _) _) (Nat.le_refl _) _
                     have PAxn202 := Lib.hid (show Blk wx202 v1.heap.size (bva kl) 43 by rw [← hwx]; exact setRow_heap _ _ _ _ _ _ (heap_alloc_new _ _))
                     have HTx203 := Lib.hid (HTx201.out.below EB)
                     have HBx203 := Lib.hid (HBx201.out.trans (EB.mono HBx201.out.size))
                     have PLx203 := Lib.hid (PLx201.out.below EB)
                     have PRx203 := Lib.hid (PRx201.out.below EB)
                     clear hwx EB HTx201 HBx201 PLx201 PRx201)
        refine (tkey_tr HTx203.out 1).mono ?_
        rintro e v2 ⟨rfl, bw⟩
        rw [keyV_form, E1.out, Q1.out]
        have HTx204 := Lib.hid (HTx203.out.below bw)
        have HBx204 := Lib.hid (HBx203.out.trans (bw.mono HBx203.out.size))
        have PLx204 := Lib.hid (PLx203.out.below bw)
        have PRx204 := Lib.hid (PRx203.out.below bw)
        have PAx204 := Lib.hid (PAxn202.out.below bw)
        clear bw HTx203 HBx203 PLx203 PRx203 PAxn202
        go_wp2_with (first
          | (refine wpList_store_row rfl 43 (.tmp 12) (.tmp 50) rfl v2.heap.size (bva kr) rfl rfl 43 (bva zz) (heap_alloc_new _ _) HIR.out (by rw [bva_size, bva_size, KR3.out, ZZ3.out]) (bva_one _) ?_
             generalize hwx : World.setRow _ _ _ = wx205
             have EB : Below v2.heap.size v2 wx205 := by rw [← hwx]; exact below_setRow ((Below.refl _ _).alloc (Nat.le_refl _) _) (Nat.le_refl _) _
             have PBxn205 := Lib.hid (show Blk wx205 v2.heap.size (bva kr) 43 by rw [← hwx]; exact setRow_heap _ _ _ _ _ _ (heap_alloc_new _ _))
             have HTx206 := Lib.hid (HTx204.out.below EB)
             have HBx206 := Lib.hid (HBx204.out.trans (EB.mono HBx204.out.size))
             have PLx206 := Lib.hid (PLx204.out.below EB)
             have PRx206 := Lib.hid (PRx204.out.below EB)
             have PAx206 := Lib.hid (PAx204.out.below EB)
             clear hwx EB HTx204 HBx204 PLx204 PRx204 PAx204)
          | (refine wpList_execg rfl (exec_load 43 (.tmp 10) rfl rfl PAx206.out Try.underlying43 rfl HIL.out) ?_
             change wpList _ _ _ _ (Act.put _ _ (.agg (bva kl))) _)
          | (refine wpList_execg rfl (exec_load 43 (.tmp 8) rfl rfl PLx206.out Try.underlying43 rfl HIL.out) ?_
             change wpList _ _ _ _ (Act.put _ _ (.agg (bva kl))) _)
          | (refine wpList_execg rfl (exec_load 43 (.tmp 12) rfl rfl PBxn205.out Try.underlying43 rfl HIR.out) ?_
             change wpList _ _ _ _ (Act.put _ _ (.agg (bva kr))) _)
          | (refine wpList_execg rfl (exec_load 43 (.tmp 9) rfl rfl PRx206.out Try.underlying43 rfl HIR.out) ?_
             change wpList _ _ _ _ (Act.put _ _ (.agg (bva kr))) _))
        go_ret
        exact ⟨rfl, HBx206.out⟩
theorem wholeLeaves_own : ownKnob Try.prog.godebug = none := by kernel_rfl
theorem wholeLeaves_laid : laidOutB Try.prog = true := by kernel_rfl

set_option maxRecDepth 100000 in
theorem wholeLeaves_lifted (os : Os) (started : os.Started) (H : Type) (enc : TypeId × Value → H) :
    ReturnsInHanded {} Try.checked os 11 .any (Rows.wholeLeavesSpec.pre6 enc Try.prog Try.f11 Rows.wholeLeavesRow.domain false) (Rows.wholeLeavesSpec.post enc Try.prog Try.f11 false true false false) := by
  refine returnsInHanded_of_change (C := Try.checked) wholeLeaves_own started (by kernel_rfl) Try.func11
    (ChangeSpec.witness6 (enc := enc) (C := Try.checked) false ⟨#[], #[.agg #[.int .u8 0, .int .u8 0, .int .u8 0, .int .u8 0, .int .u8 0, .int .u8 0, .int .u8 0, .int .u8 0, .int .u8 0, .int .u8 0, .int .u8 0, .int .u8 0, .int .u8 0, .int .u8 0, .int .u8 0, .int .u8 0, .int .u8 0, .int .u8 0, .int .u8 0, .int .u8 0, .int .u8 0, .int .u8 0, .int .u8 0, .int .u8 0, .int .u8 0, .int .u8 0, .int .u8 0, .int .u8 0, .int .u8 0, .int .u8 0, .int .u8 0, .int .u8 0], .int .u64 0], []⟩ 8 (by kernel_rfl) (by kernel_rfl) (by kernel_rfl) (by kernel_rfl)) ?_
  intro W base args ds gs before hval0 hW _ _
  have hval : ∀ (j : Nat) t v, Try.f11.params[j]? = some t → args[j]? = some v → Value.okWide Try.prog W .any base t v := hval0
  have hW' := hW
  obtain ⟨p, q, hA0, hV, rfl, hfz, hnd⟩ := hW
  have hA : DataW.TrodAll enc Try.prog W 0 (fun _ => true) true Try.f11.params.toList args.toList ds p := hA0
  rw [Try.params11] at hA hval
  obtain ⟨v0, vs0, d0, ds0, p0, q0, hargs, rfl, rfl, h0, r0⟩ := trodAll_cons hA
  obtain ⟨v1, vs1, d1, ds1, p1, q1, rfl, rfl, rfl, h1, r1⟩ := trodAll_cons r0
  obtain ⟨rfl, rfl, rfl⟩ := trodAll_nil r1
  obtain rfl : args = #[v0, v1] := by cases args; simp_all
  obtain ⟨rfl, rfl⟩ := trodVars_none hV
  have lt0 : ∀ x ∈ p0, x.block < W.heap.size := by obtain ⟨m, hm⟩ := h0; exact DataW.trod_lt m _ _ _ hm
  obtain ⟨l0, hl0, rfl⟩ := open_u8s Try.underlying43 Try.underlying5 (by kernel_rfl) (by kernel_rfl) (hval 0 43 v0 rfl rfl) h0
  obtain ⟨a1, rfl, rfl, rfl, w1⟩ := open_int Try.underlying38 (hval 1 38 v1 rfl rfl) h1
  have b1 := bounds_u64 w1
  clear hA0 hval0
  refine (wholeLeaves_any W l0 hl0 a1 b1).mono fun e W' ⟨he, bel⟩ => ?_
  subst he
  exact ⟨_, rfl, _, _, _, [], _, [], hW', trodAll_mk1 (shut_bool Try.underlying4 _), (trodAll_cons_mk (Below.trod wholeLeaves_laid (by kernel_rfl) (of_decide_eq_true (by kernel_rfl)) h0 bel lt0) (trodAll_cons_mk (shut_int Try.underlying38 w1) trodAll_mk0)), rfl, bel.frame _, fun h => by cases h⟩

theorem wholeLeaves_holds : Rows.WholeLeavesSaid :=
  OpenClaim.holds_of_wide 11 Try.f11 rfl rfl rfl rfl rfl rfl rfl ⟨rfl, rfl, rfl, rfl, rfl⟩ rfl rfl rfl rfl rfl (by kernel_rfl) Try.func11 (by kernel_rfl)
    (of_decide_eq_true (by kernel_rfl)) (by unfold Func.isWrapper; rw [if_neg (of_decide_eq_false (by kernel_rfl))]; exact ⟨rfl, rfl⟩)
    (fun os started H enc _ => wholeLeaves_lifted os started H enc)

#print axioms wholeLeaves_holds

end Go.Proofs.Ytippbjpodnnhiaa
