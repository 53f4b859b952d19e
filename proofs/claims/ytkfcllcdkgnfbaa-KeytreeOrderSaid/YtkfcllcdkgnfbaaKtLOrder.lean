/-
  In whatever order leaves are punctured, and how often, the same is held then; for every seed, every row of at most 24 numbers (a longer one comes out true unasked) and every turn.
-/
import Derived.Test.YtkfcllcdkgnfbaaKtCan
import Derived.Test.YtkfcllcdkgnfbaaRows
import Derived.Test.YtkfcllcdkgnfbaaOpen
import Derived.Test.YtkfcllcdkgnfbaaOpenA
import Derived.ProofKit
import Derived.OpenShut
import Derived.ShutString
import Derived.ChangeOld
namespace Go.Proofs.Ytkfcllcdkgnfbaa
open Go.RowKit Go.ChangeShapes Go.WideShapes Go.ChangeAt
open Kt
attribute [local go_sem ↓] Go.wp_at_zero Go.wp_at_succ
/-- The leaves that the second tree loses: each turned, and each time the first one. -/
def turned (l : List Int) (b n : Nat) : Nat → List Int
  | 0 => []
  | k + 1 => turned l b n k ++ [l.getD ((k + b) % n) 0, l.getD 0 0]
theorem punAll_append (x : List Nd) (a b : List Int) : punAll x (a ++ b) = punAll (punAll x a) b := List.foldl_append ..
theorem turned_mem {l : List Int} {b n : Nat} (hn : 0 < n) (hl : l.length = n) : ∀ (k : Nat) (z : Int), z ∈ turned l b n k → z ∈ l
  | 0, z, h => by simp [turned] at h
  | k + 1, z, h => by
    have hg : ∀ j, j < n → l.getD j 0 ∈ l := fun j hj => by
      rw [List.getD_eq_getElem?_getD, List.getElem?_eq_getElem (by omega)]; exact List.getElem_mem _
    simp only [turned, List.mem_append, List.mem_cons, List.not_mem_nil, or_false] at h
    rcases h with h | h | h
    · exact turned_mem hn hl k z h
    · rw [h]; exact hg _ (Nat.mod_lt _ hn)
    · rw [h]; exact hg 0 hn
theorem turned_has {l : List Int} {b n : Nat} : ∀ (k j : Nat), j < k → l.getD ((j + b) % n) 0 ∈ turned l b n k
  | 0, j, h => by omega
  | k + 1, j, h => by
    simp only [turned, List.mem_append, List.mem_cons, List.not_mem_nil, or_false]
    rcases Nat.lt_or_ge j k with h1 | h1
    · exact .inl (turned_has k j h1)
    · obtain rfl : j = k := by omega
      exact .inr (.inl rfl)
theorem turned_all {l : List Int} {b n : Nat} (hn : 0 < n) (hl : l.length = n) (z : Int) : z ∈ l ↔ z ∈ turned l b n n := by
  refine ⟨fun h => ?_, turned_mem hn hl n z⟩
  obtain ⟨i, hi, rfl⟩ := List.getElem_of_mem h
  have hb := Nat.mod_lt b hn
  have e : ((i + (n - b % n)) % n + b) % n = i := by
    rw [Nat.add_mod, Nat.mod_mod, ← Nat.add_mod, Nat.add_assoc]
    have : n - b % n + b = n * (b / n + 1) := by
      have h1 := Nat.div_add_mod b n
      rw [Nat.mul_add, Nat.mul_one]; omega
    rw [this, Nat.add_mul_mod_self_left]
    exact Nat.mod_eq_of_lt (by omega)
  have h := turned_has (l := l) (b := b) (n := n) n ((i + (n - b % n)) % n) (Nat.mod_lt _ hn)
  rw [e, List.getD_eq_getElem?_getD, List.getElem?_eq_getElem hi] at h
  exact h
set_option maxRecDepth 100000 in
set_option maxHeartbeats 6400000 in
theorem keytreeOrder_any (w : World) (s : List UInt8) (hs : s.length = 32) (A : Option Addr) (n c : Nat) (l : List Int) (hl : l.length = n) (hc : n ≤ c) (hm : c ≤ maxLen) (hr : Rd w.heap.size w A (iv64 l)) (hz : ∀ z ∈ l, 0 ≤ z ∧ z ≤ 18446744073709551615) (b : Int) (hb : 0 ≤ b ∧ b ≤ 255) :
    Calls Try.prog 6 #[.agg (bva s), .slice A n c, .int .u8 b] w (RetB (.bool true) w) := by
  have HL := Lib.hid hl
  have HR := Lib.hid hr
  have HZ := Lib.hid hz
  have hcm : n ≤ 9223372036854775807 := by unfold maxLen at hm; omega
  clear hl hr hz hc hm
  have HS := Lib.hid hs
  have HK : Hid ((Try.prog.info? 23).map (·.size) = some (bva s).size) := by rw [bva_size, hs]; exact info_keyL
  have B1 := Lib.hid (show Blk (w.alloc (.cells (bva s) 23)) w.heap.size (bva s) 23 from heap_alloc_new _ _)
  have BB := Lib.hid (show Below w.heap.size w (w.alloc (.cells (bva s) 23)) from (Below.refl _ _).alloc (Nat.le_refl _) _)
  clear hs
  obtain ⟨b, rfl⟩ := Int.eq_ofNat_of_zero_le hb.1
  by_cases h24 : n ≤ 24
  · have hd : decide ((n : Int) > 24) = false := decide_eq_false (by omega)
    clear hcm
    go_enter Try.func6, Try.ntmps6
    go_wp2_with fail
    refine (ktAwake_any _).mono ?_
    rintro e w1 ⟨rfl, bw⟩
    have C1 := Lib.hid (B1.out.below bw)
    have CB := Lib.hid (BB.out.trans (bw.mono BB.out.size))
    clear bw B1 BB
    obtain ⟨rt, hrt⟩ : ∃ rt : Nd, rt = ⟨0, 0, s⟩ := ⟨_, rfl⟩
    have HRT := Lib.hid hrt
    have HOK : Hid (okS 0 [rt]) := by rw [hrt]; exact okS_root HS.out
    obtain ⟨zz, hzz⟩ : ∃ zz : List UInt8, zz = List.replicate 32 0 := ⟨_, rfl⟩
    have hz23 : ∀ W, (zeroValue 23).run Try.prog W = .ok (.agg (bva zz)) W := fun _ => by rw [hzz]; kernel_rfl
    have ZZ3 : Hid (zz.length = 32) := by show _ = _; rw [hzz]; rfl
    have HZZ := Lib.hid hzz
    clear hrt hzz
    go_wp2_with fail
    refine wp_region_held_drew (S := fun w' => Below w1.heap.size w1 w') (by kernel_rfl) (Below.refl _ _).drew (fun hh => ?_)
    have HH := Lib.hid hh
    clear hh
    refine wpAnyH_take (i := 0) (v := ?va0) rfl (by kernel_rfl) (by kernel_rfl) (by kernel_rfl) (fun _ _ _ h => h) (Or.inl ⟨by rfl, fun w' _ => ?ya0⟩) HH.out ?_
    case ya0 => (go_simp; try with_reducible rfl)
    try simp only [List.getElem_toArray, List.getElem_cons_zero, Act.put, List.setIfInBounds_toArray, List.set_cons_zero, List.set_cons_succ]
    refine wpAnyH_take (i := 1) (v := .iface 30 (.agg #[])) rfl (by kernel_rfl) (by kernel_rfl) (by kernel_rfl) (fun _ _ _ h => h) (Or.inl ⟨by rfl, fun w' _ => ?ya1⟩) HH.out ?_
    case ya1 => (go_simp; try with_reducible rfl)
    try simp only [List.getElem_toArray, List.getElem_cons_succ, List.getElem_cons_zero, Act.put, List.setIfInBounds_toArray, List.set_cons_zero, List.set_cons_succ]
    refine wpAnyH_take (i := 2) (v := .agg (bva s)) rfl (by kernel_rfl) (by kernel_rfl) (by kernel_rfl) (fun _ _ _ h => h) (Or.inl ⟨by rfl, fun w' hw' => ?ya2⟩) HH.out ?_
    case ya2 => exact exec_load 23 (.tmp 3) rfl rfl (C1.out.below hw') Try.underlying23 rfl HK.out
    refine wpAnyH_take (i := 4) (v := ?va4) rfl (by kernel_rfl) (by kernel_rfl) (by kernel_rfl) (fun _ _ _ h => h) (Or.inl ⟨by rfl, fun w' _ => ?ya4⟩) HH.out ?_
    case ya4 => (go_simp; try with_reducible rfl)
    try simp only [List.getElem_toArray, List.getElem_cons_succ, List.getElem_cons_zero, Act.put, List.setIfInBounds_toArray, List.set_cons_zero, List.set_cons_succ]
    refine wpAnyH_take (i := 5) (v := .iface 30 (.agg #[])) rfl (by kernel_rfl) (by kernel_rfl) (by kernel_rfl) (fun _ _ _ h => h) (Or.inl ⟨by rfl, fun w' _ => ?ya5⟩) HH.out ?_
    case ya5 => (go_simp; try with_reducible rfl)
    try simp only [List.getElem_toArray, List.getElem_cons_succ, List.getElem_cons_zero, Act.put, List.setIfInBounds_toArray, List.set_cons_zero, List.set_cons_succ]
    refine wpAnyH_take (i := 6) (v := .agg (bva s)) rfl (by kernel_rfl) (by kernel_rfl) (by kernel_rfl) (fun _ _ _ h => h) (Or.inl ⟨by rfl, fun w' hw' => ?ya6⟩) HH.out ?_
    case ya6 => exact exec_load 23 (.tmp 3) rfl rfl (C1.out.below hw') Try.underlying23 rfl HK.out
    try simp only [List.getElem_toArray, List.getElem_cons_succ, List.getElem_cons_zero, Act.put, List.setIfInBounds_toArray, List.set_cons_zero, List.set_cons_succ]
    have hsd : w1.drew.heap.size = w1.heap.size := rfl
    have hh2 := HH.out
    clear HH
    generalize w1.drew = wd at *
    have HH := Lib.hid hh2
    have HSD := Lib.hid hsd
    clear hh2 hsd
    refine wpAnyH_ready (rs := [3]) (by kernel_rfl) (by simp) (AllReadyH.cons rfl (fun K hK => ?_) AllReadyH.nil)
    go_simp
    refine (new_any s HS.out _).mono ?_
    rintro e w2 ⟨⟨g, F, rfl, ht, hF⟩, bw⟩
    go_simp
    rw [← HRT.out] at ht
    refine hK.out _ _ (HH.out.trans (bw.mono HH.out.size)) (fun hh => ?_)
    have T2 := Lib.hid ht
    have F2 := Lib.hid (show ∀ q, F q → w.heap.size ≤ q from fun q hq => by have h1 := hF q hq; have h2 := HSD.out; have h3 := CB.out.size; omega)
    clear ht hF bw
    have HH' := Lib.hid hh
    clear hh hK K HH
    have HH := Lib.hid HH'.out
    clear HH'
    try simp only [List.getElem_toArray, List.getElem_cons_succ, List.getElem_cons_zero, Act.put, List.setIfInBounds_toArray, List.set_cons_zero, List.set_cons_succ]
    refine wpAnyH_ready (rs := [7]) (by kernel_rfl) (by simp) (AllReadyH.cons rfl (fun K hK => ?_) AllReadyH.nil)
    go_simp
    refine (new_any s HS.out _).mono ?_
    rintro e w3 ⟨⟨g2, G, rfl, ht, hG⟩, bw⟩
    go_simp
    rw [← HRT.out] at ht
    refine hK.out _ _ (HH.out.trans (bw.mono HH.out.size)) (fun hh => ?_)
    have HTA := Lib.hid (T2.out.below bw)
    have HTB := Lib.hid ht
    have hs2 : w.heap.size ≤ w2.heap.size := Nat.le_trans CB.out.size HH.out.size
    have HFA := F2
    have HFB := Lib.hid (show ∀ q, G q → w.heap.size ≤ q from fun q hq => Nat.le_trans hs2 (hG q hq))
    have HDJ := Lib.hid (show ∀ q, F q → G q → False from fun q hq hq' => by have h1 := T2.out.lt q hq; have h2 := hG q hq'; omega)
    clear ht hG bw
    have HH' := Lib.hid hh
    clear hh hK K HH
    have HH := Lib.hid HH'.out
    clear HH'
    try simp only [List.getElem_toArray, List.getElem_cons_succ, List.getElem_cons_zero, Act.put, List.setIfInBounds_toArray, List.set_cons_zero, List.set_cons_succ]
    refine wpAnyH_take (i := 8) (v := ?va8) rfl (by kernel_rfl) (by kernel_rfl) (by kernel_rfl) (fun _ _ _ h => h) (Or.inl ⟨by rfl, fun w' _ => ?ya8⟩) HH.out ?_
    case ya8 => (go_simp; try with_reducible rfl)
    try simp only [List.getElem_toArray, List.getElem_cons_succ, List.getElem_cons_zero, Act.put, List.setIfInBounds_toArray, List.set_cons_zero, List.set_cons_succ]
    refine wpAnyH_take (i := 9) (v := ?va9) rfl (by kernel_rfl) (by kernel_rfl) (by kernel_rfl) (fun _ _ _ h => h) (Or.inl ⟨by rfl, fun w' _ => ?ya9⟩) HH.out ?_
    case ya9 => (go_simp; try with_reducible rfl)
    try simp only [List.getElem_toArray, List.getElem_cons_succ, List.getElem_cons_zero, Act.put, List.setIfInBounds_toArray, List.set_cons_zero, List.set_cons_succ]
    refine wpAnyH_done (by kernel_rfl) ?_ _
    try simp only [List.getElem_toArray, List.getElem_cons_succ, List.getElem_cons_zero, Act.put, List.setIfInBounds_toArray, List.set_cons_zero, List.set_cons_succ]
    have HB := Lib.hid (CB.out.trans (HH.out.mono CB.out.size))
    clear HH T2 F2 C1 CB
    go_wp2_with fail
    go_loopw [9] (fun i wr => ∃ k F G, k ≤ n ∧ i = .int .i64 (k : Nat) ∧ Tr wr g (punAll [rt] (l.take k)) F ∧ Tr wr g2 (punAll [rt] (turned l b n k)) G ∧ Hid (∀ q, F q → G q → False) ∧ Hid (∀ q, F q → w.heap.size ≤ q) ∧ Hid (∀ q, G q → w.heap.size ≤ q) ∧ Below w.heap.size w wr) (fun i _ => n - (intOf i).toNat)
    case atStart => exact ⟨0, F, G, by omega, rfl, HTA.out, HTB.out, HDJ, HFA, HFB, HB.out⟩
    case round =>
      clear HTA HTB HDJ HFA HFB HB
      obtain ⟨k, F, G, hk, rfl, hta, htb, HDJ, HFA, HFB, hbw⟩ := hrel
      have HTA := Lib.hid hta
      have HTB := Lib.hid htb
      have HB := Lib.hid hbw
      clear hta htb hbw
      by_cases hlt : k < n
      · have hkl : k < l.length := by rw [HL.out]; exact hlt
        obtain ⟨ad, hA, hbl, _⟩ := rd_u64 HR.out hkl
        subst hA
        obtain ⟨m, hm⟩ : ∃ m, m = l.getD k 0 := ⟨_, rfl⟩
        have hcell : ∀ w', Below w.heap.size w w' → w'.cell? (ad.add k) = some (.int .u64 m) := fun w' hb' => by
          obtain ⟨ad', hA', _, hc⟩ := rd_u64 (HR.out.below hb') hkl
          injection hA' with hA'
          subst hA'
          rw [hm]; exact hc
        have hmb : 0 ≤ m ∧ m ≤ 18446744073709551615 := HZ.out m (by
          rw [hm, List.getD_eq_getElem?_getD, List.getElem?_eq_getElem hkl]; exact List.getElem_mem hkl)
        have HCL := Lib.hid hcell
        have HMB := Lib.hid hmb
        have HMV := Lib.hid hm
        have k0 : (0 : Int) ≤ (k : Int) := by omega
        have k1 : (k : Int) < (n : Int) := by omega
        clear hcell hmb hm hbl
        have cc := HCL.out _ HB.out
        obtain ⟨j, hj⟩ : ∃ j, j = (k + b) % n := ⟨_, rfl⟩
        have hjn : j < n := by rw [hj]; exact Nat.mod_lt _ (by omega)
        have hjl : j < l.length := by rw [HL.out]; exact hjn
        obtain ⟨mj, hmj⟩ : ∃ mj, mj = l.getD j 0 := ⟨_, rfl⟩
        obtain ⟨m0, hm0⟩ : ∃ m0, m0 = l.getD 0 0 := ⟨_, rfl⟩
        have hcj : ∀ w', Below w.heap.size w w' → w'.cell? (ad.add j) = some (.int .u64 mj) := fun w' hb' => by
          obtain ⟨ad', hA', _, hc⟩ := rd_u64 (HR.out.below hb') hjl
          injection hA' with hA'
          subst hA'
          rw [hmj]; exact hc
        have hc0 : ∀ w', Below w.heap.size w w' → w'.cell? ad = some (.int .u64 m0) := fun w' hb' => by
          obtain ⟨ad', hA', _, hc⟩ := rd_u64 (HR.out.below hb') (k := 0) (by omega)
          injection hA' with hA'
          subst hA'
          rw [hm0]; exact hc
        have HCJ := Lib.hid hcj
        have HC0 := Lib.hid hc0
        have HJ := Lib.hid hj
        have HMJ := Lib.hid hmj
        have HM0 := Lib.hid hm0
        have e1 : IntKind.i64.wrap ((k : Int) + (b : Int)) = (k : Int) + (b : Int) := IntWalk.i64_in _ (by omega)
        have e2 : ((k : Int) + (b : Int)) % (n : Int) = (j : Int) := by rw [hj, Int.natCast_emod, Int.natCast_add]
        have e3 : ((k : Int) + (b : Int)).tmod (n : Int) = (j : Int) := by rw [Int.tmod_eq_emod_of_nonneg (by omega), e2]
        have j0 : (0 : Int) ≤ (j : Int) := by omega
        have j1 : (j : Int) < (n : Int) := by omega
        have z1 : (0 : Int) < (n : Int) := by omega
        have nz : ((n : Int) == 0) = false := by simp; omega
        clear hcj hc0 hj hmj hm0
        go_wp2_with fail
        refine (tpuncture_any g _ F m _ HTA.out).mono ?_
        rintro e w5 ⟨rfl, hp⟩
        obtain ⟨F5, ht5, htb5, hd5, hF5, hb5⟩ := pun_two hp HTB.out HDJ.out HFA.out HB.out.size
        rw [HMV.out, ← punAll_snoc _ _ hkl] at ht5
        have HTA5 := Lib.hid ht5
        have HTB5 := Lib.hid htb5
        have HDJ5 := Lib.hid hd5
        have HFA5 := Lib.hid hF5
        have HB5 := Lib.hid (HB.out.trans hb5)
        have cj := HCJ.out _ HB5.out
        clear hp ht5 htb5 hd5 hF5 hb5 cc HTA HTB HB
        go_wp2_with fail
        refine (tpuncture_any g2 _ G mj _ HTB5.out).mono ?_
        rintro e w6 ⟨rfl, hp⟩
        obtain ⟨G6, ht6, hta6, hd6, hG6, hb6⟩ := pun_two hp HTA5.out (fun q hq hq' => HDJ5.out q hq' hq) HFB.out HB5.out.size
        have HTA6 := Lib.hid hta6
        have HTB6 := Lib.hid ht6
        have HDJ6 := Lib.hid hd6
        have HFB6 := Lib.hid hG6
        have HB6 := Lib.hid (HB5.out.trans hb6)
        have c0 := HC0.out _ HB6.out
        clear hp ht6 hta6 hd6 hG6 hb6 cj HTA5 HTB5 HB5 HDJ5
        go_wp2_with fail
        refine (tpuncture_any g2 _ G6 m0 _ HTB6.out).mono ?_
        rintro e w7 ⟨rfl, hp⟩
        obtain ⟨G7, ht7, hta7, hd7, hG7, hb7⟩ := pun_two hp HTA6.out HDJ6.out HFB6.out HB6.out.size
        have hcan : punL (punL (punAll [rt] (turned l b n k)) mj) m0 = punAll [rt] (turned l b n (k + 1)) := by
          rw [turned, ← HJ.out, ← HMJ.out, ← HM0.out, punAll_append]; rfl
        rw [hcan] at ht7
        have HTA7 := Lib.hid hta7
        have HTB7 := Lib.hid ht7
        have HDJ7 := Lib.hid (show ∀ q, F5 q → G7 q → False from fun q hq hq' => hd7 q hq' hq)
        have HFB7 := Lib.hid hG7
        have HB7 := Lib.hid (HB6.out.trans hb7)
        have ek : IntKind.i64.wrap ((k : Int) + 1) = ((k + 1 : Nat) : Int) := by rw [IntWalk.i64_in _ (by omega)]; omega
        clear hp ht7 hta7 hd7 hG7 hb7 c0 HTA6 HTB6 HB6 HDJ6 hcan
        go_wp2_with fail
        go_roundw
        case rel => exact ⟨k + 1, F5, G7, by omega, by go_num, HTA7.out, HTB7.out, HDJ7, HFA5, HFB7, HB7.out⟩
        case measure => simp [intOf]; omega
      · obtain rfl : k = n := by omega
        obtain ⟨X, hX⟩ : ∃ X, X = canL 17 rt l := ⟨_, rfl⟩
        have hca : punAll [rt] (l.take k) = X := by rw [List.take_of_length_le (by rw [HL.out]; exact Nat.le_refl _), HRT.out, hX, HRT.out]; exact punAll_root HS.out l
        by_cases h0 : 0 < k
        · have hcb : punAll [rt] (turned l b k k) = X := by
            rw [HRT.out, hX, HRT.out, punAll_root HS.out]
            exact (can_congr 17 _ (turned_all h0 HL.out)).symm
          have hta := HTA.out
          have htb := HTB.out
          rw [hca] at hta
          rw [hcb] at htb
          have hxm : punL X (l.getD (k - 1) 0) = X := by
            refine punL_hasnt ?_
            have hkl : k - 1 < l.length := by rw [HL.out]; omega
            have hm : l.getD (k - 1) 0 ∈ l := by rw [List.getD_eq_getElem?_getD, List.getElem?_eq_getElem hkl]; exact List.getElem_mem _
            have hr : okH rt ∧ rt.d = 0 := by rw [HRT.out]; exact ⟨(okS_root HS.out).1, rfl⟩
            rw [hX, hasI_can 17 rt l _ hr.1 (by rw [hr.2]; rfl), decide_eq_true hm, Bool.not_true, Bool.and_false]
          obtain ⟨mz, hmz⟩ : ∃ mz, mz = l.getD (k - 1) 0 := ⟨_, rfl⟩
          obtain ⟨ad, hA, _, hcz⟩ := rd_u64 (HR.out.below HB.out) (k := k - 1) (by rw [HL.out]; omega)
          subst hA
          rw [← hmz] at hxm hcz
          obtain ⟨j, hj⟩ : ∃ j, j = k - 1 := ⟨_, rfl⟩
          rw [← hj] at hcz
          have ez : IntKind.i64.wrap ((k : Int) - 1) = (j : Int) := by rw [IntWalk.i64_in _ (by omega)]; omega
          have j0 : (0 : Int) ≤ (j : Int) := by omega
          have j1 : (j : Int) < (k : Int) := by omega
          have d0 : decide ((k : Int) > 0) = true := decide_eq_true (by omega)
          have HXM := Lib.hid hxm
          have HXO := Lib.hid hta.ok
          have HTX := Lib.hid hta
          have HTY := Lib.hid htb
          clear hxm hmz hj hca hcb hta htb hX HTA HTB
          go_wp2_with fail
          refine (tpuncture_any g _ F mz _ HTX.out).mono ?_
          rintro e w5 ⟨rfl, hp⟩
          obtain ⟨F5, ht5, htb5, _, _, hb5⟩ := pun_two hp HTY.out HDJ.out HFA.out HB.out.size
          rw [HXM.out] at ht5
          have HT5 := Lib.hid ht5
          have HTB5 := Lib.hid htb5
          have HB5 := Lib.hid (HB.out.trans hb5)
          clear hp ht5 htb5 hb5 HTX HTY HB
          go_wp2_with fail
          refine (theld_tr HT5.out).mono ?_
          rintro e v1 ⟨A1, n1, c1, rfl, ho1, bw⟩
          have hn1 : X.length = n1 := by
            have h1 := ho1.1
            rw [nvs_length (okS_len HXO.out)] at h1; omega
          have hfew : n1 ≤ 131072 := by rw [← hn1]; exact okS_few HXO.out
          have HN1 := Lib.hid hn1
          have U1 := Lib.hid (HT5.out.below bw)
          have V1 := Lib.hid (HTB5.out.below bw)
          have W1 := Lib.hid (HB5.out.trans (bw.mono HB5.out.size))
          have O1 := Lib.hid ho1
          clear ho1 bw hn1
          go_wp2_with fail
          refine (plain_any A1 n1 c1 X _ HN1.out (okS_len HXO.out) (Nat.le_refl _) (Rd.ownN O1.out) (by omega)).mono ?_
          rintro e v2 ⟨A2, n2, c2, rfl, ho2, bw⟩
          have hn2 : X.length = n2 := by
            have h1 := ho2.1
            rw [nvs_length (okS_len HXO.out)] at h1; omega
          have HN2 := Lib.hid hn2
          have U2 := Lib.hid (U1.out.below bw)
          have V2 := Lib.hid (V1.out.below bw)
          have W2 := Lib.hid (W1.out.trans (bw.mono W1.out.size))
          have O2 := Lib.hid ho2
          clear ho2 bw hn2 U1 V1 W1 O1
          go_wp2_with fail
          refine (theld_tr V2.out).mono ?_
          rintro e v3 ⟨A3, n3, c3, rfl, ho3, bw⟩
          have hn3 : X.length = n3 := by
            have h1 := ho3.1
            rw [nvs_length (okS_len HXO.out)] at h1; omega
          have hfew3 : n3 ≤ 131072 := by rw [← hn3]; exact okS_few HXO.out
          have HN3 := Lib.hid hn3
          have U3 := Lib.hid (U2.out.below bw)
          have V3 := Lib.hid (V2.out.below bw)
          have W3 := Lib.hid (W2.out.trans (bw.mono W2.out.size))
          have O3 := Lib.hid (own_belowN O2.out bw)
          have P3 := Lib.hid ho3
          clear ho3 bw hn3 U2 V2 W2 O2
          go_wp2_with fail
          refine (plain_any A3 n3 c3 X _ HN3.out (okS_len HXO.out) (Nat.le_refl _) (Rd.ownN P3.out) (by omega)).mono ?_
          rintro e v4 ⟨A4, n4, c4, rfl, ho4, bw⟩
          have hn4 : X.length = n4 := by
            have h1 := ho4.1
            rw [nvs_length (okS_len HXO.out)] at h1; omega
          have HN4 := Lib.hid hn4
          have U4 := Lib.hid (U3.out.below bw)
          have V4 := Lib.hid (V3.out.below bw)
          have W4 := Lib.hid (W3.out.trans (bw.mono W3.out.size))
          have O4 := Lib.hid (own_belowN O3.out bw)
          have P4 := Lib.hid ho4
          have hl2 : n2 ≤ 131072 := by have := HN1.out; have := HN2.out; omega
          have hl4 : n4 ≤ 131072 := by have := HN3.out; have := HN4.out; omega
          clear ho4 bw hn4 U3 V3 W3 O3 P3
          go_wp2_with fail
          refine (same_any A2 A4 n2 n4 c2 c4 X X _ HN2.out HN4.out (okS_len HXO.out) (okS_len HXO.out) (Rd.ownN O4.out) (Rd.ownN P4.out) (by unfold maxLen; omega) (by unfold maxLen; omega)).mono ?_
          rintro e v5 ⟨rfl, q, rfl⟩
          rw [decide_eq_true (rfl : X = X)]
          have U5 := Lib.hid (U4.out.drewN q)
          have V5 := Lib.hid (V4.out.drewN q)
          have W5 := Lib.hid (below_drewN' W4.out q)
          generalize v4.drewN q = v5 at *
          clear U4 V4 W4 O4 P4
          go_wp2_with fail
          refine (tcount_tr U5.out).mono ?_
          rintro e v6 ⟨rfl, bw⟩
          have V6 := Lib.hid (V5.out.below bw)
          have W6 := Lib.hid (W5.out.trans (bw.mono W5.out.size))
          clear bw U5 V5 W5
          go_wp2_with fail
          refine (tcount_tr V6.out).mono ?_
          rintro e v7 ⟨rfl, bw⟩
          have W7 := Lib.hid (W6.out.trans (bw.mono W6.out.size))
          clear bw V6 W6
          generalize countL X = CX
          have hcx : (CX == CX) = true := beq_self_eq_true CX
          go_wp2_with fail
          go_ret
          exact ⟨rfl, W7.out⟩
        · obtain rfl : k = 0 := by omega
          have hcb : punAll [rt] (turned l b 0 0) = X := by
            rw [← hca]; rfl
          have hta := HTA.out
          have htb := HTB.out
          rw [hca] at hta
          rw [hcb] at htb
          have HXO := Lib.hid hta.ok
          have HTX := Lib.hid hta
          have HTY := Lib.hid htb
          clear hca hcb hta htb hX HTA HTB
          go_wp2_with fail
          refine (theld_tr HTX.out).mono ?_
          rintro e v1 ⟨A1, n1, c1, rfl, ho1, bw⟩
          have hn1 : X.length = n1 := by
            have h1 := ho1.1
            rw [nvs_length (okS_len HXO.out)] at h1; omega
          have hfew : n1 ≤ 131072 := by rw [← hn1]; exact okS_few HXO.out
          have HN1 := Lib.hid hn1
          have U1 := Lib.hid (HTX.out.below bw)
          have V1 := Lib.hid (HTY.out.below bw)
          have W1 := Lib.hid (HB.out.trans (bw.mono HB.out.size))
          have O1 := Lib.hid ho1
          clear ho1 bw hn1
          go_wp2_with fail
          refine (plain_any A1 n1 c1 X _ HN1.out (okS_len HXO.out) (Nat.le_refl _) (Rd.ownN O1.out) (by omega)).mono ?_
          rintro e v2 ⟨A2, n2, c2, rfl, ho2, bw⟩
          have hn2 : X.length = n2 := by
            have h1 := ho2.1
            rw [nvs_length (okS_len HXO.out)] at h1; omega
          have HN2 := Lib.hid hn2
          have U2 := Lib.hid (U1.out.below bw)
          have V2 := Lib.hid (V1.out.below bw)
          have W2 := Lib.hid (W1.out.trans (bw.mono W1.out.size))
          have O2 := Lib.hid ho2
          clear ho2 bw hn2 U1 V1 W1 O1
          go_wp2_with fail
          refine (theld_tr V2.out).mono ?_
          rintro e v3 ⟨A3, n3, c3, rfl, ho3, bw⟩
          have hn3 : X.length = n3 := by
            have h1 := ho3.1
            rw [nvs_length (okS_len HXO.out)] at h1; omega
          have hfew3 : n3 ≤ 131072 := by rw [← hn3]; exact okS_few HXO.out
          have HN3 := Lib.hid hn3
          have U3 := Lib.hid (U2.out.below bw)
          have V3 := Lib.hid (V2.out.below bw)
          have W3 := Lib.hid (W2.out.trans (bw.mono W2.out.size))
          have O3 := Lib.hid (own_belowN O2.out bw)
          have P3 := Lib.hid ho3
          clear ho3 bw hn3 U2 V2 W2 O2
          go_wp2_with fail
          refine (plain_any A3 n3 c3 X _ HN3.out (okS_len HXO.out) (Nat.le_refl _) (Rd.ownN P3.out) (by omega)).mono ?_
          rintro e v4 ⟨A4, n4, c4, rfl, ho4, bw⟩
          have hn4 : X.length = n4 := by
            have h1 := ho4.1
            rw [nvs_length (okS_len HXO.out)] at h1; omega
          have HN4 := Lib.hid hn4
          have U4 := Lib.hid (U3.out.below bw)
          have V4 := Lib.hid (V3.out.below bw)
          have W4 := Lib.hid (W3.out.trans (bw.mono W3.out.size))
          have O4 := Lib.hid (own_belowN O3.out bw)
          have P4 := Lib.hid ho4
          have hl2 : n2 ≤ 131072 := by have := HN1.out; have := HN2.out; omega
          have hl4 : n4 ≤ 131072 := by have := HN3.out; have := HN4.out; omega
          clear ho4 bw hn4 U3 V3 W3 O3 P3
          go_wp2_with fail
          refine (same_any A2 A4 n2 n4 c2 c4 X X _ HN2.out HN4.out (okS_len HXO.out) (okS_len HXO.out) (Rd.ownN O4.out) (Rd.ownN P4.out) (by unfold maxLen; omega) (by unfold maxLen; omega)).mono ?_
          rintro e v5 ⟨rfl, q, rfl⟩
          rw [decide_eq_true (rfl : X = X)]
          have U5 := Lib.hid (U4.out.drewN q)
          have V5 := Lib.hid (V4.out.drewN q)
          have W5 := Lib.hid (below_drewN' W4.out q)
          generalize v4.drewN q = v5 at *
          clear U4 V4 W4 O4 P4
          go_wp2_with fail
          refine (tcount_tr U5.out).mono ?_
          rintro e v6 ⟨rfl, bw⟩
          have V6 := Lib.hid (V5.out.below bw)
          have W6 := Lib.hid (W5.out.trans (bw.mono W5.out.size))
          clear bw U5 V5 W5
          go_wp2_with fail
          refine (tcount_tr V6.out).mono ?_
          rintro e v7 ⟨rfl, bw⟩
          have W7 := Lib.hid (W6.out.trans (bw.mono W6.out.size))
          clear bw V6 W6
          generalize countL X = CX
          have hcx : (CX == CX) = true := beq_self_eq_true CX
          go_wp2_with fail
          go_ret
          exact ⟨rfl, W7.out⟩
  · have hd : decide ((n : Int) > 24) = true := decide_eq_true (by omega)
    go_enter Try.func6, Try.ntmps6
    go_wp2_with fail
    refine (ktAwake_any _).mono ?_
    rintro e w1 ⟨rfl, bw⟩
    have CB := Lib.hid (BB.out.trans (bw.mono BB.out.size))
    clear bw B1 BB
    go_wp2_with fail
    refine (ktAwake_any _).mono ?_
    rintro e w2 ⟨rfl, bw⟩
    have CB2 := Lib.hid (CB.out.trans (bw.mono CB.out.size))
    clear bw CB
    go_wp2_with fail
    go_ret
    exact ⟨rfl, CB2.out⟩
theorem keytreeOrder_own : ownKnob Try.prog.godebug = none := by kernel_rfl
theorem keytreeOrder_laid : laidOutB Try.prog = true := by kernel_rfl

set_option maxRecDepth 100000 in
theorem keytreeOrder_lifted (os : Os) (started : os.Started) (H : Type) (enc : TypeId × Value → H) :
    ReturnsInHanded {} Try.checked os 6 .any (Rows.keytreeOrderSpec.pre6 enc Try.prog Try.f6 Rows.keytreeOrderRow.domain false) (Rows.keytreeOrderSpec.post enc Try.prog Try.f6 false true false false) := by
  refine returnsInHanded_of_change (C := Try.checked) keytreeOrder_own started (by kernel_rfl) Try.func6
    (ChangeSpec.witness6 (enc := enc) (C := Try.checked) false ⟨#[], #[.agg #[.int .u8 0, .int .u8 0, .int .u8 0, .int .u8 0, .int .u8 0, .int .u8 0, .int .u8 0, .int .u8 0, .int .u8 0, .int .u8 0, .int .u8 0, .int .u8 0, .int .u8 0, .int .u8 0, .int .u8 0, .int .u8 0, .int .u8 0, .int .u8 0, .int .u8 0, .int .u8 0, .int .u8 0, .int .u8 0, .int .u8 0, .int .u8 0, .int .u8 0, .int .u8 0, .int .u8 0, .int .u8 0, .int .u8 0, .int .u8 0, .int .u8 0, .int .u8 0], .slice none 0 0, .int .u8 0], []⟩ 8 (by kernel_rfl) (by kernel_rfl) (by kernel_rfl) (by kernel_rfl)) ?_
  intro W base args ds gs before hval0 hW _ _
  have hval : ∀ (j : Nat) t v, Try.f6.params[j]? = some t → args[j]? = some v → Value.okWide Try.prog W .any base t v := hval0
  have hW' := hW
  obtain ⟨p, q, hA0, hV, rfl, hfz, hnd⟩ := hW
  have hA : DataW.TrodAll enc Try.prog W 0 (fun _ => true) true Try.f6.params.toList args.toList ds p := hA0
  rw [Try.params6] at hA hval
  obtain ⟨v0, vs0, d0, ds0, p0, q0, hargs, rfl, rfl, h0, r0⟩ := trodAll_cons hA
  obtain ⟨v1, vs1, d1, ds1, p1, q1, rfl, rfl, rfl, h1, r1⟩ := trodAll_cons r0
  obtain ⟨v2, vs2, d2, ds2, p2, q2, rfl, rfl, rfl, h2, r2⟩ := trodAll_cons r1
  obtain ⟨rfl, rfl, rfl⟩ := trodAll_nil r2
  obtain rfl : args = #[v0, v1, v2] := by cases args; simp_all
  obtain ⟨rfl, rfl⟩ := trodVars_none hV
  have lt0 : ∀ x ∈ p0, x.block < W.heap.size := by obtain ⟨m, hm⟩ := h0; exact DataW.trod_lt m _ _ _ hm
  obtain ⟨l0, hl0, rfl⟩ := open_u8s Try.underlying23 Try.underlying5 (by kernel_rfl) (by kernel_rfl) (hval 0 23 v0 rfl rfl) h0
  obtain ⟨a1, n1, c1, rfl⟩ := okWide_slice Try.underlying24 (hval 1 24 v1 rfl rfl)
  have lt1 : ∀ x ∈ p1, x.block < W.heap.size := by obtain ⟨m, hm⟩ := h1; exact DataW.trod_lt m _ _ _ hm
  obtain ⟨l1, hl1, hc1, hm1, hr1, hz1⟩ := open_u64s Try.underlying24 Try.underlying25 (by kernel_rfl) h1
  obtain ⟨a2, rfl, rfl, rfl, w2⟩ := open_int Try.underlying5 (hval 2 5 v2 rfl rfl) h2
  have b2 := bounds_u8 w2
  clear hA0 hval0
  refine (keytreeOrder_any W l0 hl0 a1 n1 c1 l1 hl1 hc1 hm1 hr1 hz1 a2 b2).mono fun e W' ⟨he, bel⟩ => ?_
  subst he
  exact ⟨_, rfl, _, _, _, [], _, [], hW', trodAll_mk1 (shut_bool Try.underlying4 _), (trodAll_cons_mk (Below.trod keytreeOrder_laid (by kernel_rfl) (of_decide_eq_true (by kernel_rfl)) h0 bel lt0) (trodAll_cons_mk (Below.trod keytreeOrder_laid (by kernel_rfl) (of_decide_eq_true (by kernel_rfl)) h1 bel lt1) (trodAll_cons_mk (shut_int Try.underlying5 w2) trodAll_mk0))), rfl, bel.frame _, fun h => by cases h⟩

theorem keytreeOrder_holds : Rows.KeytreeOrderSaid :=
  OpenClaim.holds_of_wide 6 Try.f6 rfl rfl rfl rfl rfl rfl rfl ⟨rfl, rfl, rfl, rfl, rfl⟩ rfl rfl rfl rfl rfl (by kernel_rfl) Try.func6 (by kernel_rfl)
    (of_decide_eq_true (by kernel_rfl)) (by unfold Func.isWrapper; rw [if_neg (of_decide_eq_false (by kernel_rfl))]; exact ⟨rfl, rfl⟩)
    (fun os started H enc _ => keytreeOrder_lifted os started H enc)

#print axioms keytreeOrder_holds

end Go.Proofs.Ytkfcllcdkgnfbaa
