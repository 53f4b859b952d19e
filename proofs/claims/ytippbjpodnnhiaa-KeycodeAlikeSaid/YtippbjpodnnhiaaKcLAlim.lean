/-
  KeycodeAlike holds: two trees have the same bytes just if they hold the same nodes; in whatever order the same leaves are punctured, the bytes are the same.
-/
import Derived.Test.YtippbjpodnnhiaaMk1
import Derived.Deep.RegionHeld
import Derived.Test.YtippbjpodnnhiaaRows
import Derived.ProofKit
import Derived.OpenShut
import Derived.ShutString
import Derived.ChangeOld
namespace Go.Proofs.Ytippbjpodnnhiaa
open Go.RowKit Go.ChangeShapes Go.WideShapes Go.ChangeAt
open Kg Kc
attribute [local go_sem ↓] Go.wp_at_zero Go.wp_at_succ
theorem str_same {S T : ByteArray} {a b : List UInt8} (hS : S = ⟨a.toArray⟩) (hT : T = ⟨b.toArray⟩) : (S.toList == T.toList) = decide (a = b) := by
  have e1 : S.toList = a := by rw [hS, Lib.toList_data, List.toList_toArray]
  have e2 : T.toList = b := by rw [hT, Lib.toList_data, List.toList_toArray]
  rw [e1, e2, Bool.eq_iff_iff, beq_iff_eq, decide_eq_true_iff]
/-- The leaves that the second tree loses: each turned. -/
def turnL (l : List Int) (b n : Nat) : Nat → List Int
  | 0 => []
  | k + 1 => turnL l b n k ++ [l.getD ((k + b) % n) 0]
theorem turnL_mem {l : List Int} {b n : Nat} (hn : 0 < n) (hl : l.length = n) : ∀ (k : Nat) (z : Int), z ∈ turnL l b n k → z ∈ l
  | 0, z, h => by simp [turnL] at h
  | k + 1, z, h => by
    simp only [turnL, List.mem_append, List.mem_singleton] at h
    rcases h with h | h
    · exact turnL_mem hn hl k z h
    · have hj := Nat.mod_lt (k + b) hn
      rw [h, List.getD_eq_getElem?_getD, List.getElem?_eq_getElem (by omega)]; exact List.getElem_mem _
theorem turnL_has {l : List Int} {b n : Nat} : ∀ (k j : Nat), j < k → l.getD ((j + b) % n) 0 ∈ turnL l b n k
  | 0, j, h => by omega
  | k + 1, j, h => by
    simp only [turnL, List.mem_append, List.mem_singleton]
    rcases Nat.lt_or_ge j k with h1 | h1
    · exact .inl (turnL_has k j h1)
    · obtain rfl : j = k := by omega
      exact .inr rfl
theorem turnL_all {l : List Int} {b n : Nat} (hn : 0 < n) (hl : l.length = n) (z : Int) : z ∈ l ↔ z ∈ turnL l b n n := by
  refine ⟨fun h => ?_, turnL_mem hn hl n z⟩
  obtain ⟨i, hi, rfl⟩ := List.getElem_of_mem h
  have hb := Nat.mod_lt b hn
  have e : ((i + (n - b % n)) % n + b) % n = i := by
    rw [Nat.add_mod, Nat.mod_mod, ← Nat.add_mod, Nat.add_assoc]
    have : n - b % n + b = n * (b / n + 1) := by
      have h1 := Nat.div_add_mod b n
      rw [Nat.mul_add, Nat.mul_one]; omega
    rw [this, Nat.add_mul_mod_self_left]
    exact Nat.mod_eq_of_lt (by omega)
  have h := turnL_has (l := l) (b := b) (n := n) n ((i + (n - b % n)) % n) (Nat.mod_lt _ hn)
  rw [e, List.getD_eq_getElem?_getD, List.getElem?_eq_getElem hi] at h
  exact h
theorem punAll_append (x : List Nd) (a b : List Int) : punAll litC x (a ++ b) = punAll litC (punAll litC x a) b := List.foldl_append ..
theorem pun_three {w w' : World} {g g2 g3 N : Nat} {l l2 l3 : List Nd} {m : Int} {F G E : Nat → Prop} (h : ∃ F', Tr litC w' g (punL litC l m) F' ∧ But F w w' ∧ ∀ k, F' k → F k ∨ w.heap.size ≤ k) (hB : Tr litC w g2 l2 G) (hC : Tr litC w g3 l3 E) (hd : ∀ q, F q → G q → False) (he : ∀ q, F q → E q → False) (hF : ∀ q, F q → N ≤ q) (hN : N ≤ w.heap.size) :
    ∃ F', Tr litC w' g (punL litC l m) F' ∧ Tr litC w' g2 l2 G ∧ Tr litC w' g3 l3 E ∧ (∀ q, F' q → G q → False) ∧ (∀ q, F' q → E q → False) ∧ (∀ q, F' q → N ≤ q) ∧ Below N w w' := by
  obtain ⟨F', h1, h2, h3⟩ := h
  refine ⟨F', h1, hB.but h2 (fun q hq hq' => hd q hq' hq), hC.but h2 (fun q hq hq' => he q hq' hq), fun q hq hq' => ?_, fun q hq hq' => ?_, fun q hq => by rcases h3 q hq with h | h; exact hF q h; omega, but_belowF h2 hF hN⟩
  · rcases h3 q hq with h | h
    · exact hd q h hq'
    · have := hB.lt q hq'; omega
  · rcases h3 q hq with h | h
    · exact he q h hq'
    · have := hC.lt q hq'; omega
set_option maxRecDepth 100000 in
set_option maxHeartbeats 6400000 in
theorem keycodeAlike_any (w : World) (s : List UInt8) (hs : s.length = 32) (s2 : List UInt8) (hs2 : s2.length = 32) (A : Option Addr) (n c : Nat) (l : List Int) (hl : l.length = n) (_hc : n ≤ c) (_hm : c ≤ maxLen) (hr : Rd w.heap.size w A (iv64 l)) (hz : ∀ z ∈ l, 0 ≤ z ∧ z ≤ 18446744073709551615) (tn : Int) (htn : 0 ≤ tn ∧ tn ≤ 255) :
    Calls Try.prog 10 #[.agg (bva s), .agg (bva s2), .slice A n c, .int .u8 tn] w (RetB (.bool true) w) := by
  have HL := Lib.hid hl
  have HR := Lib.hid hr
  have HZ := Lib.hid hz
  clear hl hr hz _hc _hm
  have HS := Lib.hid hs
  have HK : Hid ((Try.prog.info? 43).map (·.size) = some (bva s).size) := by rw [bva_size, hs]; exact info_keyL
  have B1 := Lib.hid (show Blk (w.alloc (.cells (bva s) 43)) w.heap.size (bva s) 43 from heap_alloc_new _ _)
  have BB := Lib.hid (show Below w.heap.size w (w.alloc (.cells (bva s) 43)) from (Below.refl _ _).alloc (Nat.le_refl _) _)
  have HBL := Lib.hid (show ∀ W, (Instr.build 49 #[]).run Try.prog W = .ok (.agg zeroLit) W from fun _ => by kernel_rfl)
  clear hs
  have HS2 := Lib.hid hs2
  have HK2 : Hid ((Try.prog.info? 43).map (·.size) = some (bva s2).size) := by rw [bva_size, hs2]; exact info_keyL
  have B2 := Lib.hid (show Blk ((w.alloc (.cells (bva s) 43)).alloc (.cells (bva s2) 43)) (w.heap.size + 1) (bva s2) 43 from by have h := heap_alloc_new (w.alloc (.cells (bva s) 43)) (.cells (bva s2) 43); rwa [World.size_alloc] at h)
  have B1' := Lib.hid (show Blk ((w.alloc (.cells (bva s) 43)).alloc (.cells (bva s2) 43)) w.heap.size (bva s) 43 from blk_oldL B1.out)
  have BB' := Lib.hid (show Below w.heap.size w ((w.alloc (.cells (bva s) 43)).alloc (.cells (bva s2) 43)) from BB.out.alloc BB.out.size _)
  clear hs2 B1 BB
  have B1 := B1'
  have BB := BB'
  clear B1' BB'
  obtain ⟨b, rfl⟩ := Int.eq_ofNat_of_zero_le htn.1
  have htn2 : b ≤ 255 := by have := htn.2; omega
  clear htn
  by_cases h24 : n ≤ 10
  · have hd : decide ((n : Int) > 10) = false := decide_eq_false (by omega)
    go_enter Try.func10, Try.ntmps10
    go_wp2_with fail
    refine (kcAwake_any _).mono ?_
    rintro e w1 ⟨rfl, bw⟩
    have C1 := Lib.hid (B1.out.below bw)
    have D1 := Lib.hid (B2.out.below bw)
    have CB := Lib.hid (BB.out.trans (bw.mono BB.out.size))
    clear bw B1 B2 BB
    obtain ⟨rt, hrt⟩ : ∃ rt : Nd, rt = ⟨0, 0, s⟩ := ⟨_, rfl⟩
    have HRT := Lib.hid hrt
    have HOK : Hid (okS 0 [rt]) := by rw [hrt]; exact okS_root HS.out
    obtain ⟨zz, hzz⟩ : ∃ zz : List UInt8, zz = List.replicate 32 0 := ⟨_, rfl⟩
    have hz23 : ∀ W, (zeroValue 43).run Try.prog W = .ok (.agg (bva zz)) W := fun _ => by rw [hzz]; kernel_rfl
    have ZZ3 : Hid (zz.length = 32) := by show _ = _; rw [hzz]; rfl
    obtain ⟨L, hL⟩ : ∃ L, L = l.map (· % 131072) := ⟨_, rfl⟩
    have HLV := Lib.hid hL
    have HLL := Lib.hid (show L.length = n by rw [hL, List.length_map, HL.out])
    clear hrt hzz hL
    obtain ⟨ro, hro⟩ : ∃ ro : Nd, ro = ⟨0, 0, s2⟩ := ⟨_, rfl⟩
    have HRO := Lib.hid hro
    clear hro
    clear HOK hz23 ZZ3
    go_wp2_with fail
    refine wp_region_held_drew (S := fun w' => Below w1.heap.size w1 w') (by kernel_rfl) (Below.refl _ _).drew (fun hh => ?_)
    have HH := Lib.hid hh
    clear hh
    refine wpAnyH_take (i := 0) (v := .agg zeroLit) rfl (by kernel_rfl) (by kernel_rfl) (by kernel_rfl) (fun _ _ _ h => h) (Or.inl ⟨by rfl, fun w' hw' => ?yn0⟩) HH.out ?_
    case yn0 => (refine exec_build 49 #[] rfl ?_; simp only [List.map_toArray, List.map_nil]; exact HBL.out _)
    try simp only [List.getElem_toArray, List.getElem_cons_zero, Act.put, List.setIfInBounds_toArray, List.set_cons_zero, List.set_cons_succ]
    refine wpAnyH_take (i := 1) (v := .iface 49 (.agg zeroLit)) rfl (by kernel_rfl) (by kernel_rfl) (by kernel_rfl) (fun _ _ _ h => h) (Or.inl ⟨by rfl, fun w' hw' => ?yn1⟩) HH.out ?_
    case yn1 => (go_simp; try with_reducible rfl)
    try simp only [List.getElem_toArray, List.getElem_cons_succ, List.getElem_cons_zero, Act.put, List.setIfInBounds_toArray, List.set_cons_zero, List.set_cons_succ]
    refine wpAnyH_take (i := 2) (v := .agg (bva s)) rfl (by kernel_rfl) (by kernel_rfl) (by kernel_rfl) (fun _ _ _ h => h) (Or.inl ⟨by rfl, fun w' hw' => ?yn2⟩) HH.out ?_
    case yn2 => exact exec_load 43 (.tmp 4) rfl rfl (C1.out.below hw') Try.underlying43 rfl HK.out
    try simp only [List.getElem_toArray, List.getElem_cons_succ, List.getElem_cons_zero, Act.put, List.setIfInBounds_toArray, List.set_cons_zero, List.set_cons_succ]
    refine wpAnyH_take (i := 4) (v := .agg zeroLit) rfl (by kernel_rfl) (by kernel_rfl) (by kernel_rfl) (fun _ _ _ h => h) (Or.inl ⟨by rfl, fun w' hw' => ?yn4⟩) HH.out ?_
    case yn4 => (refine exec_build 49 #[] rfl ?_; simp only [List.map_toArray, List.map_nil]; exact HBL.out _)
    try simp only [List.getElem_toArray, List.getElem_cons_succ, List.getElem_cons_zero, Act.put, List.setIfInBounds_toArray, List.set_cons_zero, List.set_cons_succ]
    refine wpAnyH_take (i := 5) (v := .iface 49 (.agg zeroLit)) rfl (by kernel_rfl) (by kernel_rfl) (by kernel_rfl) (fun _ _ _ h => h) (Or.inl ⟨by rfl, fun w' hw' => ?yn5⟩) HH.out ?_
    case yn5 => (go_simp; try with_reducible rfl)
    try simp only [List.getElem_toArray, List.getElem_cons_succ, List.getElem_cons_zero, Act.put, List.setIfInBounds_toArray, List.set_cons_zero, List.set_cons_succ]
    refine wpAnyH_take (i := 6) (v := .agg (bva s)) rfl (by kernel_rfl) (by kernel_rfl) (by kernel_rfl) (fun _ _ _ h => h) (Or.inl ⟨by rfl, fun w' hw' => ?yn6⟩) HH.out ?_
    case yn6 => exact exec_load 43 (.tmp 4) rfl rfl (C1.out.below hw') Try.underlying43 rfl HK.out
    try simp only [List.getElem_toArray, List.getElem_cons_succ, List.getElem_cons_zero, Act.put, List.setIfInBounds_toArray, List.set_cons_zero, List.set_cons_succ]
    refine wpAnyH_take (i := 8) (v := .agg zeroLit) rfl (by kernel_rfl) (by kernel_rfl) (by kernel_rfl) (fun _ _ _ h => h) (Or.inl ⟨by rfl, fun w' hw' => ?yn8⟩) HH.out ?_
    case yn8 => (refine exec_build 49 #[] rfl ?_; simp only [List.map_toArray, List.map_nil]; exact HBL.out _)
    try simp only [List.getElem_toArray, List.getElem_cons_succ, List.getElem_cons_zero, Act.put, List.setIfInBounds_toArray, List.set_cons_zero, List.set_cons_succ]
    refine wpAnyH_take (i := 9) (v := .iface 49 (.agg zeroLit)) rfl (by kernel_rfl) (by kernel_rfl) (by kernel_rfl) (fun _ _ _ h => h) (Or.inl ⟨by rfl, fun w' hw' => ?yn9⟩) HH.out ?_
    case yn9 => (go_simp; try with_reducible rfl)
    try simp only [List.getElem_toArray, List.getElem_cons_succ, List.getElem_cons_zero, Act.put, List.setIfInBounds_toArray, List.set_cons_zero, List.set_cons_succ]
    refine wpAnyH_take (i := 10) (v := .agg (bva s2)) rfl (by kernel_rfl) (by kernel_rfl) (by kernel_rfl) (fun _ _ _ h => h) (Or.inl ⟨by rfl, fun w' hw' => ?yn10⟩) HH.out ?_
    case yn10 => exact exec_load 43 (.tmp 5) rfl rfl (D1.out.below hw') Try.underlying43 rfl HK2.out
    have hsd : w1.drew.heap.size = w1.heap.size := rfl
    have hh2 := HH.out
    clear HH
    generalize w1.drew = wd at *
    have HH := Lib.hid hh2
    have HSD := Lib.hid hsd
    clear hh2 hsd
    try simp only [List.getElem_toArray, List.getElem_cons_succ, List.getElem_cons_zero, Act.put, List.setIfInBounds_toArray, List.set_cons_zero, List.set_cons_succ]
    refine wpAnyH_ready (rs := [3]) (by kernel_rfl) (by simp) (AllReadyH.cons rfl (fun K hK => ?_) AllReadyH.nil)
    go_simp
    refine (new_any (ci := litC) s HS.out _).mono ?_
    rintro e w2 ⟨⟨g, F, rfl, ht, hF⟩, bw⟩
    rw [← HRT.out] at ht
    have T1a := Lib.hid ht
    have F1a := Lib.hid (show ∀ q, F q → w.heap.size ≤ q from fun q hq => by have h1 := hF q hq; have h2 := HSD.out; have h3 := CB.out.size; omega)
    go_simp
    refine hK.out _ _ (HH.out.trans (bw.mono HH.out.size)) (fun hh => ?_)
    have HH' := Lib.hid hh
    clear hh hK K HH ht hF bw
    have HH := Lib.hid HH'.out
    clear HH'
    try simp only [List.getElem_toArray, List.getElem_cons_succ, List.getElem_cons_zero, Act.put, List.setIfInBounds_toArray, List.set_cons_zero, List.set_cons_succ]
    refine wpAnyH_ready (rs := [7]) (by kernel_rfl) (by simp) (AllReadyH.cons rfl (fun K hK => ?_) AllReadyH.nil)
    go_simp
    refine (new_any (ci := litC) s HS.out _).mono ?_
    rintro e w3 ⟨⟨g2, G, rfl, ht, hG⟩, bw⟩
    rw [← HRT.out] at ht
    have T1b := Lib.hid (T1a.out.below bw)
    have T2b := Lib.hid ht
    have hs2 : w.heap.size ≤ w2.heap.size := Nat.le_trans CB.out.size HH.out.size
    have F2b := Lib.hid (show ∀ q, G q → w.heap.size ≤ q from fun q hq => Nat.le_trans hs2 (hG q hq))
    have DFG := Lib.hid (show ∀ q, F q → G q → False from fun q hq hq' => by have h1 := T1a.out.lt q hq; have h2 := hG q hq'; omega)
    go_simp
    refine hK.out _ _ (HH.out.trans (bw.mono HH.out.size)) (fun hh => ?_)
    have HH' := Lib.hid hh
    clear hh hK K HH ht hG bw hs2 T1a
    have HH := Lib.hid HH'.out
    clear HH'
    try simp only [List.getElem_toArray, List.getElem_cons_succ, List.getElem_cons_zero, Act.put, List.setIfInBounds_toArray, List.set_cons_zero, List.set_cons_succ]
    refine wpAnyH_ready (rs := [11]) (by kernel_rfl) (by simp) (AllReadyH.cons rfl (fun K hK => ?_) AllReadyH.nil)
    go_simp
    refine (new_any (ci := litC) s2 HS2.out _).mono ?_
    rintro e w4 ⟨⟨g3, E, rfl, ht, hE⟩, bw⟩
    rw [← HRO.out] at ht
    have HTA := Lib.hid (T1b.out.below bw)
    have HTB := Lib.hid (T2b.out.below bw)
    have HTC := Lib.hid ht
    have hs3 : w.heap.size ≤ w3.heap.size := Nat.le_trans CB.out.size HH.out.size
    have F3 := Lib.hid (show ∀ q, E q → w.heap.size ≤ q from fun q hq => Nat.le_trans hs3 (hE q hq))
    have DFE := Lib.hid (show ∀ q, F q → E q → False from fun q hq hq' => by have h1 := T1b.out.lt q hq; have h2 := hE q hq'; omega)
    have DGE := Lib.hid (show ∀ q, G q → E q → False from fun q hq hq' => by have h1 := T2b.out.lt q hq; have h2 := hE q hq'; omega)
    go_simp
    refine hK.out _ _ (HH.out.trans (bw.mono HH.out.size)) (fun hh => ?_)
    have HH' := Lib.hid hh
    clear hh hK K HH ht hE bw hs3 T1b T2b
    have HH := Lib.hid HH'.out
    clear HH'
    try simp only [List.getElem_toArray, List.getElem_cons_succ, List.getElem_cons_zero, Act.put, List.setIfInBounds_toArray, List.set_cons_zero, List.set_cons_succ]
    refine wpAnyH_take (i := 12) (v := ?va12) rfl (by kernel_rfl) (by kernel_rfl) (by kernel_rfl) (fun _ _ _ h => h) (Or.inl ⟨by rfl, fun w' hw' => ?yn12⟩) HH.out ?_
    case yn12 => (go_simp; try with_reducible rfl)
    try simp only [List.getElem_toArray, List.getElem_cons_succ, List.getElem_cons_zero, Act.put, List.setIfInBounds_toArray, List.set_cons_zero, List.set_cons_succ]
    refine wpAnyH_take (i := 13) (v := ?va13) rfl (by kernel_rfl) (by kernel_rfl) (by kernel_rfl) (fun _ _ _ h => h) (Or.inl ⟨by rfl, fun w' hw' => ?yn13⟩) HH.out ?_
    case yn13 => (go_simp; try with_reducible rfl)
    try simp only [List.getElem_toArray, List.getElem_cons_succ, List.getElem_cons_zero, Act.put, List.setIfInBounds_toArray, List.set_cons_zero, List.set_cons_succ]
    refine wpAnyH_take (i := 14) (v := ?va14) rfl (by kernel_rfl) (by kernel_rfl) (by kernel_rfl) (fun _ _ _ h => h) (Or.inl ⟨by rfl, fun w' hw' => ?yn14⟩) HH.out ?_
    case yn14 => (go_simp; try with_reducible rfl)
    try simp only [List.getElem_toArray, List.getElem_cons_succ, List.getElem_cons_zero, Act.put, List.setIfInBounds_toArray, List.set_cons_zero, List.set_cons_succ]
    refine wpAnyH_done (by kernel_rfl) ?_ _
    have HB := Lib.hid (CB.out.trans (HH.out.mono CB.out.size))
    clear HH C1 D1 CB HSD
    go_wp2_with fail
    go_loopw [12, 38] (fun _ i wr => ∃ k F G E, k ≤ n ∧ i = .int .i64 (k : Nat) ∧ Tr litC wr g (punAll litC [rt] (L.take k)) F ∧ Tr litC wr g2 (punAll litC [rt] (turnL L b n k)) G ∧ Tr litC wr g3 (punAll litC [ro] (L.take k)) E ∧
        Hid ((∀ q, F q → G q → False) ∧ (∀ q, F q → E q → False) ∧ (∀ q, G q → E q → False) ∧ (∀ q, F q → w.heap.size ≤ q) ∧ (∀ q, G q → w.heap.size ≤ q) ∧ (∀ q, E q → w.heap.size ≤ q)) ∧ Below w.heap.size w wr) (fun _ i _ => n - (intOf i).toNat)
    case atStart => exact ⟨0, F, G, E, by omega, rfl, HTA.out, HTB.out, HTC.out, ⟨DFG.out, DFE.out, DGE.out, F1a.out, F2b.out, F3.out⟩, HB.out⟩
    case round =>
      clear HTA HTB HTC DFG DFE DGE F1a F2b F3 HB
      obtain ⟨k, F, G, E, hk, rfl, hta, htb, htc, HDD, hbw⟩ := hrel
      have HTA := Lib.hid hta
      have HTB := Lib.hid htb
      have HTC := Lib.hid htc
      have HB := Lib.hid hbw
      clear hta htb htc hbw
      by_cases hlt : k < n
      · have hkl : k < l.length := by rw [HL.out]; exact hlt
        have hkL : k < L.length := by rw [HLL.out]; exact hlt
        obtain ⟨ad, hA, hbl, _⟩ := rd_u64 HR.out hkl
        subst hA
        obtain ⟨m, hm⟩ : ∃ m, m = l.getD k 0 := ⟨_, rfl⟩
        have hcell : ∀ w', Below w.heap.size w w' → w'.cell? (ad.add k) = some (.int .u64 m) := fun w' hb' => by
          obtain ⟨ad', hA', _, hc⟩ := rd_u64 (HR.out.below hb') hkl
          injection hA' with hA'
          subst hA'
          rw [hm]; exact hc
        have hmb : 0 ≤ m ∧ m ≤ 18446744073709551615 := HZ.out m (by
          rw [hm, List.getD_eq_getElem?_getD, List.getElem?_eq_getElem hkl]; exact List.getElem_mem hkl)
        obtain ⟨p, hp⟩ : ∃ p, p = L.getD k 0 := ⟨_, rfl⟩
        have hpm : m % 131072 = p := by
          rw [hp, hm, List.getD_eq_getElem?_getD, List.getD_eq_getElem?_getD, HLV.out, List.getElem?_map, List.getElem?_eq_getElem hkl]; rfl
        have hpt : m.tmod 131072 = p := by rw [Int.tmod_eq_emod_of_nonneg hmb.1, hpm]
        have HCL := Lib.hid hcell
        have HMB := Lib.hid hmb
        have HPV := Lib.hid hp
        have HPM := Lib.hid hpm
        have m0 : 0 ≤ m := hmb.1
        have k0 : (0 : Int) ≤ (k : Int) := by omega
        have k1 : (k : Int) < (n : Int) := by omega
        clear hcell hmb hm hp hbl
        have cc := HCL.out _ HB.out
        obtain ⟨j, hj⟩ : ∃ j, j = (k + b) % n := ⟨_, rfl⟩
        have hjn : j < n := by rw [hj]; exact Nat.mod_lt _ (by omega)
        have hjl : j < l.length := by rw [HL.out]; exact hjn
        obtain ⟨mj, hmj⟩ : ∃ mj, mj = l.getD j 0 := ⟨_, rfl⟩
        have hcj : ∀ w', Below w.heap.size w w' → w'.cell? (ad.add j) = some (.int .u64 mj) := fun w' hb' => by
          obtain ⟨ad', hA', _, hc⟩ := rd_u64 (HR.out.below hb') hjl
          injection hA' with hA'
          subst hA'
          rw [hmj]; exact hc
        have hmjb : 0 ≤ mj ∧ mj ≤ 18446744073709551615 := HZ.out mj (by
          rw [hmj, List.getD_eq_getElem?_getD, List.getElem?_eq_getElem hjl]; exact List.getElem_mem hjl)
        obtain ⟨pj, hpj⟩ : ∃ pj, pj = L.getD j 0 := ⟨_, rfl⟩
        have hqm : mj % 131072 = pj := by
          rw [hpj, hmj, List.getD_eq_getElem?_getD, List.getD_eq_getElem?_getD, HLV.out, List.getElem?_map, List.getElem?_eq_getElem hjl]; rfl
        have hqt : mj.tmod 131072 = pj := by rw [Int.tmod_eq_emod_of_nonneg hmjb.1, hqm]
        have mj0 : 0 ≤ mj := hmjb.1
        have HCJ := Lib.hid hcj
        have HJ := Lib.hid hj
        have HPJ := Lib.hid hpj
        have e1 : IntKind.i64.wrap ((k : Int) + (b : Int)) = (k : Int) + (b : Int) := IntWalk.i64_in _ (by omega)
        have e0 : IntKind.i64.wrap (b : Int) = (b : Int) := IntWalk.i64_in _ (by omega)
        have e2 : ((k : Int) + (b : Int)) % (n : Int) = (j : Int) := by rw [hj, Int.natCast_emod, Int.natCast_add]
        have e3 : ((k : Int) + (b : Int)).tmod (n : Int) = (j : Int) := by rw [Int.tmod_eq_emod_of_nonneg (by omega), e2]
        have j0 : (0 : Int) ≤ (j : Int) := by omega
        have j1 : (j : Int) < (n : Int) := by omega
        have z1 : (0 : Int) < (n : Int) := by omega
        have nz : ((n : Int) == 0) = false := by simp; omega
        clear hcj hj hmj hpj hmjb
        go_wp2_with fail
        refine (tpuncture_any g _ F p _ HTA.out).mono ?_
        rintro e w5 ⟨rfl, hp⟩
        obtain ⟨F5, ht5, htb5, htc5, hfg, hfe, hF5, hb5⟩ := pun_three hp HTB.out HTC.out HDD.out.1 HDD.out.2.1 HDD.out.2.2.2.1 HB.out.size
        rw [HPV.out, ← punAll_snoc _ _ hkL] at ht5
        have TA5 := Lib.hid ht5
        have TB5 := Lib.hid htb5
        have TC5 := Lib.hid htc5
        have DD5 := Lib.hid (show (∀ q, F5 q → G q → False) ∧ (∀ q, F5 q → E q → False) ∧ (∀ q, F5 q → w.heap.size ≤ q) from ⟨hfg, hfe, hF5⟩)
        have HB5 := Lib.hid (HB.out.trans hb5)
        have cj := HCJ.out _ HB5.out
        clear hp ht5 htb5 htc5 hfg hfe hF5 hb5 cc HTA HTB HTC HB
        go_wp2_with fail
        refine (tpuncture_any g2 _ G pj _ TB5.out).mono ?_
        rintro e w6 ⟨rfl, hp⟩
        obtain ⟨G6, ht6, hta6, htc6, hgf, hge, hG6, hb6⟩ := pun_three hp TA5.out TC5.out (fun q hq hq' => DD5.out.1 q hq' hq) HDD.out.2.2.1 HDD.out.2.2.2.2.1 HB5.out.size
        have hcan : punL litC (punAll litC [rt] (turnL L b n k)) pj = punAll litC [rt] (turnL L b n (k + 1)) := by
          rw [turnL, ← HJ.out, ← HPJ.out, punAll_append]; rfl
        rw [hcan] at ht6
        have TA6 := Lib.hid hta6
        have TB6 := Lib.hid ht6
        have TC6 := Lib.hid htc6
        have DD6 := Lib.hid (show (∀ q, G6 q → F5 q → False) ∧ (∀ q, G6 q → E q → False) ∧ (∀ q, G6 q → w.heap.size ≤ q) from ⟨hgf, hge, hG6⟩)
        have HB6 := Lib.hid (HB5.out.trans hb6)
        have cc := HCL.out _ HB6.out
        clear hp ht6 hta6 htc6 hgf hge hG6 hb6 hcan cj TA5 TB5 TC5 HB5
        go_wp2_with fail
        refine (tpuncture_any g3 _ E p _ TC6.out).mono ?_
        rintro e w7 ⟨rfl, hp⟩
        obtain ⟨E7, ht7, hta7, htb7, hef, heg, hE7, hb7⟩ := pun_three hp TA6.out TB6.out (fun q hq hq' => DD5.out.2.1 q hq' hq) (fun q hq hq' => DD6.out.2.1 q hq' hq) HDD.out.2.2.2.2.2 HB6.out.size
        rw [HPV.out, ← punAll_snoc _ _ hkL] at ht7
        have TA7 := Lib.hid hta7
        have TB7 := Lib.hid htb7
        have TC7 := Lib.hid ht7
        have DD7 := Lib.hid (show (∀ q, F5 q → G6 q → False) ∧ (∀ q, F5 q → E7 q → False) ∧ (∀ q, G6 q → E7 q → False) ∧ (∀ q, F5 q → w.heap.size ≤ q) ∧ (∀ q, G6 q → w.heap.size ≤ q) ∧ (∀ q, E7 q → w.heap.size ≤ q) from
          ⟨fun q hq hq' => DD6.out.1 q hq' hq, fun q hq hq' => hef q hq' hq, fun q hq hq' => heg q hq' hq, DD5.out.2.2, DD6.out.2.2, hE7⟩)
        have HB7 := Lib.hid (HB6.out.trans hb7)
        have ek : IntKind.i64.wrap ((k : Int) + 1) = ((k + 1 : Nat) : Int) := by rw [IntWalk.i64_in _ (by omega)]; omega
        clear hp ht7 hta7 htb7 hef heg hE7 hb7 cc TA6 TB6 TC6 HB6 hpm hpt hqm hqt
        go_wp2_with fail
        go_roundw
        case rel => exact ⟨k + 1, F5, G6, E7, by omega, by go_num, TA7.out, TB7.out, TC7.out, DD7, HB7.out⟩
        case measure => simp [intOf]; omega
      · obtain rfl : n = k := by omega
        have htk : L.take n = L := List.take_of_length_le (by rw [HLL.out]; exact Nat.le_refl _)
        obtain ⟨X, hX⟩ : ∃ X, X = canL litC 17 rt L := ⟨_, rfl⟩
        obtain ⟨Z, hZ⟩ : ∃ Z, Z = canL litC 17 ro L := ⟨_, rfl⟩
        have hca : punAll litC [rt] (L.take n) = X := by rw [htk, hX, HRT.out]; exact punAll_root HS.out L
        have hcc : punAll litC [ro] (L.take n) = Z := by rw [htk, hZ, HRO.out]; exact punAll_root HS2.out L
        have hcb : punAll litC [rt] (turnL L b n n) = X := by
          rw [hX, HRT.out, punAll_root HS.out]
          rcases Nat.eq_zero_or_pos n with h0 | h0
          · have : L = [] := List.eq_nil_of_length_eq_zero (by rw [HLL.out]; exact h0)
            rw [this, h0]; rfl
          · exact (can_congr (ci := litC) 17 _ (turnL_all h0 HLL.out)).symm
        have hta := HTA.out
        have htb := HTB.out
        have htc := HTC.out
        rw [hca] at hta
        rw [hcb] at htb
        rw [hcc] at htc
        have few : ∀ (r : Nd) (Y : List Nd), okH r → r.d = 0 → Y = canL litC 17 r L → Y.length ≤ 65535 := fun r Y h1 h2 h3 => by
          have h4 := length_can (ci := litC) 17 r L h1 (by rw [h2]; rfl)
          have h5 : nIn r L ≤ n := by rw [← HLL.out]; exact List.length_filter_le _ _
          rw [← h3] at h4; omega
        have HXN := Lib.hid (few rt X (by rw [HRT.out]; exact (okS_root HS.out).1) (by rw [HRT.out]) hX)
        have HZN := Lib.hid (few ro Z (by rw [HRO.out]; exact (okS_root HS2.out).1) (by rw [HRO.out]) hZ)
        have HXO := Lib.hid hta.ok
        have HZO := Lib.hid htc.ok
        have TA := Lib.hid hta
        have TB := Lib.hid htb
        have TC := Lib.hid htc
        clear hta htb htc hca hcb hcc htk hX hZ few HTA HTB HTC HDD
        go_wp2_with fail
        refine (theld_tr TA.out).mono ?_
        rintro e v1 ⟨A1, nA1, cA1, rfl, ho, bw⟩
        have HNA1 := Lib.hid (show X.length = nA1 by have h1 := ho.1; rw [nvs_length (okS_len HXO.out)] at h1; omega)
        have O1 := Lib.hid ho
        have TAx101 := Lib.hid (TA.out.below bw)
        have TBx101 := Lib.hid (TB.out.below bw)
        have TCx101 := Lib.hid (TC.out.below bw)
        have HBx101 := Lib.hid (HB.out.trans (bw.mono HB.out.size))
        clear bw ho TA TB TC HB
        go_wp2_with fail
        refine (kenc_any A1 nA1 cA1 X _ HNA1.out (okS_len HXO.out) (fun y hy => (okS_mem HXO.out y hy).1.2.2.1) (Nat.le_refl _) (Rd.ownN O1.out) (by have h1 := HXN.out; have h2 := HNA1.out; omega)).mono ?_
        rintro e v2 ⟨bw, ⟨_, Y1, mY1, cY1, rfl, ho⟩ | ⟨hno, _⟩ | ⟨⟨_, hno⟩, _⟩⟩
        rotate_left
        · exact absurd HXO.out hno
        · exact absurd hno (by have h1 := HXN.out; omega)
        have E1 := Lib.hid ho
        have TAx102 := Lib.hid (TAx101.out.below bw)
        have TBx102 := Lib.hid (TBx101.out.below bw)
        have TCx102 := Lib.hid (TCx101.out.below bw)
        have HBx102 := Lib.hid (HBx101.out.trans (bw.mono HBx101.out.size))
        clear bw ho O1 TAx101 TBx101 TCx101 HBx101
        go_wp2_with fail
        refine (theld_tr TBx102.out).mono ?_
        rintro e v3 ⟨A2, nA2, cA2, rfl, ho, bw⟩
        have HNA2 := Lib.hid (show X.length = nA2 by have h1 := ho.1; rw [nvs_length (okS_len HXO.out)] at h1; omega)
        have O2 := Lib.hid ho
        have TAx103 := Lib.hid (TAx102.out.below bw)
        have TBx103 := Lib.hid (TBx102.out.below bw)
        have TCx103 := Lib.hid (TCx102.out.below bw)
        have HBx103 := Lib.hid (HBx102.out.trans (bw.mono HBx102.out.size))
        have E1x103 := Lib.hid (own_below E1.out bw)
        clear bw ho TAx102 TBx102 TCx102 HBx102 E1
        go_wp2_with fail
        refine (kenc_any A2 nA2 cA2 X _ HNA2.out (okS_len HXO.out) (fun y hy => (okS_mem HXO.out y hy).1.2.2.1) (Nat.le_refl _) (Rd.ownN O2.out) (by have h1 := HXN.out; have h2 := HNA2.out; omega)).mono ?_
        rintro e v4 ⟨bw, ⟨_, Y2, mY2, cY2, rfl, ho⟩ | ⟨hno, _⟩ | ⟨⟨_, hno⟩, _⟩⟩
        rotate_left
        · exact absurd HXO.out hno
        · exact absurd hno (by have h1 := HXN.out; omega)
        have E2 := Lib.hid ho
        have TAx104 := Lib.hid (TAx103.out.below bw)
        have TBx104 := Lib.hid (TBx103.out.below bw)
        have TCx104 := Lib.hid (TCx103.out.below bw)
        have HBx104 := Lib.hid (HBx103.out.trans (bw.mono HBx103.out.size))
        have E1x104 := Lib.hid (own_below E1x103.out bw)
        clear bw ho O2 TAx103 TBx103 TCx103 HBx103 E1x103
        go_wp2_with fail
        refine (theld_tr TCx104.out).mono ?_
        rintro e v5 ⟨A3, nA3, cA3, rfl, ho, bw⟩
        have HNA3 := Lib.hid (show Z.length = nA3 by have h1 := ho.1; rw [nvs_length (okS_len HZO.out)] at h1; omega)
        have O3 := Lib.hid ho
        have TAx105 := Lib.hid (TAx104.out.below bw)
        have TBx105 := Lib.hid (TBx104.out.below bw)
        have TCx105 := Lib.hid (TCx104.out.below bw)
        have HBx105 := Lib.hid (HBx104.out.trans (bw.mono HBx104.out.size))
        have E1x105 := Lib.hid (own_below E1x104.out bw)
        have E2x105 := Lib.hid (own_below E2.out bw)
        clear bw ho TAx104 TBx104 TCx104 HBx104 E1x104 E2
        go_wp2_with fail
        refine (kenc_any A3 nA3 cA3 Z _ HNA3.out (okS_len HZO.out) (fun y hy => (okS_mem HZO.out y hy).1.2.2.1) (Nat.le_refl _) (Rd.ownN O3.out) (by have h1 := HZN.out; have h2 := HNA3.out; omega)).mono ?_
        rintro e v6 ⟨bw, ⟨_, Y3, mY3, cY3, rfl, ho⟩ | ⟨hno, _⟩ | ⟨⟨_, hno⟩, _⟩⟩
        rotate_left
        · exact absurd HZO.out hno
        · exact absurd hno (by have h1 := HZN.out; omega)
        have E3 := Lib.hid ho
        have TAx106 := Lib.hid (TAx105.out.below bw)
        have TBx106 := Lib.hid (TBx105.out.below bw)
        have TCx106 := Lib.hid (TCx105.out.below bw)
        have HBx106 := Lib.hid (HBx105.out.trans (bw.mono HBx105.out.size))
        have E1x106 := Lib.hid (own_below E1x105.out bw)
        have E2x106 := Lib.hid (own_below E2x105.out bw)
        clear bw ho O3 TAx105 TBx105 TCx105 HBx105 E1x105 E2x105
        obtain ⟨SA, hSA⟩ : ∃ S : ByteArray, S = ⟨(encB X).toArray⟩ := ⟨_, rfl⟩
        obtain ⟨SC, hSC⟩ : ∃ S : ByteArray, S = ⟨(encB Z).toArray⟩ := ⟨_, rfl⟩
        have KA := Lib.hid (show ∀ w', Below v6.heap.size v6 w' → (convert 24 9 (.slice Y1 mY1 cY1)).run Try.prog w' = .ok (.string SA) w' from fun w' hw' => by rw [hSA]; exact conv_rd Try.underlying24 Try.underlying5 Try.underlying9 ((Rd.own E1x106.out).below hw') (own_blen E1x106.out))
        have KB := Lib.hid (show ∀ w', Below v6.heap.size v6 w' → (convert 24 9 (.slice Y2 mY2 cY2)).run Try.prog w' = .ok (.string SA) w' from fun w' hw' => by rw [hSA]; exact conv_rd Try.underlying24 Try.underlying5 Try.underlying9 ((Rd.own E2x106.out).below hw') (own_blen E2x106.out))
        have KC := Lib.hid (show ∀ w', Below v6.heap.size v6 w' → (convert 24 9 (.slice Y3 mY3 cY3)).run Try.prog w' = .ok (.string SC) w' from fun w' hw' => by rw [hSC]; exact conv_rd Try.underlying24 Try.underlying5 Try.underlying9 ((Rd.own E3.out).below hw') (own_blen E3.out))
        obtain ⟨bb, hbb⟩ : ∃ bb, bb = decide (X = Z) := ⟨_, rfl⟩
        have hiff : encB X = encB Z ↔ X = Z := ⟨fun h => encB_inj (okS_fits HXO.out) (okS_fits HZO.out) h, fun h => by rw [h]⟩
        have hs1 : (SA.toList == SC.toList) = bb := by rw [str_same hSA hSC, hbb]; exact decide_eq_decide.2 hiff
        have hbeq : (bb == bb) = true := beq_self_eq_true bb
        have HBB := Lib.hid hbb
        clear hSA hSC hiff hbb E1x106 E2x106 E3
        go_wp2_with fail
        refine wp_region_held_drew (S := fun w' => Below v6.heap.size v6 w') (by kernel_rfl) (Below.refl _ _).drew (fun hh => ?_)
        have HH := Lib.hid hh
        clear hh
        refine wpAnyH_take (i := 0) (v := ?vr0) rfl (by kernel_rfl) (by kernel_rfl) (by kernel_rfl) (fun _ _ _ h => h) (Or.inl ⟨by rfl, fun w' _ => ?yr0⟩) HH.out ?_
        case yr0 => (go_simp; try with_reducible rfl)
        refine wpAnyH_take (i := 1) (v := ?vr1) rfl (by kernel_rfl) (by kernel_rfl) (by kernel_rfl) (fun _ _ _ h => h) (Or.inl ⟨by rfl, fun w' _ => ?yr1⟩) HH.out ?_
        case yr1 => (go_simp; try with_reducible rfl)
        try simp only [List.getElem_toArray, List.getElem_cons_succ, List.getElem_cons_zero, Act.put, List.setIfInBounds_toArray, List.set_cons_zero, List.set_cons_succ]
        refine wpAnyH_take (i := 2) (v := ?vr2) rfl (by kernel_rfl) (by kernel_rfl) (by kernel_rfl) (fun _ _ _ h => h) (Or.inl ⟨by rfl, fun w' _ => ?yr2⟩) HH.out ?_
        case yr2 => (go_simp; try with_reducible rfl)
        try simp only [List.getElem_toArray, List.getElem_cons_succ, List.getElem_cons_zero, Act.put, List.setIfInBounds_toArray, List.set_cons_zero, List.set_cons_succ]
        refine wpAnyH_take (i := 3) (v := ?vr3) rfl (by kernel_rfl) (by kernel_rfl) (by kernel_rfl) (fun _ _ _ h => h) (Or.inl ⟨by rfl, fun w' _ => ?yr3⟩) HH.out ?_
        case yr3 => (go_simp; try with_reducible rfl)
        try simp only [List.getElem_toArray, List.getElem_cons_succ, List.getElem_cons_zero, Act.put, List.setIfInBounds_toArray, List.set_cons_zero, List.set_cons_succ]
        refine wpAnyH_take (i := 4) (v := ?vr4) rfl (by kernel_rfl) (by kernel_rfl) (by kernel_rfl) (fun _ _ _ h => h) (Or.inl ⟨by rfl, fun w' _ => ?yr4⟩) HH.out ?_
        case yr4 => (go_simp; try with_reducible rfl)
        try simp only [List.getElem_toArray, List.getElem_cons_succ, List.getElem_cons_zero, Act.put, List.setIfInBounds_toArray, List.set_cons_zero, List.set_cons_succ]
        refine wpAnyH_take (i := 5) (v := ?vr5) rfl (by kernel_rfl) (by kernel_rfl) (by kernel_rfl) (fun _ _ _ h => h) (Or.inl ⟨by rfl, fun w' _ => ?yr5⟩) HH.out ?_
        case yr5 => (go_simp; try with_reducible rfl)
        try simp only [List.getElem_toArray, List.getElem_cons_succ, List.getElem_cons_zero, Act.put, List.setIfInBounds_toArray, List.set_cons_zero, List.set_cons_succ]
        refine wpAnyH_take (i := 6) (v := ?vr6) rfl (by kernel_rfl) (by kernel_rfl) (by kernel_rfl) (fun _ _ _ h => h) (Or.inl ⟨by rfl, fun w' _ => ?yr6⟩) HH.out ?_
        case yr6 => (go_simp; try with_reducible rfl)
        try simp only [List.getElem_toArray, List.getElem_cons_succ, List.getElem_cons_zero, Act.put, List.setIfInBounds_toArray, List.set_cons_zero, List.set_cons_succ]
        refine wpAnyH_take (i := 7) (v := ?vr7) rfl (by kernel_rfl) (by kernel_rfl) (by kernel_rfl) (fun _ _ _ h => h) (Or.inl ⟨by rfl, fun w' _ => ?yr7⟩) HH.out ?_
        case yr7 => (go_simp; try with_reducible rfl)
        try simp only [List.getElem_toArray, List.getElem_cons_succ, List.getElem_cons_zero, Act.put, List.setIfInBounds_toArray, List.set_cons_zero, List.set_cons_succ]
        refine wpAnyH_take (i := 8) (v := ?vr8) rfl (by kernel_rfl) (by kernel_rfl) (by kernel_rfl) (fun _ _ _ h => h) (Or.inl ⟨by rfl, fun w' _ => ?yr8⟩) HH.out ?_
        case yr8 => (go_simp; try with_reducible rfl)
        try simp only [List.getElem_toArray, List.getElem_cons_succ, List.getElem_cons_zero, Act.put, List.setIfInBounds_toArray, List.set_cons_zero, List.set_cons_succ]
        refine wpAnyH_take (i := 9) (v := ?vr9) rfl (by kernel_rfl) (by kernel_rfl) (by kernel_rfl) (fun _ _ _ h => h) (Or.inl ⟨by rfl, fun w' _ => ?yr9⟩) HH.out ?_
        case yr9 => (go_simp; try with_reducible rfl)
        try simp only [List.getElem_toArray, List.getElem_cons_succ, List.getElem_cons_zero, Act.put, List.setIfInBounds_toArray, List.set_cons_zero, List.set_cons_succ]
        refine wpAnyH_take (i := 10) (v := ?vr10) rfl (by kernel_rfl) (by kernel_rfl) (by kernel_rfl) (fun _ _ _ h => h) (Or.inl ⟨by rfl, fun w' _ => ?yr10⟩) HH.out ?_
        case yr10 => (go_simp; try with_reducible rfl)
        try simp only [List.getElem_toArray, List.getElem_cons_succ, List.getElem_cons_zero, Act.put, List.setIfInBounds_toArray, List.set_cons_zero, List.set_cons_succ]
        refine wpAnyH_take (i := 11) (v := ?vr11) rfl (by kernel_rfl) (by kernel_rfl) (by kernel_rfl) (fun _ _ _ h => h) (Or.inl ⟨by rfl, fun w' _ => ?yr11⟩) HH.out ?_
        case yr11 => (go_simp; try with_reducible rfl)
        try simp only [List.getElem_toArray, List.getElem_cons_succ, List.getElem_cons_zero, Act.put, List.setIfInBounds_toArray, List.set_cons_zero, List.set_cons_succ]
        refine wpAnyH_take (i := 12) (v := ?vz12) rfl (by kernel_rfl) (by kernel_rfl) (by kernel_rfl) (fun _ _ _ h => h) (Or.inl ⟨by rfl, fun w' hw' => ?yz12⟩) HH.out ?_
        case yz12 => (have kc := KA.out _ hw'; go_simp; try with_reducible rfl)
        try simp only [List.getElem_toArray, List.getElem_cons_succ, List.getElem_cons_zero, Act.put, List.setIfInBounds_toArray, List.set_cons_zero, List.set_cons_succ]
        refine wpAnyH_take (i := 13) (v := ?vr13) rfl (by kernel_rfl) (by kernel_rfl) (by kernel_rfl) (fun _ _ _ h => h) (Or.inl ⟨by rfl, fun w' _ => ?yr13⟩) HH.out ?_
        case yr13 => (go_simp; try with_reducible rfl)
        try simp only [List.getElem_toArray, List.getElem_cons_succ, List.getElem_cons_zero, Act.put, List.setIfInBounds_toArray, List.set_cons_zero, List.set_cons_succ]
        try simp only [List.getElem_toArray, List.getElem_cons_succ, List.getElem_cons_zero, Act.put, List.setIfInBounds_toArray, List.set_cons_zero, List.set_cons_succ]
        refine wpAnyH_take (i := 14) (v := ?vz14) rfl (by kernel_rfl) (by kernel_rfl) (by kernel_rfl) (fun _ _ _ h => h) (Or.inl ⟨by rfl, fun w' hw' => ?yz14⟩) HH.out ?_
        case yz14 => (have kc := KB.out _ hw'; go_simp; try with_reducible rfl)
        try simp only [List.getElem_toArray, List.getElem_cons_succ, List.getElem_cons_zero, Act.put, List.setIfInBounds_toArray, List.set_cons_zero, List.set_cons_succ]
        refine wpAnyH_take (i := 15) (v := ?vr15) rfl (by kernel_rfl) (by kernel_rfl) (by kernel_rfl) (fun _ _ _ h => h) (Or.inl ⟨by rfl, fun w' _ => ?yr15⟩) HH.out ?_
        case yr15 => (go_simp; try with_reducible rfl)
        try simp only [List.getElem_toArray, List.getElem_cons_succ, List.getElem_cons_zero, Act.put, List.setIfInBounds_toArray, List.set_cons_zero, List.set_cons_succ]
        refine wpAnyH_take (i := 16) (v := ?vr16) rfl (by kernel_rfl) (by kernel_rfl) (by kernel_rfl) (fun _ _ _ h => h) (Or.inl ⟨by rfl, fun w' _ => ?yr16⟩) HH.out ?_
        case yr16 => (go_simp; try with_reducible rfl)
        try simp only [List.getElem_toArray, List.getElem_cons_succ, List.getElem_cons_zero, Act.put, List.setIfInBounds_toArray, List.set_cons_zero, List.set_cons_succ]
        refine wpAnyH_take (i := 17) (v := ?vr17) rfl (by kernel_rfl) (by kernel_rfl) (by kernel_rfl) (fun _ _ _ h => h) (Or.inl ⟨by rfl, fun w' _ => ?yr17⟩) HH.out ?_
        case yr17 => (go_simp; try with_reducible rfl)
        try simp only [List.getElem_toArray, List.getElem_cons_succ, List.getElem_cons_zero, Act.put, List.setIfInBounds_toArray, List.set_cons_zero, List.set_cons_succ]
        refine wpAnyH_take (i := 18) (v := ?vr18) rfl (by kernel_rfl) (by kernel_rfl) (by kernel_rfl) (fun _ _ _ h => h) (Or.inl ⟨by rfl, fun w' _ => ?yr18⟩) HH.out ?_
        case yr18 => (go_simp; try with_reducible rfl)
        try simp only [List.getElem_toArray, List.getElem_cons_succ, List.getElem_cons_zero, Act.put, List.setIfInBounds_toArray, List.set_cons_zero, List.set_cons_succ]
        refine wpAnyH_take (i := 19) (v := ?vz19) rfl (by kernel_rfl) (by kernel_rfl) (by kernel_rfl) (fun _ _ _ h => h) (Or.inl ⟨by rfl, fun w' hw' => ?yz19⟩) HH.out ?_
        case yz19 => (have kc := KA.out _ hw'; go_simp; try with_reducible rfl)
        try simp only [List.getElem_toArray, List.getElem_cons_succ, List.getElem_cons_zero, Act.put, List.setIfInBounds_toArray, List.set_cons_zero, List.set_cons_succ]
        refine wpAnyH_take (i := 20) (v := ?vr20) rfl (by kernel_rfl) (by kernel_rfl) (by kernel_rfl) (fun _ _ _ h => h) (Or.inl ⟨by rfl, fun w' _ => ?yr20⟩) HH.out ?_
        case yr20 => (go_simp; try with_reducible rfl)
        try simp only [List.getElem_toArray, List.getElem_cons_succ, List.getElem_cons_zero, Act.put, List.setIfInBounds_toArray, List.set_cons_zero, List.set_cons_succ]
        refine wpAnyH_take (i := 21) (v := ?vz21) rfl (by kernel_rfl) (by kernel_rfl) (by kernel_rfl) (fun _ _ _ h => h) (Or.inl ⟨by rfl, fun w' hw' => ?yz21⟩) HH.out ?_
        case yz21 => (have kc := KC.out _ hw'; go_simp; try with_reducible rfl)
        try simp only [List.getElem_toArray, List.getElem_cons_succ, List.getElem_cons_zero, Act.put, List.setIfInBounds_toArray, List.set_cons_zero, List.set_cons_succ]
        refine wpAnyH_take (i := 22) (v := ?vr22) rfl (by kernel_rfl) (by kernel_rfl) (by kernel_rfl) (fun _ _ _ h => h) (Or.inl ⟨by rfl, fun w' _ => ?yr22⟩) HH.out ?_
        case yr22 => (go_simp; try with_reducible rfl)
        try simp only [List.getElem_toArray, List.getElem_cons_succ, List.getElem_cons_zero, Act.put, List.setIfInBounds_toArray, List.set_cons_zero, List.set_cons_succ]
        refine wpAnyH_take (i := 23) (v := ?vr23) rfl (by kernel_rfl) (by kernel_rfl) (by kernel_rfl) (fun _ _ _ h => h) (Or.inl ⟨by rfl, fun w' _ => ?yr23⟩) HH.out ?_
        case yr23 => (go_simp; try with_reducible rfl)
        try simp only [List.getElem_toArray, List.getElem_cons_succ, List.getElem_cons_zero, Act.put, List.setIfInBounds_toArray, List.set_cons_zero, List.set_cons_succ]
        refine wpAnyH_take (i := 25) (v := ?vr25) rfl (by kernel_rfl) (by kernel_rfl) (by kernel_rfl) (fun _ _ _ h => h) (Or.inl ⟨by rfl, fun w' _ => ?yr25⟩) HH.out ?_
        case yr25 => (go_simp; try with_reducible rfl)
        try simp only [List.getElem_toArray, List.getElem_cons_succ, List.getElem_cons_zero, Act.put, List.setIfInBounds_toArray, List.set_cons_zero, List.set_cons_succ]
        refine wpAnyH_ready (rs := [24]) (by kernel_rfl) (by simp) (AllReadyH.cons rfl (fun K hK => ?_) AllReadyH.nil)
        go_simp
        refine (theld_tr (TAx106.out.below HH.out)).mono ?_
        rintro e v7 ⟨A4, n4, c4, rfl, ho, bw⟩
        have HN4 := Lib.hid (show X.length = n4 by have h1 := ho.1; rw [nvs_length (okS_len HXO.out)] at h1; omega)
        have O4 := Lib.hid ho
        go_simp
        refine hK.out _ _ (HH.out.trans (bw.mono HH.out.size)) (fun hh => ?_)
        have HH' := Lib.hid hh
        clear hh hK K HH bw ho
        have HH := Lib.hid HH'.out
        clear HH'
        try simp only [List.getElem_toArray, List.getElem_cons_succ, List.getElem_cons_zero, Act.put, List.setIfInBounds_toArray, List.set_cons_zero, List.set_cons_succ]
        refine wpAnyH_ready (rs := [26]) (by kernel_rfl) (by simp) (AllReadyH.cons rfl (fun K hK => ?_) AllReadyH.nil)
        go_simp
        refine (theld_tr (TCx106.out.below HH.out)).mono ?_
        rintro e v8 ⟨A5, n5, c5, rfl, ho, bw⟩
        have HN5 := Lib.hid (show Z.length = n5 by have h1 := ho.1; rw [nvs_length (okS_len HZO.out)] at h1; omega)
        have O5 := Lib.hid ho
        have P4 := Lib.hid (own_belowN O4.out bw)
        go_simp
        refine hK.out _ _ (HH.out.trans (bw.mono HH.out.size)) (fun hh => ?_)
        have HH' := Lib.hid hh
        clear hh hK K HH bw ho O4
        have HH := Lib.hid HH'.out
        clear HH'
        try simp only [List.getElem_toArray, List.getElem_cons_succ, List.getElem_cons_zero, Act.put, List.setIfInBounds_toArray, List.set_cons_zero, List.set_cons_succ]
        refine wpAnyH_ready (rs := [27]) (by kernel_rfl) (by simp) (AllReadyH.cons rfl (fun K hK => ?_) AllReadyH.nil)
        go_simp
        refine (same_any A4 A5 n4 n5 c4 c5 X Z _ HN4.out HN5.out (okS_len HXO.out) (okS_len HZO.out) (Rd.ownN P4.out) (Rd.ownN O5.out) (by have h1 := HN4.out; have h2 := HXN.out; unfold maxLen; omega) (by have h1 := HN5.out; have h2 := HZN.out; unfold maxLen; omega)).mono ?_
        rintro e v9 ⟨rfl, q, rfl⟩
        rw [← HBB.out]
        have bw : Below v8.heap.size v8 (v8.drewN q) := below_drewN' (Below.refl _ _) q
        go_simp
        refine hK.out _ _ (HH.out.trans (bw.mono HH.out.size)) (fun hh => ?_)
        have HH' := Lib.hid hh
        clear hh hK K HH bw
        have HH := Lib.hid HH'.out
        clear HH'
        try simp only [List.getElem_toArray, List.getElem_cons_succ, List.getElem_cons_zero, Act.put, List.setIfInBounds_toArray, List.set_cons_zero, List.set_cons_succ]
        refine wpAnyH_take (i := 28) (v := ?vr28) rfl (by kernel_rfl) (by kernel_rfl) (by kernel_rfl) (fun _ _ _ h => h) (Or.inl ⟨by rfl, fun w' _ => ?yr28⟩) HH.out ?_
        case yr28 => (go_simp; try with_reducible rfl)
        try simp only [List.getElem_toArray, List.getElem_cons_succ, List.getElem_cons_zero, Act.put, List.setIfInBounds_toArray, List.set_cons_zero, List.set_cons_succ]
        refine wpAnyH_take (i := 29) (v := ?vr29) rfl (by kernel_rfl) (by kernel_rfl) (by kernel_rfl) (fun _ _ _ h => h) (Or.inl ⟨by rfl, fun w' _ => ?yr29⟩) HH.out ?_
        case yr29 => (go_simp; try with_reducible rfl)
        try simp only [List.getElem_toArray, List.getElem_cons_succ, List.getElem_cons_zero, Act.put, List.setIfInBounds_toArray, List.set_cons_zero, List.set_cons_succ]
        refine wpAnyH_take (i := 30) (v := ?vr30) rfl (by kernel_rfl) (by kernel_rfl) (by kernel_rfl) (fun _ _ _ h => h) (Or.inl ⟨by rfl, fun w' _ => ?yr30⟩) HH.out ?_
        case yr30 => (go_simp; try with_reducible rfl)
        try simp only [List.getElem_toArray, List.getElem_cons_succ, List.getElem_cons_zero, Act.put, List.setIfInBounds_toArray, List.set_cons_zero, List.set_cons_succ]
        refine wpAnyH_done (by kernel_rfl) ?_ _
        have BF := Lib.hid (HBx106.out.trans (HH.out.mono HBx106.out.size))
        clear HH
        go_wp2_with fail
        go_ret
        exact ⟨rfl, BF.out⟩
  · have hd : decide ((n : Int) > 10) = true := decide_eq_true (by omega)
    go_enter Try.func10, Try.ntmps10
    go_wp2_with fail
    refine (kcAwake_any _).mono ?_
    rintro e w1 ⟨rfl, bw⟩
    have CB := Lib.hid (BB.out.trans (bw.mono BB.out.size))
    clear bw B1 B2 BB
    go_wp2_with fail
    go_ret
    exact ⟨rfl, CB.out⟩
theorem keycodeAlike_own : ownKnob Try.prog.godebug = none := by kernel_rfl
theorem keycodeAlike_laid : laidOutB Try.prog = true := by kernel_rfl

set_option maxRecDepth 100000 in
theorem keycodeAlike_lifted (os : Os) (started : os.Started) (H : Type) (enc : TypeId × Value → H) :
    ReturnsInHanded {} Try.checked os 10 .any (Rows.keycodeAlikeSpec.pre6 enc Try.prog Try.f10 Rows.keycodeAlikeRow.domain false) (Rows.keycodeAlikeSpec.post enc Try.prog Try.f10 false true false false) := by
  refine returnsInHanded_of_change (C := Try.checked) keycodeAlike_own started (by kernel_rfl) Try.func10
    (ChangeSpec.witness6 (enc := enc) (C := Try.checked) false ⟨#[], #[.agg #[.int .u8 0, .int .u8 0, .int .u8 0, .int .u8 0, .int .u8 0, .int .u8 0, .int .u8 0, .int .u8 0, .int .u8 0, .int .u8 0, .int .u8 0, .int .u8 0, .int .u8 0, .int .u8 0, .int .u8 0, .int .u8 0, .int .u8 0, .int .u8 0, .int .u8 0, .int .u8 0, .int .u8 0, .int .u8 0, .int .u8 0, .int .u8 0, .int .u8 0, .int .u8 0, .int .u8 0, .int .u8 0, .int .u8 0, .int .u8 0, .int .u8 0, .int .u8 0], .agg #[.int .u8 0, .int .u8 0, .int .u8 0, .int .u8 0, .int .u8 0, .int .u8 0, .int .u8 0, .int .u8 0, .int .u8 0, .int .u8 0, .int .u8 0, .int .u8 0, .int .u8 0, .int .u8 0, .int .u8 0, .int .u8 0, .int .u8 0, .int .u8 0, .int .u8 0, .int .u8 0, .int .u8 0, .int .u8 0, .int .u8 0, .int .u8 0, .int .u8 0, .int .u8 0, .int .u8 0, .int .u8 0, .int .u8 0, .int .u8 0, .int .u8 0, .int .u8 0], .slice none 0 0, .int .u8 0], []⟩ 8 (by kernel_rfl) (by kernel_rfl) (by kernel_rfl) (by kernel_rfl)) ?_
  intro W base args ds gs before hval0 hW _ _
  have hval : ∀ (j : Nat) t v, Try.f10.params[j]? = some t → args[j]? = some v → Value.okWide Try.prog W .any base t v := hval0
  have hW' := hW
  obtain ⟨p, q, hA0, hV, rfl, hfz, hnd⟩ := hW
  have hA : DataW.TrodAll enc Try.prog W 0 (fun _ => true) true Try.f10.params.toList args.toList ds p := hA0
  rw [Try.params10] at hA hval
  obtain ⟨v0, vs0, d0, ds0, p0, q0, hargs, rfl, rfl, h0, r0⟩ := trodAll_cons hA
  obtain ⟨v1, vs1, d1, ds1, p1, q1, rfl, rfl, rfl, h1, r1⟩ := trodAll_cons r0
  obtain ⟨v2, vs2, d2, ds2, p2, q2, rfl, rfl, rfl, h2, r2⟩ := trodAll_cons r1
  obtain ⟨v3, vs3, d3, ds3, p3, q3, rfl, rfl, rfl, h3, r3⟩ := trodAll_cons r2
  obtain ⟨rfl, rfl, rfl⟩ := trodAll_nil r3
  obtain rfl : args = #[v0, v1, v2, v3] := by cases args; simp_all
  obtain ⟨rfl, rfl⟩ := trodVars_none hV
  have lt0 : ∀ x ∈ p0, x.block < W.heap.size := by obtain ⟨m, hm⟩ := h0; exact DataW.trod_lt m _ _ _ hm
  obtain ⟨l0, hl0, rfl⟩ := open_u8s Try.underlying43 Try.underlying5 (by kernel_rfl) (by kernel_rfl) (hval 0 43 v0 rfl rfl) h0
  have lt1 : ∀ x ∈ p1, x.block < W.heap.size := by obtain ⟨m, hm⟩ := h1; exact DataW.trod_lt m _ _ _ hm
  obtain ⟨l1, hl1, rfl⟩ := open_u8s Try.underlying43 Try.underlying5 (by kernel_rfl) (by kernel_rfl) (hval 1 43 v1 rfl rfl) h1
  obtain ⟨a2, n2, c2, rfl⟩ := okWide_slice Try.underlying44 (hval 2 44 v2 rfl rfl)
  have lt2 : ∀ x ∈ p2, x.block < W.heap.size := by obtain ⟨m, hm⟩ := h2; exact DataW.trod_lt m _ _ _ hm
  obtain ⟨l2, hl2, hc2, hm2, hr2, hz2⟩ := open_u64s Try.underlying44 Try.underlying38 (by kernel_rfl) h2
  obtain ⟨a3, rfl, rfl, rfl, w3⟩ := open_int Try.underlying5 (hval 3 5 v3 rfl rfl) h3
  have b3 := bounds_u8 w3
  clear hA0 hval0
  refine (keycodeAlike_any W l0 hl0 l1 hl1 a2 n2 c2 l2 hl2 hc2 hm2 hr2 hz2 a3 b3).mono fun e W' ⟨he, bel⟩ => ?_
  subst he
  exact ⟨_, rfl, _, _, _, [], _, [], hW', trodAll_mk1 (shut_bool Try.underlying4 _), (trodAll_cons_mk (Below.trod keycodeAlike_laid (by kernel_rfl) (of_decide_eq_true (by kernel_rfl)) h0 bel lt0) (trodAll_cons_mk (Below.trod keycodeAlike_laid (by kernel_rfl) (of_decide_eq_true (by kernel_rfl)) h1 bel lt1) (trodAll_cons_mk (Below.trod keycodeAlike_laid (by kernel_rfl) (of_decide_eq_true (by kernel_rfl)) h2 bel lt2) (trodAll_cons_mk (shut_int Try.underlying5 w3) trodAll_mk0)))), rfl, bel.frame _, fun h => by cases h⟩

theorem keycodeAlike_holds : Rows.KeycodeAlikeSaid :=
  OpenClaim.holds_of_wide 10 Try.f10 rfl rfl rfl rfl rfl rfl rfl ⟨rfl, rfl, rfl, rfl, rfl⟩ rfl rfl rfl rfl rfl (by kernel_rfl) Try.func10 (by kernel_rfl)
    (of_decide_eq_true (by kernel_rfl)) (by unfold Func.isWrapper; rw [if_neg (of_decide_eq_false (by kernel_rfl))]; exact ⟨rfl, rfl⟩)
    (fun os started H enc _ => keycodeAlike_lifted os started H enc)

#print axioms keycodeAlike_holds

end Go.Proofs.Ytippbjpodnnhiaa
