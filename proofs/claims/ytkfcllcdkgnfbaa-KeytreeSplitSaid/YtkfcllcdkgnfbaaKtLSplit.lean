/-
  Two leaves beside one another are what the cipher makes of the one node above both, and that one is held when the two leaves beside them were punctured; for every seed and every number of 16 bits.
-/
import Derived.Test.YtkfcllcdkgnfbaaKtCan
import Derived.Laws.BitsAllLaws
import Derived.Test.YtkfcllcdkgnfbaaRows
import Derived.Test.YtkfcllcdkgnfbaaOpen
import Derived.Test.YtkfcllcdkgnfbaaOpenA
import Derived.ProofKit
import Derived.OpenShut
import Derived.ShutString
import Derived.ChangeOld
namespace Go.Proofs.Ytkfcllcdkgnfbaa
open Go.RowKit Go.ChangeShapes Go.WideShapes Go.ChangeAt
open Kt
attribute [local go_sem ↓] Go.wp_at_zero Go.wp_at_succ
/-- What is held is the node itself, or a half of a node that has a punctured leaf. -/
theorem can_parent : ∀ (f : Nat) (x : Nd) (ms : List Int), okH x → x.d = 17 - (f : Int) → ∀ y ∈ canL f x ms, y = x ∨ ∃ p, okH p ∧ p.d < 17 ∧ (y = ndL p ∨ y = ndR p) ∧ ms.any (inI p) = true
  | 0, x, ms, h, hd, y, hy => by
    unfold canL at hy; split at hy
    · simp at hy
    · rw [List.mem_singleton] at hy; exact .inl hy
  | f + 1, x, ms, h, hd, y, hy => by
    unfold canL at hy; split at hy
    · rename_i ha
      rcases List.mem_append.1 hy with hy | hy
      · rcases can_parent f _ ms (ndL_ok h (by omega)).1 (by simp only [ndL]; omega) y hy with h1 | h1
        · exact .inr ⟨x, h, by omega, .inl h1, ha⟩
        · exact .inr h1
      · rcases can_parent f _ ms (ndR_ok h (by omega)).1 (by simp only [ndR]; omega) y hy with h1 | h1
        · exact .inr ⟨x, h, by omega, .inr h1, ha⟩
        · exact .inr h1
    · rw [List.mem_singleton] at hy; exact .inl hy
theorem many_low {d : Int} (h0 : 0 ≤ d) (h1 : d ≤ 15) : ∃ q, manyI d = 4 * q := by
  rcases many_cases h0 (by omega) with h | h
  · omega
  · rcases many_cases (d := d + 1) (by omega) (by omega) with h' | h'
    · omega
    · exact ⟨manyI (d + 1 + 1), by omega⟩
/-- The pair whose neighbours were punctured is held as one node. -/
theorem pair_held {s : List UInt8} (hs : s.length = 32) (p u v : Int) (hp0 : 0 ≤ p) (hp1 : p + 1 < 131072) (he : p % 2 = 0) (hu : u / 4 = p / 4) (hv : v / 4 = p / 4) (hu2 : u / 2 ≠ p / 2) (hv2 : v / 2 ≠ p / 2) :
    ∃ y ∈ canL 17 ⟨0, 0, s⟩ [u, v], y.d = 16 ∧ y.a = p := by
  have hr := (okS_root hs).1
  have hnu : p ≠ u := fun e => hu2 (by rw [e])
  have hnv : p ≠ v := fun e => hv2 (by rw [e])
  have hin : inI ⟨0, 0, s⟩ p = true := by rw [inI_iff]; refine ⟨hp0, ?_⟩; show p < 0 + manyI 0; rw [show manyI 0 = 131072 by decide]; omega
  have hh := hasI_can 17 ⟨0, 0, s⟩ [u, v] p hr rfl
  have hnm : p ∉ [u, v] := by simp [hnu, hnv]
  rw [hin, decide_eq_false hnm, hasI, Bool.not_false, Bool.and_true, List.any_eq_true] at hh
  obtain ⟨y, hy, hyi⟩ := hh
  have hyo := can_mem_ok 17 _ _ hr rfl y hy
  have hyi' := inI_iff.1 hyi
  refine ⟨y, hy, ?_⟩
  have hnu' : inI y u = false := by
    have h := hasI_can 17 ⟨0, 0, s⟩ [u, v] u hr rfl
    rw [decide_eq_true (show u ∈ [u, v] by simp), Bool.not_true, Bool.and_false, hasI, List.any_eq_false] at h
    simpa using h y hy
  rw [inI_not] at hnu'
  have h16 : 16 ≤ y.d := by
    rcases Int.lt_or_le y.d 16 with h | h
    · exfalso
      obtain ⟨q, hq⟩ := many_low hyo.1 (by omega)
      obtain ⟨k, hk⟩ := Int.dvd_of_emod_eq_zero hyo.2.2.2.1
      have : y.a = 4 * (q * k) := by rw [hk, hq, Int.mul_assoc]
      omega
    · exact h
  have hpar := can_parent 17 _ _ hr rfl y hy
  have h17 : ¬ y.d = 17 := by
    intro h
    rcases hpar with h1 | ⟨z, hz, hzd, hyz, ha⟩
    · rw [h1] at h; exact absurd h (by show ¬ (0 : Int) = 17; omega)
    · obtain ⟨l1, l2, l3⟩ := ndL_ok hz hzd
      obtain ⟨r1, r2⟩ := ndR_ok hz hzd
      have hzd16 : z.d = 16 := by
        rcases hyz with e | e
        · rw [e] at h; have : (ndL z).d = z.d + 1 := rfl; omega
        · rw [e] at h; have : (ndR z).d = z.d + 1 := rfl; omega
      have m17 : manyI (z.d + 1) = 1 := by rw [hzd16]; decide
      have m16 : manyI z.d = 2 := by rw [hzd16]; decide
      have my : manyI y.d = 1 := by rw [h]; decide
      have hzm := hz.2.2.2.1
      rw [m16] at hzm
      have hya : y.a = p := by omega
      have hzp : z.a = p := by
        rcases hyz with e | e
        · rw [e, l2] at hya; exact hya
        · rw [e, r2, m17] at hya; omega
      obtain ⟨m, hm, hmi⟩ := List.any_eq_true.1 ha
      rw [inI_iff, m16, hzp] at hmi
      simp only [List.mem_cons, List.not_mem_nil, or_false] at hm
      rcases hm with rfl | rfl
      · omega
      · omega
  have h16' : y.d = 16 := by have := hyo.2.1; omega
  have m16 : manyI y.d = 2 := by rw [h16']; decide
  have := hyo.2.2.2.1
  rw [m16] at this hyi'
  exact ⟨h16', by omega⟩
/-- The keys below a held node of depth 16. -/
theorem pair_keys {s : List UInt8} (hs : s.length = 32) (ms : List Int) {y : Nd} (hy : y ∈ canL 17 ⟨0, 0, s⟩ ms) (hd : y.d = 16) : leftK y.s = keyK [⟨0, 0, s⟩] y.a ∧ rightK y.s = keyK [⟨0, 0, s⟩] (y.a + 1) := by
  have hr := (okS_root hs).1
  have hyo := can_mem_ok 17 _ _ hr rfl y hy
  have m16 : manyI y.d = 2 := by rw [hd]; decide
  have m17 : manyI (y.d + 1) = 1 := by rw [hd]; decide
  obtain ⟨l1, l2, l3⟩ := ndL_ok hyo (by omega)
  obtain ⟨r1, r2⟩ := ndR_ok hyo (by omega)
  have i1 : inI y y.a = true := by rw [inI_iff, m16]; omega
  have i2 : inI y (y.a + 1) = true := by rw [inI_iff, m16]; omega
  have il : inI (ndL y) y.a = true := by rw [inI_iff, l2, show (ndL y).d = y.d + 1 from rfl, m17]; omega
  have ir : inI (ndR y) (y.a + 1) = true := by rw [inI_iff, r2, show (ndR y).d = y.d + 1 from rfl, m17]; omega
  have g1 := goL_can 17 _ ms y.a hr rfl y hy i1
  have g2 := goL_can 17 _ ms (y.a + 1) hr rfl y hy i2
  have h1 : (17 - y.d).toNat = 1 := by rw [hd]; rfl
  rw [h1] at g1 g2
  have k1 : ∀ a, inI ⟨0, 0, s⟩ a = true → keyK [⟨0, 0, s⟩] a = (goL 17 ⟨0, 0, s⟩ a).s := fun a ha => by
    unfold keyK
    rw [List.find?_cons_of_pos (by simpa using ha)]; rfl
  rw [k1 _ g1.1, k1 _ g2.1, ← g1.2, ← g2.2]
  show _ = (stepK y y.a).s ∧ _ = (stepK y (y.a + 1)).s
  rw [step_left hyo (by omega) il, step_right hyo (by omega) ir]
  exact ⟨rfl, rfl⟩
theorem even_of (b : Nat) (hb : b ≤ 65535) : ∃ p u v : Nat, bits .andNot .u64 (b : Int) 1 = (p : Int) ∧ bits .xor .u64 (p : Int) 2 = (u : Int) ∧ bits .xor .u64 (p : Int) 3 = (v : Int) ∧ p ≤ 65535 ∧ p % 2 = 0 ∧ u / 4 = p / 4 ∧ v / 4 = p / 4 ∧ u / 2 ≠ p / 2 ∧ v / 2 ≠ p / 2 := by
  have hp : b &&& (18446744073709551615 - 1) ≤ b := Nat.and_le_left
  have h1 : ∀ x : Nat, x ^^^ 1 ≠ x := fun x h => by
    have := congrArg (·.testBit 0) h
    simp at this
    omega
  have h4 : ∀ x y : Nat, y / 4 = 0 → (x ^^^ y) / 4 = x / 4 := fun x y hy => by
    have e : ∀ z : Nat, z / 4 = z >>> 2 := fun z => (Nat.shiftRight_eq_div_pow z 2).symm
    rw [e] at hy
    rw [e, e, Nat.shiftRight_xor_distrib, hy, Nat.xor_zero]
  have h2 : ∀ x y : Nat, y / 2 = 1 → (x ^^^ y) / 2 ≠ x / 2 := fun x y hy => by
    have e : ∀ z : Nat, z / 2 = z >>> 1 := fun z => (Nat.shiftRight_eq_div_pow z 1).symm
    rw [e] at hy
    rw [e, e, Nat.shiftRight_xor_distrib, hy]
    exact h1 _
  refine ⟨b &&& (18446744073709551615 - 1), (b &&& (18446744073709551615 - 1)) ^^^ 2, (b &&& (18446744073709551615 - 1)) ^^^ 3, u64_andNot_nat b 1 (by omega) (by omega), u64_xor_nat _ 2 (by omega) (by omega), u64_xor_nat _ 3 (by omega) (by omega), by omega, ?_, h4 _ 2 rfl, h4 _ 3 rfl, h2 _ 2 rfl, h2 _ 3 rfl⟩
  have h : (b &&& (18446744073709551615 - 1)).testBit 0 = false := by rw [Nat.testBit_and]; simp
  rw [Nat.testBit_zero, decide_eq_false_iff_not] at h
  omega
set_option maxRecDepth 100000 in
set_option maxHeartbeats 6400000 in
theorem keytreeSplit_any (w : World) (s : List UInt8) (hs : s.length = 32) (b : Int) (hb : 0 ≤ b ∧ b ≤ 65535) :
    Calls Try.prog 9 #[.agg (bva s), .int .u16 b] w (RetB (.bool true) w) := by
  have HS := Lib.hid hs
  have HK : Hid ((Try.prog.info? 23).map (·.size) = some (bva s).size) := by rw [bva_size, hs]; exact info_keyL
  have B1 := Lib.hid (show Blk (w.alloc (.cells (bva s) 23)) w.heap.size (bva s) 23 from heap_alloc_new _ _)
  have BB := Lib.hid (show Below w.heap.size w (w.alloc (.cells (bva s) 23)) from (Below.refl _ _).alloc (Nat.le_refl _) _)
  clear hs
  obtain ⟨b, rfl⟩ := Int.eq_ofNat_of_zero_le hb.1
  obtain ⟨p, u, v, ep, eu, ev, q1, q2, q3, q4, q5, q6⟩ := even_of b (by omega)
  have ep1 : IntKind.u64.wrap ((p : Int) + 1) = (p : Int) + 1 := IntWalk.u64_in _ (by omega)
  go_enter Try.func9, Try.ntmps9
  go_wp2_with fail
  refine (ktAwake_any _).mono ?_
  rintro e w1 ⟨rfl, bw⟩
  have C1 := Lib.hid (B1.out.below bw)
  have CB := Lib.hid (BB.out.trans (bw.mono BB.out.size))
  clear bw B1 BB
  obtain ⟨rt, hrt⟩ : ∃ rt : Nd, rt = ⟨0, 0, s⟩ := ⟨_, rfl⟩
  have HRT := Lib.hid hrt
  have HOK : Hid (okS 0 [rt]) := by rw [hrt]; exact okS_root HS.out
  obtain ⟨zz, hzz⟩ : ∃ zz : List UInt8, zz = List.replicate 32 0 := ⟨_, rfl⟩
  have hz23 : ∀ W, (zeroValue 23).run Try.prog W = .ok (.agg (bva zz)) W := fun _ => by rw [hzz]; kernel_rfl
  have ZZ3 : Hid (zz.length = 32) := by show _ = _; rw [hzz]; rfl
  have HZZ := Lib.hid hzz
  clear hrt hzz
  go_wp2_with (refine wpList_load_row rfl 23 (.tmp 2) rfl w.heap.size rfl 23 (bva s) (0, 0) _ C1.out Try.underlying23 rfl HK.out ?_)
  refine (new_any s HS.out _).mono ?_
  rintro e w2 ⟨⟨g, F, rfl, ht, hF⟩, bw⟩
  rw [← HRT.out] at ht
  have HT := Lib.hid ht
  have HF := Lib.hid (show ∀ q, F q → w.heap.size ≤ q from fun q hq => Nat.le_trans CB.out.size (hF q hq))
  have HB := Lib.hid (CB.out.trans (bw.mono CB.out.size))
  clear ht hF bw C1 CB
  go_wp2_with fail
  obtain ⟨ka, hka⟩ : ∃ ka, ka = keyK [rt] p := ⟨_, rfl⟩
  obtain ⟨kb, hkb⟩ : ∃ kb, kb = keyK [rt] ((p : Int) + 1) := ⟨_, rfl⟩
  have hm0 : manyI 0 = 131072 := by decide
  have hia : hasI [rt] p = true := by rw [hasI_single, inI_iff, HRT.out]; refine ⟨by show (0 : Int) ≤ p; omega, ?_⟩; show (p : Int) < 0 + manyI 0; omega
  have hib : hasI [rt] ((p : Int) + 1) = true := by rw [hasI_single, inI_iff, HRT.out]; refine ⟨by show (0 : Int) ≤ p + 1; omega, ?_⟩; show (p : Int) + 1 < 0 + manyI 0; omega
  have ha3 : ka.length = 32 := by rw [hka]; exact keyK_length (okS_len HOK.out) p
  have hb3 : kb.length = 32 := by rw [hkb]; exact keyK_length (okS_len HOK.out) _
  have HKA := Lib.hid hka
  have HKB := Lib.hid hkb
  have HIA := Lib.hid hia
  have HIB := Lib.hid hib
  have HA3 := Lib.hid ha3
  have HB3 := Lib.hid hb3
  have HIKA : Hid ((Try.prog.info? 23).map (·.size) = some (bva ka).size) := by rw [bva_size, ha3]; exact info_keyL
  have HIKB : Hid ((Try.prog.info? 23).map (·.size) = some (bva kb).size) := by rw [bva_size, hb3]; exact info_keyL
  have heqa : ∀ W, (Op.equalIn 10000 23 (.agg (bva ka)) (.agg (bva ka))).run Try.prog W = .ok true W := fun W => by rw [eq_key ka ka ha3 ha3 W, decide_eq_true rfl]
  have heqb : ∀ W, (Op.equalIn 10000 23 (.agg (bva kb)) (.agg (bva kb))).run Try.prog W = .ok true W := fun W => by rw [eq_key kb kb hb3 hb3 W, decide_eq_true rfl]
  clear hka hkb hia hib ha3 hb3 hm0
  refine (tkey_tr HT.out p).mono ?_
  rintro e w3 ⟨rfl, bw⟩
  rw [keyV_form, ← HKA.out, HIA.out]
  have HT3 := Lib.hid (HT.out.below bw)
  have HB3' := Lib.hid (HB.out.trans (bw.mono HB.out.size))
  clear bw HT HB
  go_wp2_with (refine wpList_store_row rfl 23 (.tmp 7) (.tmp 28) rfl w3.heap.size (bva ka) rfl rfl 23 (bva zz) (heap_alloc_new _ _) HIKA.out (by rw [bva_size, bva_size, HA3.out, ZZ3.out]) (bva_one _) ?_
               generalize hwx : World.setRow _ _ _ = w4
               have EB : Below w3.heap.size w3 w4 := by rw [← hwx]; exact below_setRow ((Below.refl _ _).alloc (Nat.le_refl _) _) (Nat.le_refl _) _
               have KA4 := Lib.hid (show Blk w4 w3.heap.size (bva ka) 23 by rw [← hwx]; exact setRow_heap _ _ _ _ _ _ (heap_alloc_new _ _))
               have HT4 := Lib.hid (HT3.out.below EB)
               have HL4 := Lib.hid (HT3.out.lt)
               have HB4 := Lib.hid (HB3'.out.trans (EB.mono HB3'.out.size))
               clear hwx EB HT3 HB3')
  refine (tkey_tr HT4.out ((p : Int) + 1)).mono ?_
  rintro e w5 ⟨rfl, bw⟩
  rw [keyV_form, ← HKB.out, HIB.out]
  have HT5 := Lib.hid (HT4.out.below bw)
  have KA5 := Lib.hid (KA4.out.below bw)
  have HB5 := Lib.hid (HB4.out.trans (bw.mono HB4.out.size))
  have hlt5 := KA5.out.lt
  clear bw HT4 HB4 KA4
  go_wp2_with (refine wpList_store_row rfl 23 (.tmp 9) (.tmp 35) rfl w5.heap.size (bva kb) rfl rfl 23 (bva zz) (heap_alloc_new _ _) HIKB.out (by rw [bva_size, bva_size, HB3.out, ZZ3.out]) (bva_one _) ?_
               generalize hwx : World.setRow _ _ _ = w6
               have EB : Below w5.heap.size w5 w6 := by rw [← hwx]; exact below_setRow ((Below.refl _ _).alloc (Nat.le_refl _) _) (Nat.le_refl _) _
               have KB6 := Lib.hid (show Blk w6 w5.heap.size (bva kb) 23 by rw [← hwx]; exact setRow_heap _ _ _ _ _ _ (heap_alloc_new _ _))
               have KA6 := Lib.hid (KA5.out.below EB)
               have HT6 := Lib.hid (HT5.out.below EB)
               have HL6 := Lib.hid (HT5.out.lt)
               have HB6 := Lib.hid (HB5.out.trans (EB.mono HB5.out.size))
               clear hwx EB HT5 HB5 KA5)
  refine (tpuncture_any g _ F u _ HT6.out).mono ?_
  rintro e w7 ⟨rfl, F7, ht, hbt, hF7⟩
  have HT7 := Lib.hid ht
  have KA7 := Lib.hid (KA6.out.but hbt (fun h => by have := HL4.out _ h; omega))
  have KB7 := Lib.hid (KB6.out.but hbt (fun h => by have := HL6.out _ h; omega))
  have HB7 := Lib.hid (HB6.out.trans (but_belowF hbt HF.out HB6.out.size))
  have HF7 := Lib.hid (show ∀ q, F7 q → w.heap.size ≤ q ∧ q ≠ w3.heap.size ∧ q ≠ w5.heap.size from fun q hq => by
    have h5 := KB6.out.lt
    rcases hF7 q hq with h | h
    · have h1 := HL4.out q h; have h2 := HL6.out q h; exact ⟨HF.out q h, by omega, by omega⟩
    · exact ⟨Nat.le_trans HB6.out.size h, by omega, by omega⟩)
  clear ht hbt hF7 HT6 KA6 KB6 HB6
  go_wp2_with fail
  refine (tpuncture_any g _ F7 v _ HT7.out).mono ?_
  rintro e w8 ⟨rfl, F8, ht, hbt, hF8⟩
  have KA8 := Lib.hid (KA7.out.but hbt (fun h => (HF7.out _ h).2.1 rfl))
  have KB8 := Lib.hid (KB7.out.but hbt (fun h => (HF7.out _ h).2.2 rfl))
  have HB8 := Lib.hid (HB7.out.trans (but_belowF hbt (fun q hq => (HF7.out q hq).1) HB7.out.size))
  obtain ⟨X, hX⟩ : ∃ X, X = canL 17 rt [(u : Int), (v : Int)] := ⟨_, rfl⟩
  have hcan : punL (punL [rt] u) v = X := by
    have h := punAll_root HS.out [(u : Int), (v : Int)]
    rw [← HRT.out] at h
    rw [hX, ← h]; rfl
  rw [hcan] at ht
  have HXV := Lib.hid hX
  have HT8 := Lib.hid ht
  clear ht hbt hF8 HT7 KA7 KB7 HB7 hcan hX
  go_wp2_with fail
  refine (theld_tr HT8.out).mono ?_
  rintro e w9 ⟨A1, n1, c1, rfl, ho, bw⟩
  have hxo := HT8.out.ok
  have hn1 : X.length = n1 := by
    have h1 := ho.1
    rw [nvs_length (okS_len hxo)] at h1; omega
  have hfew : n1 ≤ 131072 := by rw [← hn1]; exact okS_few hxo
  have HN1 := Lib.hid hn1
  have HXO := Lib.hid hxo
  have O9 := Lib.hid (Rd.ownN ho)
  have KA9 := Lib.hid (KA8.out.below bw)
  have KB9 := Lib.hid (KB8.out.below bw)
  have HB9 := Lib.hid (HB8.out.trans (bw.mono HB8.out.size))
  have hne : w3.heap.size < w9.heap.size := KA9.out.lt
  have hne2 : w5.heap.size < w9.heap.size := KB9.out.lt
  clear ho bw hn1 hxo KA8 KB8 HB8 HT8
  have hwb : w.heap.size ≤ w9.heap.size := HB9.out.size
  obtain ⟨cz, hcz⟩ : ∃ cz, cz = ndC zeroNd := ⟨_, rfl⟩
  have hzh : ∀ W, (zeroValue 48).run Try.prog W = .ok (.agg cz) W := fun _ => by rw [hcz]; kernel_rfl
  have ZH : Hid (cz.size = 34) := by show _ = _; rw [hcz]; exact ndC_size rfl
  have HEX := Lib.hid (show ∃ y ∈ X, y.d = 16 ∧ y.a = p from by
    rw [HXV.out, HRT.out]
    exact pair_held HS.out p u v (by omega) (by omega) (by omega) (by omega) (by omega) (by omega) (by omega))
  have HKY := Lib.hid (show ∀ y ∈ X, y.d = 16 → y.a = p → leftK y.s = ka ∧ rightK y.s = kb from fun y hy hd ha => by
    rw [HXV.out, HRT.out] at hy
    have h := pair_keys HS.out _ hy hd
    rw [ha] at h
    rw [HKA.out, HKB.out, HRT.out]; exact h)
  clear hcz
  go_wp2_with fail
  go_loopw [12, 48] (fun _ i wr => ∃ k : Nat, k ≤ n1 ∧ i = .int .i64 k ∧ Hid (∀ j y, j < k → X[j]? = some y → ¬ (y.d = 16 ∧ y.a = p)) ∧ Below w9.heap.size w9 wr) (fun _ i _ => n1 - (intOf i).toNat)
  case atStart => exact ⟨0, by omega, rfl, fun j y h => by omega, Below.refl _ _⟩
  case round =>
    obtain ⟨k, hk, rfl, HNO, hbw⟩ := hrel
    by_cases hlt : k < n1
    · have hkl : k < X.length := by rw [HN1.out]; exact hlt
      obtain ⟨ad, hA, hbl, hcell⟩ := rd_node (O9.out.below hbw) (okS_len HXO.out) hkl
      subst hA
      obtain ⟨x, hxe⟩ : ∃ x, x = X[k] := ⟨_, rfl⟩
      have hxk : X[k]? = some x := by rw [hxe]; exact List.getElem?_eq_getElem hkl
      have hx : okH x := by rw [hxe]; exact (okS_mem HXO.out _ (List.getElem_mem hkl)).1
      rw [← hxe] at hcell
      have HCE := Lib.hid hcell
      have HXK := Lib.hid hxk
      have HX3 : Hid (x.s.length = 32) := hx.2.2.2.2.2
      have HI : Hid ((Try.prog.info? 48).map (·.size) = some (ndV x).length) := by rw [ndV_length HX3.out]; exact info_held
      have HIC : Hid ((Try.prog.info? 48).map (·.size) = some (ndC x).size) := by rw [ndC_size HX3.out]; exact info_held
      have HIX : Hid ((Try.prog.info? 23).map (·.size) = some (bv x.s).length) := by rw [bv_length, HX3.out]; exact info_keyL
      have HBW := Lib.hid hbw
      have k0 : (0 : Int) ≤ (k : Int) := by omega
      have k1 : (k : Int) < (n1 : Int) := by omega
      have ek : IntKind.i64.wrap ((k : Int) + 1) = ((k + 1 : Nat) : Int) := by rw [IntWalk.i64_in _ (by omega)]; omega
      clear hcell hxk hxe hx hbl hbw
      by_cases h1 : x.a = p
      · have d1 : (x.a == (p : Int)) = true := by rw [beq_iff_eq]; exact h1
        by_cases h2 : x.d = 16
        · have d2 : (x.d == 16) = true := by rw [beq_iff_eq]; exact h2
          have HKX := Lib.hid (HKY.out x (List.mem_of_getElem? HXK.out) h2 h1)
          clear h1 h2
          go_wp2_with (first
              | (refine wpList_load_at rfl 48 (.tmp 50) rfl (ad.add (k * 34)) rfl HCE.out Try.underlying48 rfl HI.out ?_
                 change wpList _ _ _ _ (Act.put _ _ (.agg (ndC x))) _)
              | (refine wpList_store_row rfl 48 (.tmp 12) (.tmp 51) rfl wr.heap.size (ndC x) rfl rfl 48 cz (heap_alloc_new _ _) HIC.out (by rw [ndC_size HX3.out, ZH.out]) (ndC_one _) ?_
                 generalize hwx : World.setRow _ _ _ = wx
                 have e1 : Blk wx wr.heap.size (ndC x) 48 := by rw [← hwx]; exact setRow_heap _ _ _ _ _ _ (heap_alloc_new _ _)
                 have c0 := ndt_d e1
                 have c1' := ndt_a e1
                 have E1 := Lib.hid e1
                 have EB := Lib.hid (show Below w9.heap.size w9 wx by rw [← hwx]; exact below_setRow (HBW.out.alloc HBW.out.size _) HBW.out.size _)
                 clear hwx e1)
              | (refine wpList_load_mid rfl 23 (.tmp 63) rfl wr.heap.size 2 rfl (bv x.s) _ (ndt_s E1.out) Try.underlying23 rfl HIX.out ?_
                 change wpList _ _ _ _ (Act.put _ _ (.agg (bva x.s))) _))
          refine (lsplit_any x.s HX3.out _).mono ?_
          rintro e w10 ⟨rfl, bw⟩
          rw [HKX.out.1, HKX.out.2]
          have KA10 := Lib.hid ((KA9.out.below EB.out).below bw)
          have KB10 := Lib.hid ((KB9.out.below EB.out).below bw)
          have HB10 := Lib.hid ((HB9.out.trans (EB.out.mono hwb)).trans (bw.mono (Nat.le_trans hwb EB.out.size)))
          have hl1 := KA10.out.lt
          have hl2 := KB10.out.lt
          clear bw E1 EB c0 c1'
          go_wp2_with (first
              | (refine wpList_store_row rfl 23 (.tmp 13) (.tmp 66) rfl w10.heap.size (bva ka) rfl rfl 23 (bva zz) (heap_alloc2_old _ _ _) HIKA.out (by rw [bva_size, bva_size, HA3.out, ZZ3.out]) (bva_one _) ?_
                 generalize hwx : World.setRow _ _ _ = wx2
                 have L1 := Lib.hid (show Blk wx2 w10.heap.size (bva ka) 23 by rw [← hwx]; exact setRow_heap _ _ _ _ _ _ (heap_alloc2_old _ _ _))
                 have L2 := Lib.hid (show Blk wx2 (w10.heap.size + 1) (bva zz) 23 by rw [← hwx]; exact blk_row (heap_alloc2_new _ _ _) (by omega))
                 have LB := Lib.hid (show Below w10.heap.size w10 wx2 by rw [← hwx]; exact below_setRow (((Below.refl _ _).alloc (Nat.le_refl _) _).alloc (by simp) _) (Nat.le_refl _) _)
                 clear hwx)
              | (refine wpList_store_row rfl 23 (.tmp 14) (.tmp 67) rfl (w10.heap.size + 1) (bva kb) rfl rfl 23 (bva zz) L2.out HIKB.out (by rw [bva_size, bva_size, HB3.out, ZZ3.out]) (bva_one _) ?_
                 generalize hwx : World.setRow _ _ _ = wx3
                 have M1 := Lib.hid (show Blk wx3 w10.heap.size (bva ka) 23 by rw [← hwx]; exact blk_row L1.out (by omega))
                 have M2 := Lib.hid (show Blk wx3 (w10.heap.size + 1) (bva kb) 23 by rw [← hwx]; exact setRow_heap _ _ _ _ _ _ L2.out)
                 have MB := Lib.hid (show Below w10.heap.size w10 wx3 by rw [← hwx]; exact below_setRow LB.out (by omega) _)
                 have KA11 := Lib.hid (KA10.out.below MB.out)
                 have KB11 := Lib.hid (KB10.out.below MB.out)
                 have HB11 := Lib.hid (HB10.out.trans (MB.out.mono HB10.out.size))
                 clear hwx L1 L2 LB KA10 KB10 HB10)
              | (refine wpList_load_if rfl 23 (.tmp 13) rfl (g := w10.heap.size) rfl M1.out Try.underlying23 rfl HIKA.out ?_)
              | (refine wpList_load_if rfl 23 (.tmp 7) rfl (g := w3.heap.size) rfl KA11.out Try.underlying23 rfl HIKA.out ?_)
              | (refine wpList_load_if rfl 23 (.tmp 14) rfl (g := w10.heap.size + 1) rfl M2.out Try.underlying23 rfl HIKB.out ?_)
              | (refine wpList_load_if rfl 23 (.tmp 9) rfl (g := w5.heap.size) rfl KB11.out Try.underlying23 rfl HIKB.out ?_))
          go_ret
          exact ⟨rfl, HB11.out⟩
        · have d2 : (x.d == 16) = false := by rw [beq_eq_false_iff_ne]; exact h2
          have HH2 := Lib.hid h2
          clear h1 h2
          go_wp2_with (first
          | (refine wpList_load_at rfl 48 (.tmp 50) rfl (ad.add (k * 34)) rfl HCE.out Try.underlying48 rfl HI.out ?_
             change wpList _ _ _ _ (Act.put _ _ (.agg (ndC x))) _)
          | (refine wpList_store_row rfl 48 (.tmp 12) (.tmp 51) rfl wr.heap.size (ndC x) rfl rfl 48 cz (heap_alloc_new _ _) HIC.out (by rw [ndC_size HX3.out, ZH.out]) (ndC_one _) ?_
             generalize hwx : World.setRow _ _ _ = wx
             have e1 : Blk wx wr.heap.size (ndC x) 48 := by rw [← hwx]; exact setRow_heap _ _ _ _ _ _ (heap_alloc_new _ _)
             have c0 := ndt_d e1
             have c1' := ndt_a e1
             have E1 := Lib.hid e1
             have EB := Lib.hid (show Below w9.heap.size w9 wx by rw [← hwx]; exact below_setRow (HBW.out.alloc HBW.out.size _) HBW.out.size _)
             clear hwx e1))
          try simp only [Act.put, List.setIfInBounds_toArray, List.set_cons_zero, List.set_cons_succ]
          go_roundw
          case rel => exact ⟨k + 1, by omega, by go_num, fun q y hq hy => by
            rcases Nat.lt_or_ge q k with h | h
            · exact HNO.out q y h hy
            · obtain rfl : q = k := by omega
              rw [HXK.out] at hy
              injection hy with hy
              subst hy
              rintro ⟨h3, h4⟩
              exact HH2.out h3, EB.out⟩
          case measure => simp [intOf]; omega
      · have d1 : (x.a == (p : Int)) = false := by rw [beq_eq_false_iff_ne]; exact h1
        have HH1 := Lib.hid h1
        clear h1
        go_wp2_with (first
        | (refine wpList_load_at rfl 48 (.tmp 50) rfl (ad.add (k * 34)) rfl HCE.out Try.underlying48 rfl HI.out ?_
           change wpList _ _ _ _ (Act.put _ _ (.agg (ndC x))) _)
        | (refine wpList_store_row rfl 48 (.tmp 12) (.tmp 51) rfl wr.heap.size (ndC x) rfl rfl 48 cz (heap_alloc_new _ _) HIC.out (by rw [ndC_size HX3.out, ZH.out]) (ndC_one _) ?_
           generalize hwx : World.setRow _ _ _ = wx
           have e1 : Blk wx wr.heap.size (ndC x) 48 := by rw [← hwx]; exact setRow_heap _ _ _ _ _ _ (heap_alloc_new _ _)
           have c0 := ndt_d e1
           have c1' := ndt_a e1
           have E1 := Lib.hid e1
           have EB := Lib.hid (show Below w9.heap.size w9 wx by rw [← hwx]; exact below_setRow (HBW.out.alloc HBW.out.size _) HBW.out.size _)
           clear hwx e1))
        try simp only [Act.put, List.setIfInBounds_toArray, List.set_cons_zero, List.set_cons_succ]
        go_roundw
        case rel => exact ⟨k + 1, by omega, by go_num, fun q y hq hy => by
          rcases Nat.lt_or_ge q k with h | h
          · exact HNO.out q y h hy
          · obtain rfl : q = k := by omega
            rw [HXK.out] at hy
            injection hy with hy
            subst hy
            rintro ⟨h3, h4⟩
            exact HH1.out h4, EB.out⟩
        case measure => simp [intOf]; omega
    · obtain ⟨y, hy, hyd, hya⟩ := HEX.out
      obtain ⟨q, hq⟩ := List.getElem?_of_mem hy
      have hql := (List.getElem?_eq_some_iff.1 hq).1
      have := HN1.out
      exact absurd ⟨hyd, hya⟩ (HNO.out q y (by omega) hq)
theorem keytreeSplit_own : ownKnob Try.prog.godebug = none := by kernel_rfl
theorem keytreeSplit_laid : laidOutB Try.prog = true := by kernel_rfl

set_option maxRecDepth 100000 in
theorem keytreeSplit_lifted (os : Os) (started : os.Started) (H : Type) (enc : TypeId × Value → H) :
    ReturnsInHanded {} Try.checked os 9 .any (Rows.keytreeSplitSpec.pre6 enc Try.prog Try.f9 Rows.keytreeSplitRow.domain false) (Rows.keytreeSplitSpec.post enc Try.prog Try.f9 false true false false) := by
  refine returnsInHanded_of_change (C := Try.checked) keytreeSplit_own started (by kernel_rfl) Try.func9
    (ChangeSpec.witness6 (enc := enc) (C := Try.checked) false ⟨#[], #[.agg #[.int .u8 0, .int .u8 0, .int .u8 0, .int .u8 0, .int .u8 0, .int .u8 0, .int .u8 0, .int .u8 0, .int .u8 0, .int .u8 0, .int .u8 0, .int .u8 0, .int .u8 0, .int .u8 0, .int .u8 0, .int .u8 0, .int .u8 0, .int .u8 0, .int .u8 0, .int .u8 0, .int .u8 0, .int .u8 0, .int .u8 0, .int .u8 0, .int .u8 0, .int .u8 0, .int .u8 0, .int .u8 0, .int .u8 0, .int .u8 0, .int .u8 0, .int .u8 0], .int .u16 0], []⟩ 8 (by kernel_rfl) (by kernel_rfl) (by kernel_rfl) (by kernel_rfl)) ?_
  intro W base args ds gs before hval0 hW _ _
  have hval : ∀ (j : Nat) t v, Try.f9.params[j]? = some t → args[j]? = some v → Value.okWide Try.prog W .any base t v := hval0
  have hW' := hW
  obtain ⟨p, q, hA0, hV, rfl, hfz, hnd⟩ := hW
  have hA : DataW.TrodAll enc Try.prog W 0 (fun _ => true) true Try.f9.params.toList args.toList ds p := hA0
  rw [Try.params9] at hA hval
  obtain ⟨v0, vs0, d0, ds0, p0, q0, hargs, rfl, rfl, h0, r0⟩ := trodAll_cons hA
  obtain ⟨v1, vs1, d1, ds1, p1, q1, rfl, rfl, rfl, h1, r1⟩ := trodAll_cons r0
  obtain ⟨rfl, rfl, rfl⟩ := trodAll_nil r1
  obtain rfl : args = #[v0, v1] := by cases args; simp_all
  obtain ⟨rfl, rfl⟩ := trodVars_none hV
  have lt0 : ∀ x ∈ p0, x.block < W.heap.size := by obtain ⟨m, hm⟩ := h0; exact DataW.trod_lt m _ _ _ hm
  obtain ⟨l0, hl0, rfl⟩ := open_u8s Try.underlying23 Try.underlying5 (by kernel_rfl) (by kernel_rfl) (hval 0 23 v0 rfl rfl) h0
  obtain ⟨a1, rfl, rfl, rfl, w1⟩ := open_int Try.underlying60 (hval 1 60 v1 rfl rfl) h1
  have b1 := bounds_u16 w1
  clear hA0 hval0
  refine (keytreeSplit_any W l0 hl0 a1 b1).mono fun e W' ⟨he, bel⟩ => ?_
  subst he
  exact ⟨_, rfl, _, _, _, [], _, [], hW', trodAll_mk1 (shut_bool Try.underlying4 _), (trodAll_cons_mk (Below.trod keytreeSplit_laid (by kernel_rfl) (of_decide_eq_true (by kernel_rfl)) h0 bel lt0) (trodAll_cons_mk (shut_int Try.underlying60 w1) trodAll_mk0)), rfl, bel.frame _, fun h => by cases h⟩

theorem keytreeSplit_holds : Rows.KeytreeSplitSaid :=
  OpenClaim.holds_of_wide 9 Try.f9 rfl rfl rfl rfl rfl rfl rfl ⟨rfl, rfl, rfl, rfl, rfl⟩ rfl rfl rfl rfl rfl (by kernel_rfl) Try.func9 (by kernel_rfl)
    (of_decide_eq_true (by kernel_rfl)) (by unfold Func.isWrapper; rw [if_neg (of_decide_eq_false (by kernel_rfl))]; exact ⟨rfl, rfl⟩)
    (fun os started H enc _ => keytreeSplit_lifted os started H enc)

#print axioms keytreeSplit_holds

end Go.Proofs.Ytkfcllcdkgnfbaa
