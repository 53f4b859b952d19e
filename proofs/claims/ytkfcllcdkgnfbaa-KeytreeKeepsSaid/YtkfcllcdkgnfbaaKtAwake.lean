/-
  The laws' example, awake: a tree whose leaf 0 is punctured.
-/
import Derived.Test.YtkfcllcdkgnfbaaKtPun
import Derived.Test.YtkfcllcdkgnfbaaKtTKey
import Derived.Test.YtkfcllcdkgnfbaaKtFrom
namespace Go.Proofs.Ytkfcllcdkgnfbaa.Kt
open Go.RowKit
attribute [local go_sem ↓] Go.wp_at_zero Go.wp_at_succ
section
variable {w : World} {g : Nat} {l : List Nd} {F : Nat → Prop}
theorem theld_tr (h : Tr w g l F) : Calls Try.prog 20 #[.pointer (some ⟨g, 0, none⟩)] w (RetRowN 48 34 (nvs l) w) := by
  obtain ⟨A, n, c, ht, _⟩ := h; exact theld_any g A n c l w ht
theorem tcount_tr (h : Tr w g l F) : Calls Try.prog 21 #[.pointer (some ⟨g, 0, none⟩)] w (RetB (.int .i64 (countL l)) w) := by
  obtain ⟨A, n, c, ht, _⟩ := h; exact tcount_any g A n c l w ht
theorem tkey_tr (h : Tr w g l F) (m : Int) : Calls Try.prog 23 #[.pointer (some ⟨g, 0, none⟩), .int .u64 m] w (RetB (keyV (l.find? (inI · m)) m) w) := by
  obtain ⟨A, n, c, ht, _⟩ := h; exact tkey_any g A n c l m w ht
theorem thas_tr (h : Tr w g l F) (m : Int) : Calls Try.prog 16 #[.pointer (some ⟨g, 0, none⟩), .int .u64 m] w (RetB (.bool (hasI l m)) w) := by
  obtain ⟨A, n, c, ht, _⟩ := h; exact has_any g A n c l m w ht
theorem but_belowF {w' : World} {N : Nat} (hb : But F w w') (hF : ∀ k, F k → N ≤ k) (hN : N ≤ w.heap.size) : Below N w w' := hb.below (fun k hk h => by have := hF k h; omega) hN
end
def oneK : List UInt8 := 1 :: List.replicate 31 0
def oneL : List Nd := punL [⟨0, 0, oneK⟩] 0
theorem one_facts : (hasI [⟨0, 0, oneK⟩] 0 = true ∧ hasI oneL 0 = false ∧ oneL.length = 17 ∧ countL oneL = 131071) ∧ ((oneL.find? (inI · 0)).isSome = false ∧ (oneL.find? (inI · 1)).isSome = true ∧ (oneL.head?.map (fun x => (x.d, x.a))) = some (17, 1)) := by
  decide +kernel
set_option maxRecDepth 100000 in
set_option maxHeartbeats 1600000 in
theorem ktAwake_any (w : World) : Calls Try.prog 12 #[] w (RetB (.bool true) w) := by
  obtain ⟨⟨f1, f2, f3, f4⟩, f5, f6, f7⟩ := one_facts
  obtain ⟨s, hs⟩ : ∃ s, s = oneK := ⟨_, rfl⟩
  obtain ⟨z, hz0⟩ : ∃ z : List UInt8, z = List.replicate 32 0 := ⟨_, rfl⟩
  have hz : ∀ W, (zeroValue 23).run Try.prog W = .ok (.agg (bva z)) W := fun _ => by rw [hz0]; kernel_rfl
  have HBK := Lib.hid (show ∀ W, (Instr.build 23 #[(0, .int .u8 1)]).run Try.prog W = .ok (.agg (bva s)) W from fun _ => by rw [hs]; kernel_rfl)
  have Z0 := Lib.hid hz0
  have hs3 : s.length = 32 := by rw [hs]; rfl
  obtain ⟨l1, hl1⟩ : ∃ l1, l1 = oneL := ⟨_, rfl⟩
  have hp : punL [⟨0, 0, s⟩] 0 = l1 := by rw [hl1, hs]; rfl
  rw [← hs] at f1
  rw [← hl1] at f2 f3 f4 f5 f6 f7
  obtain ⟨y, hy⟩ : ∃ y, l1.find? (inI · 1) = some y := Option.isSome_iff_exists.1 f6
  have hno : l1.find? (inI · 0) = none := by simpa using f5
  obtain ⟨x0, tl, hx0⟩ : ∃ x0 tl, l1 = x0 :: tl := by
    cases l1 with
    | nil => simp at f3
    | cons a b => exact ⟨a, b, rfl⟩
  have hxd : x0.d = 17 ∧ x0.a = 1 := by rw [hx0] at f7; simpa using f7
  have hpp : punL l1 0 = l1 := punL_hasnt f2
  obtain ⟨kz, hkz⟩ : ∃ kz : List UInt8, kz = List.replicate 32 0 := ⟨_, rfl⟩
  have KZ : Hid (kz.length = 32) := by show _ = _; rw [hkz]; rfl
  have HI0 : Hid ((Try.prog.info? 23).map (·.size) = some (bva kz).size) := by rw [bva_size, KZ.out]; exact info_keyL
  have Z3 : Hid (z.length = 32) := by show _ = _; rw [hz0]; rfl
  have F1 := Lib.hid f1
  have F2 := Lib.hid f2
  have F3 := Lib.hid f3
  have F4 := Lib.hid f4
  have HP := Lib.hid hp
  have HPP := Lib.hid hpp
  have HY := Lib.hid hy
  have HNO := Lib.hid hno
  have HX0 := Lib.hid hx0
  have HXD := Lib.hid hxd
  have HS := Lib.hid hs3
  have HKZ := Lib.hid hkz
  clear f1 f2 f3 f4 f5 f6 f7 hs hz0 hl1 hp hpp hy hno hx0 hxd hs3 hkz
  go_enter Try.func12, Try.ntmps12
  go_wp2_with (refine wpList_build rfl 23 #[(0, .const (.int .u8 1))] rfl (v := .agg (bva s)) ?hbld ?_; case hbld => (simp only [List.map_toArray, List.map_cons, List.map_nil]; show (Instr.build 23 #[(0, .int .u8 1)]).run Try.prog _ = _; exact HBK.out _))
  refine (new_any s HS.out _).mono ?_
  rintro e w1 ⟨⟨g, F, rfl, ht, hF⟩, bw⟩
  have HT := Lib.hid ht
  have HF := Lib.hid hF
  have HB := Lib.hid bw
  clear ht hF bw
  go_wp2_with fail
  refine (tpuncture_any g _ F 0 _ HT.out).mono ?_
  rintro e w2 ⟨rfl, F', ht, hb, hF⟩
  rw [F1.out]
  rw [HP.out] at ht
  have HF2 := Lib.hid (show ∀ k, F' k → w.heap.size ≤ k from fun k hk => by
    rcases hF k hk with h | h
    · exact HF.out k h
    · exact Nat.le_trans HB.out.size h)
  have HT2 := Lib.hid ht
  have HB2 := Lib.hid (HB.out.trans (but_belowF hb HF.out HB.out.size))
  clear ht hb hF HT HF HB
  go_wp2_with fail
  refine (theld_tr HT2.out).mono ?_
  rintro e w3 ⟨A2, n2, c2, rfl, ho, bw⟩
  have hn2 : n2 = 17 := by
    have h1 := ho.1
    rw [nvs_length (okS_len HT2.out.ok), F3.out] at h1; omega
  obtain rfl : 17 = n2 := hn2.symm
  obtain ⟨h, rfl⟩ : ∃ h, A2 = some ⟨h, 0, none⟩ := by
    rcases own_addrN ho with ⟨_, h2, _⟩ | h1
    · omega
    · exact h1
  have HT3 := Lib.hid (HT2.out.below bw)
  have HB3 := Lib.hid (HB2.out.trans (bw.mono HB2.out.size))
  have HO3 := Lib.hid ho
  have HL3 := Lib.hid (HT2.out.lt)
  clear ho bw hn2 HT2 HB2
  go_wp2_with fail
  refine (tpuncture_any g _ F' 0 _ HT3.out).mono ?_
  rintro e w4 ⟨rfl, F4', ht, hb, hF⟩
  rw [F2.out]
  rw [HPP.out] at ht
  have HF4 := Lib.hid (show ∀ k, F4' k → w.heap.size ≤ k from fun k hk => by
    rcases hF k hk with h | h
    · exact HF2.out k h
    · exact Nat.le_trans HB3.out.size h)
  have HT4 := Lib.hid ht
  have HB4 := Lib.hid (HB3.out.trans (but_belowF hb HF2.out HB3.out.size))
  have HO4 := Lib.hid (Own.but HO3.out hb (fun k hk hF' => by have h1 := (own_loN HO3.out k hk).1; have h2 := HL3.out k hF'; omega))
  clear ht hb hF HT3 HB3 HO3
  go_wp2_with fail
  refine (tkey_tr HT4.out 0).mono ?_
  rintro e w5 ⟨rfl, bw⟩
  rw [HNO.out, keyV_none, ← HKZ.out]
  have HT5 := Lib.hid (HT4.out.below bw)
  have HB5 := Lib.hid (HB4.out.trans (bw.mono HB4.out.size))
  have HO5 := Lib.hid (own_belowN HO4.out bw)
  clear bw HT4 HB4 HO4
  go_wp2_with (refine wpList_store_row rfl 23 (.tmp 5) (.tmp 22) rfl w5.heap.size (bva kz) rfl rfl 23 (bva z) (heap_alloc_new _ _) HI0.out (by rw [bva_size, bva_size, KZ.out, Z3.out]) (bva_one _) ?_
               generalize hwx : World.setRow _ _ _ = wx
               have EB : Below w5.heap.size w5 wx := by rw [← hwx]; exact below_setRow ((Below.refl _ _).alloc (Nat.le_refl _) _) (Nat.le_refl _) _
               have HT6 := Lib.hid (HT5.out.below EB)
               have HB6 := Lib.hid (HB5.out.trans (EB.mono HB5.out.size))
               have HO6 := Lib.hid (own_belowN HO5.out EB)
               clear hwx EB HT5 HB5 HO5)
  refine (tkey_tr HT6.out 1).mono ?_
  rintro e w7 ⟨rfl, bw⟩
  rw [HY.out, keyV_some]
  have hk3 : (goL (17 - y.d).toNat y 1).s.length = 32 := goL_s _ _ _ (by
    have hm := List.mem_of_find?_eq_some HY.out
    exact okS_len HT6.out.ok y hm)
  generalize (goL (17 - y.d).toNat y 1).s = kk at hk3 ⊢
  have KK3 := Lib.hid hk3
  have HI1 : Hid ((Try.prog.info? 23).map (·.size) = some (bva kk).size) := by rw [bva_size, hk3]; exact info_keyL
  have HT7 := Lib.hid (HT6.out.below bw)
  have HB7 := Lib.hid (HB6.out.trans (bw.mono HB6.out.size))
  have HO7 := Lib.hid (own_belowN HO6.out bw)
  clear bw HT6 HB6 HO6 hk3
  go_wp2_with (refine wpList_store_row rfl 23 (.tmp 7) (.tmp 27) rfl w7.heap.size (bva kk) rfl rfl 23 (bva z) (heap_alloc_new _ _) HI1.out (by rw [bva_size, bva_size, KK3.out, Z3.out]) (bva_one _) ?_
               generalize hwx : World.setRow _ _ _ = wx
               have EB : Below w7.heap.size w7 wx := by rw [← hwx]; exact below_setRow ((Below.refl _ _).alloc (Nat.le_refl _) _) (Nat.le_refl _) _
               have HT8 := Lib.hid (HT7.out.below EB)
               have HB8 := Lib.hid (HB7.out.trans (EB.mono HB7.out.size))
               have ho8 := own_belowN HO7.out EB
               have hc : wx.cell? ⟨h, 0, none⟩ = some (.int .i64 17) ∧ wx.cell? ⟨h, 1, none⟩ = some (.int .u64 1) := by
                 have hrd := Rd.ownN ho8
                 have e0 : (nvs l1)[0]? = some (.int .i64 17) := by rw [HX0.out]; show some (Value.int .i64 x0.d) = _; rw [HXD.out.1]
                 have e1 : (nvs l1)[1]? = some (.int .u64 1) := by rw [HX0.out]; show some (Value.int .u64 x0.a) = _; rw [HXD.out.2]
                 obtain ⟨_, ha, _, hc0⟩ := hrd 0 _ e0
                 injection ha with ha; subst ha
                 obtain ⟨_, ha, _, hc1⟩ := hrd 1 _ e1
                 injection ha with ha; subst ha
                 rw [Addr.add_mid] at hc0 hc1
                 exact ⟨hc0, hc1⟩
               obtain ⟨hc0, hc1⟩ := hc
               clear hwx EB HT7 HB7 HO7 ho8)
  refine (tcount_tr HT8.out).mono ?_
  rintro e w9 ⟨rfl, bw⟩
  rw [F4.out]
  have HB9 := Lib.hid (HB8.out.trans (bw.mono HB8.out.size))
  clear bw HT8 HB8 hc0 hc1
  go_wp2
  go_ret
  exact ⟨rfl, HB9.out⟩
end Go.Proofs.Ytkfcllcdkgnfbaa.Kt
