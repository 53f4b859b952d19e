/-
  The laws' example, awake.
-/
import Derived.Test.YtolbffcbamfbeaaKdLive
import Derived.OrdersHeld
import Derived.Deep.RegionHeld
namespace Go.Proofs.Ytolbffcbamfbeaa.Kd
open Go.RowKit Go.Maps
attribute [local go_sem ↓] Go.wp_at_zero Go.wp_at_succ
def aw1 : Sy := S0.new 4
def aw2 : Sy := (aw1.write 0 0 (secC 1)).2
def aw3 : Sy := (aw2.write 0 1 (secC 2)).2
def aw4 : Sy := aw3.put 0 ((aw3.at 0).tear 1 2)
def aw5 : Sy := aw4.fail 0
def aw6 : Sy := (aw5.flush 0).2
theorem aw_facts : (aw1.write 0 0 (secC 1)).1 = 0 ∧ (aw2.write 0 1 (secC 2)).1 = 0 ∧ (aw5.flush 0).1 = 13 ∧ aw6.p.off = true ∧ (aw6.at 0).st.length = 4 ∧ (aw6.at 0).st[0]? = some (secC 1) ∧ ((aw6.at 0).st.getD 1 []).getD 1 0 = 2 ∧ ((aw6.at 0).st.getD 1 []).getD 2 0 = 0 := by decide +kernel
theorem aw_lens : aw1.ds.length = 1 ∧ aw2.ds.length = 1 ∧ aw3.ds.length = 1 ∧ aw4.ds.length = 1 ∧ aw5.ds.length = 1 ∧ aw6.ds.length = 1 ∧ (aw1.at 0).wt.length = 0 ∧ (aw2.at 0).wt.length = 1 := by decide +kernel
set_option maxRecDepth 100000 in
set_option maxHeartbeats 3200000 in
theorem kdAwake_any (w : World) : Calls Try.prog 12 #[] w (RetB (.bool true) w) := by
  obtain ⟨f1, f2, f3, f4, f5, f6, f7, f8⟩ := aw_facts
  obtain ⟨l1, l2, l3, l4, l5, l6, m1, m2⟩ := aw_lens
  go_enter Try.func12, Try.ntmps12
  go_wp2_with fail
  refine live_power.mono ?_
  rintro e w1 ⟨p, rfl, F1, h⟩
  have H1 := Lib.hid h
  clear h
  go_wp2_with fail
  refine (live_new H1.out (by decide) 4).mono ?_
  rintro e w2 ⟨g, rfl, F2, h, hf2, hb2⟩
  have H2 := Lib.hid (show Live w w2 p [g] aw1 F2 from h)
  clear h hf2 hb2 H1 
  go_wp2_with fail
  refine (sector_any 1 _).mono ?_
  rintro e w3 ⟨rfl, bw⟩
  have H3 := Lib.hid (H2.out.below bw)
  clear bw H2 
  go_wp2_with fail
  refine (live_write H3.out 0 (by rw [l1]; omega) 0 (secC 1) (secC_length _) (by rw [m1]; omega)).mono ?_
  rintro e w4 ⟨rfl, F4, h, hf4, hb4⟩
  rw [f1]
  have H4 := Lib.hid (show Live w w4 p [g] aw2 F4 from h)
  clear h hf4 hb4 H3 
  go_wp2_with fail
  refine (sector_any 2 _).mono ?_
  rintro e w5 ⟨rfl, bw⟩
  have H5 := Lib.hid (H4.out.below bw)
  clear bw H4 
  go_wp2_with fail
  refine (live_write H5.out 0 (by rw [l2]; omega) 1 (secC 2) (secC_length _) (by rw [m2]; omega)).mono ?_
  rintro e w6 ⟨rfl, F6, h, hf6, hb6⟩
  rw [f2]
  have H6 := Lib.hid (show Live w w6 p [g] aw3 F6 from h)
  clear h hf6 hb6 H5 
  go_wp2_with fail
  refine (live_tear H6.out 0 (by rw [l3]; omega) 1 2).mono ?_
  rintro e w7 ⟨rfl, F7, h, hf7, hb7⟩
  have H7 := Lib.hid (show Live w w7 p [g] aw4 F7 from h)
  clear h hf7 hb7 H6 
  go_wp2_with fail
  refine (live_fail H7.out 0 (by omega)).mono ?_
  rintro e w8 ⟨rfl, F8, h, hf8, hb8⟩
  have H8 := Lib.hid (show Live w w8 p [g] aw5 F8 from h)
  clear h hf8 hb8 H7 
  go_wp2_with fail
  refine (live_flush H8.out 0 (by rw [l5]; omega)).mono ?_
  rintro e w9 ⟨rfl, F9, h, hf9, hb9⟩
  rw [f3]
  have H9 := Lib.hid (show Live w w9 p [g] aw6 F9 from h)
  clear h hf9 hb9 H8 
  go_wp2_with fail
  refine (live_dump H9.out 0 (by rw [l6]; omega)).mono ?_
  rintro e w10 ⟨A10, n10, c10, rfl, hn10, hr10, bw⟩
  have H10 := Lib.hid (H9.out.below bw)
  have R10 := Lib.hid hr10
  have N10 := Lib.hid hn10
  clear bw hr10 hn10 H9 
  obtain rfl : 4 = n10 := f5.symm.trans N10.out
  have hrow := R10.out.1
  obtain ⟨q, rfl⟩ : ∃ q, A10 = some ⟨q, 0, none⟩ := by
    rcases own_addr8 hrow with ⟨_, h0, _⟩ | h0
    · omega
    · exact h0
  have HRD := Lib.hid (Rd.ownN hrow)
  clear hrow
  go_wp2_with fail
  obtain ⟨st, hst⟩ : ∃ st, st = (aw6.at 0).st := ⟨_, rfl⟩
  have hst1 := (H10.out.sys.ok (k := 0) (by rw [l6]; omega)).st
  rw [← hst] at HRD f5 f6 f7 f8 hst1
  have HRW := Lib.hid (show ∀ w', Below w10.heap.size w10 w' → ∀ j v, (svs st)[j]? = some v → w'.cell? ⟨q, j, none⟩ = some v from fun w' hb j v hv => by
    obtain ⟨ad, e1, _, hc⟩ := HRD.out.below hb j v hv
    injection e1 with e1; subst e1
    rw [← hc, Addr.add_mid, Nat.zero_add])
  have HC0 := Lib.hid (show ∀ w', Below w10.heap.size w10 w' → ∀ j v, (bv (secC 1))[j]? = some v → w'.cell? ((⟨q, 0, none⟩ : Addr).add j) = some v from fun w' hb j v hv => by
    have hz : st[0]'(by omega) = secC 1 := by rw [List.getElem?_eq_getElem (by omega)] at f6; injection f6
    have h := HRW.out w' hb _ v (svs_get hst1 (k := 0) (by omega) (hz ▸ hv))
    rw [Nat.mul_zero, Nat.zero_add] at h
    rw [Addr.add_mid, Nat.zero_add]; exact h)
  have hb1 : ∀ (j : Nat) (x : UInt8), j < 128 → (st.getD 1 []).getD j 0 = x → ∀ w', Below w10.heap.size w10 w' → w'.cell? ⟨q, 128 + j, none⟩ = some (.int .u8 (x.toNat : Int)) := fun j x hj hx w' hb => by
    have h1 : st.getD 1 [] = st[1]'(by omega) := by rw [List.getD_eq_getElem?_getD, List.getElem?_eq_getElem (by omega)]; rfl
    have hl1 : (st[1]'(by omega)).length = 128 := hst1 _ (List.getElem_mem _)
    have hv : (bv (st[1]'(by omega)))[j]? = some (.int .u8 (x.toNat : Int)) := by
      rw [bv, List.getElem?_map, List.getElem?_eq_getElem (by omega)]
      rw [h1, List.getD_eq_getElem?_getD, List.getElem?_eq_getElem (by omega)] at hx
      exact congrArg (fun z : UInt8 => some (Value.int .u8 (z.toNat : Int))) hx
    have h2 := svs_get hst1 (k := 1) (by omega) hv
    rw [Nat.mul_one] at h2
    exact HRW.out w' hb _ _ h2
  have HC1 := Lib.hid (hb1 1 2 (by omega) f7)
  have HC2 := Lib.hid (hb1 2 0 (by omega) f8)
  have heq := eq_sec (secC 1) (secC 1) (secC_length _) (secC_length _)
  simp only [decide_true] at heq
  have HI : Hid ((Try.prog.info? 38).map (·.size) = some (bv (secC 1)).length) := by rw [bv_length, secC_length]; exact info_sec
  clear hb1 HRD HRW f5 f6 f7 f8 hst1
  refine wp_region_held_drew (S := fun w' => Below w10.heap.size w10 w') (by kernel_rfl) (Below.refl _ _).drew (fun hh => ?_)
  have HH := Lib.hid hh
  clear hh
  refine wpAnyH_take (i := 0) (v := ?va0) rfl (by kernel_rfl) (by kernel_rfl) (by kernel_rfl) (fun _ _ _ h => h) (Or.inl ⟨by rfl, fun w' _ => ?ya0⟩) HH.out ?_
  case ya0 => (go_simp; try with_reducible rfl)
  refine wpAnyH_take (i := 1) (v := ?va1) rfl (by kernel_rfl) (by kernel_rfl) (by kernel_rfl) (fun _ _ _ h => h) (Or.inl ⟨by rfl, fun w' _ => ?ya1⟩) HH.out ?_
  case ya1 => (go_simp; try with_reducible rfl)
  try simp only [List.getElem_toArray, List.getElem_cons_succ, List.getElem_cons_zero, Act.put, List.setIfInBounds_toArray, List.set_cons_zero, List.set_cons_succ]
  refine wpAnyH_take (i := 2) (v := ?va2) rfl (by kernel_rfl) (by kernel_rfl) (by kernel_rfl) (fun _ _ _ h => h) (Or.inl ⟨by rfl, fun w' _ => ?ya2⟩) HH.out ?_
  case ya2 => (go_simp; try with_reducible rfl)
  try simp only [List.getElem_toArray, List.getElem_cons_succ, List.getElem_cons_zero, Act.put, List.setIfInBounds_toArray, List.set_cons_zero, List.set_cons_succ]
  refine wpAnyH_take (i := 3) (v := ?va3) rfl (by kernel_rfl) (by kernel_rfl) (by kernel_rfl) (fun _ _ _ h => h) (Or.inl ⟨by rfl, fun w' _ => ?ya3⟩) HH.out ?_
  case ya3 => (go_simp; try with_reducible rfl)
  try simp only [List.getElem_toArray, List.getElem_cons_succ, List.getElem_cons_zero, Act.put, List.setIfInBounds_toArray, List.set_cons_zero, List.set_cons_succ]
  refine wpAnyH_take (i := 4) (v := ?va4) rfl (by kernel_rfl) (by kernel_rfl) (by kernel_rfl) (fun _ _ _ h => h) (Or.inl ⟨by rfl, fun w' _ => ?ya4⟩) HH.out ?_
  case ya4 => (go_simp; try with_reducible rfl)
  try simp only [List.getElem_toArray, List.getElem_cons_succ, List.getElem_cons_zero, Act.put, List.setIfInBounds_toArray, List.set_cons_zero, List.set_cons_succ]
  refine wpAnyH_take (i := 5) (v := ?va5) rfl (by kernel_rfl) (by kernel_rfl) (by kernel_rfl) (fun _ _ _ h => h) (Or.inl ⟨by rfl, fun w' _ => ?ya5⟩) HH.out ?_
  case ya5 => (go_simp; try with_reducible rfl)
  refine wpAnyH_take (i := 6) (v := ?va6) rfl (by kernel_rfl) (by kernel_rfl) (by kernel_rfl) (fun _ _ _ h => h) (Or.inl ⟨by rfl, fun w' _ => ?ya6⟩) HH.out ?_
  case ya6 => (go_simp; try with_reducible rfl)
  try simp only [List.getElem_toArray, List.getElem_cons_succ, List.getElem_cons_zero, Act.put, List.setIfInBounds_toArray, List.set_cons_zero, List.set_cons_succ]
  refine wpAnyH_take (i := 7) (v := ?va7) rfl (by kernel_rfl) (by kernel_rfl) (by kernel_rfl) (fun _ _ _ h => h) (Or.inl ⟨by rfl, fun w' _ => ?ya7⟩) HH.out ?_
  case ya7 => (go_simp; try with_reducible rfl)
  try simp only [List.getElem_toArray, List.getElem_cons_succ, List.getElem_cons_zero, Act.put, List.setIfInBounds_toArray, List.set_cons_zero, List.set_cons_succ]
  refine wpAnyH_take (i := 8) (v := ?va8) rfl (by kernel_rfl) (by kernel_rfl) (by kernel_rfl) (fun _ _ _ h => h) (Or.inl ⟨by rfl, fun w' _ => ?ya8⟩) HH.out ?_
  case ya8 => (go_simp; try with_reducible rfl)
  refine wpAnyH_take (i := 9) (v := ?va9) rfl (by kernel_rfl) (by kernel_rfl) (by kernel_rfl) (fun _ _ _ h => h) (Or.inl ⟨by rfl, fun w' _ => ?ya9⟩) HH.out ?_
  case ya9 => (go_simp; try with_reducible rfl)
  refine wpAnyH_take (i := 10) (v := ?va10) rfl (by kernel_rfl) (by kernel_rfl) (by kernel_rfl) (fun _ _ _ h => h) (Or.inl ⟨by rfl, fun w' _ => ?ya10⟩) HH.out ?_
  case ya10 => (go_simp; try with_reducible rfl)
  try simp only [List.getElem_toArray, List.getElem_cons_succ, List.getElem_cons_zero, Act.put, List.setIfInBounds_toArray, List.set_cons_zero, List.set_cons_succ]
  refine wpAnyH_take (i := 11) (v := ?va11) rfl (by kernel_rfl) (by kernel_rfl) (by kernel_rfl) (fun _ _ _ h => h) (Or.inl ⟨by rfl, fun w' _ => ?ya11⟩) HH.out ?_
  case ya11 => (go_simp; try with_reducible rfl)
  try simp only [List.getElem_toArray, List.getElem_cons_succ, List.getElem_cons_zero, Act.put, List.setIfInBounds_toArray, List.set_cons_zero, List.set_cons_succ]
  refine wpAnyH_ready (rs := [12]) (by kernel_rfl) (by simp) (AllReadyH.cons rfl (fun K hK => ?_) AllReadyH.nil)
  go_simp
  refine (on_sys (H10.out.below HH.out).sys).mono ?_
  rintro e _ ⟨rfl, rfl⟩
  rw [f4]
  go_simp
  refine hK.out _ _ HH.out (fun hh => ?_)
  have HH' := Lib.hid hh
  clear hh hK K HH 
  have HH := Lib.hid HH'.out
  clear HH'
  try simp only [List.getElem_toArray, List.getElem_cons_succ, List.getElem_cons_zero, Act.put, List.setIfInBounds_toArray, List.set_cons_zero, List.set_cons_succ]
  refine wpAnyH_take (i := 13) (v := ?va13) rfl (by kernel_rfl) (by kernel_rfl) (by kernel_rfl) (fun _ _ _ h => h) (Or.inl ⟨by rfl, fun w' _ => ?ya13⟩) HH.out ?_
  case ya13 => (go_simp; try with_reducible rfl)
  try simp only [List.getElem_toArray, List.getElem_cons_succ, List.getElem_cons_zero, Act.put, List.setIfInBounds_toArray, List.set_cons_zero, List.set_cons_succ]
  refine wpAnyH_take (i := 14) (v := ?va14) rfl (by kernel_rfl) (by kernel_rfl) (by kernel_rfl) (fun _ _ _ h => h) (Or.inl ⟨by rfl, fun w' _ => ?ya14⟩) HH.out ?_
  case ya14 => (go_simp; try with_reducible rfl)
  refine wpAnyH_take (i := 15) (v := ?va15) rfl (by kernel_rfl) (by kernel_rfl) (by kernel_rfl) (fun _ _ _ h => h) (Or.inl ⟨by rfl, fun w' _ => ?ya15⟩) HH.out ?_
  case ya15 => (go_simp; try with_reducible rfl)
  try simp only [List.getElem_toArray, List.getElem_cons_succ, List.getElem_cons_zero, Act.put, List.setIfInBounds_toArray, List.set_cons_zero, List.set_cons_succ]
  refine wpAnyH_take (i := 16) (v := ?va16) rfl (by kernel_rfl) (by kernel_rfl) (by kernel_rfl) (fun _ _ _ h => h) (Or.inl ⟨by rfl, fun w' _ => ?ya16⟩) HH.out ?_
  case ya16 => (go_simp; try with_reducible rfl)
  try simp only [List.getElem_toArray, List.getElem_cons_succ, List.getElem_cons_zero, Act.put, List.setIfInBounds_toArray, List.set_cons_zero, List.set_cons_succ]
  refine wpAnyH_take (i := 17) (v := ?va17) rfl (by kernel_rfl) (by kernel_rfl) (by kernel_rfl) (fun _ _ _ h => h) (Or.inl ⟨by rfl, fun w' _ => ?ya17⟩) HH.out ?_
  case ya17 => (go_simp; try with_reducible rfl)
  try simp only [List.getElem_toArray, List.getElem_cons_succ, List.getElem_cons_zero, Act.put, List.setIfInBounds_toArray, List.set_cons_zero, List.set_cons_succ]
  refine wpAnyH_take (i := 18) (v := ?va18) rfl (by kernel_rfl) (by kernel_rfl) (by kernel_rfl) (fun _ _ _ h => h) (Or.inl ⟨by rfl, fun w' _ => ?ya18⟩) HH.out ?_
  case ya18 => (go_simp; try with_reducible rfl)
  refine wpAnyH_take (i := 19) (v := ?va19) rfl (by kernel_rfl) (by kernel_rfl) (by kernel_rfl) (fun _ _ _ h => h) (Or.inl ⟨by rfl, fun w' _ => ?ya19⟩) HH.out ?_
  case ya19 => (go_simp; try with_reducible rfl)
  try simp only [List.getElem_toArray, List.getElem_cons_succ, List.getElem_cons_zero, Act.put, List.setIfInBounds_toArray, List.set_cons_zero, List.set_cons_succ]
  refine wpAnyH_take (i := 20) (v := ?va20) rfl (by kernel_rfl) (by kernel_rfl) (by kernel_rfl) (fun _ _ _ h => h) (Or.inl ⟨by rfl, fun w' _ => ?ya20⟩) HH.out ?_
  case ya20 => (go_simp; try with_reducible rfl)
  try simp only [List.getElem_toArray, List.getElem_cons_succ, List.getElem_cons_zero, Act.put, List.setIfInBounds_toArray, List.set_cons_zero, List.set_cons_succ]
  refine wpAnyH_take (i := 21) (v := ?va21) rfl (by kernel_rfl) (by kernel_rfl) (by kernel_rfl) (fun _ _ _ h => h) (Or.inl ⟨by rfl, fun w' _ => ?ya21⟩) HH.out ?_
  case ya21 => (go_simp; try with_reducible rfl)
  try simp only [List.getElem_toArray, List.getElem_cons_succ, List.getElem_cons_zero, Act.put, List.setIfInBounds_toArray, List.set_cons_zero, List.set_cons_succ]
  refine wpAnyH_take (i := 22) (v := ?va22) rfl (by kernel_rfl) (by kernel_rfl) (by kernel_rfl) (fun _ _ _ h => h) (Or.inl ⟨by rfl, fun w' _ => ?ya22⟩) HH.out ?_
  case ya22 => (go_simp; try with_reducible rfl)
  try simp only [List.getElem_toArray, List.getElem_cons_succ, List.getElem_cons_zero, Act.put, List.setIfInBounds_toArray, List.set_cons_zero, List.set_cons_succ]
  refine wpAnyH_take (i := 23) (v := .agg (bva (secC 1))) rfl (by kernel_rfl) (by kernel_rfl) (by kernel_rfl) (fun _ _ _ h => h) (Or.inl ⟨by rfl, fun w' hw' => ?yl23⟩) HH.out ?_
  case yl23 => exact exec_load_at 38 (.tmp 52) rfl ⟨q, 0, none⟩ rfl (HC0.out w' hw') Try.underlying38 rfl HI.out
  try simp only [List.getElem_toArray, List.getElem_cons_succ, List.getElem_cons_zero, Act.put, List.setIfInBounds_toArray, List.set_cons_zero, List.set_cons_succ]
  refine wpAnyH_ready (rs := [24]) (by kernel_rfl) (by simp) (AllReadyH.cons rfl (fun K hK => ?_) AllReadyH.nil)
  go_simp
  refine (sector_any 1 _).mono ?_
  rintro e wv ⟨rfl, bw⟩
  go_simp
  refine hK.out _ _ (HH.out.trans (bw.mono HH.out.size)) (fun hh => ?_)
  have HH' := Lib.hid hh
  clear hh hK K HH bw
  have HH := Lib.hid HH'.out
  clear HH'
  try simp only [List.getElem_toArray, List.getElem_cons_succ, List.getElem_cons_zero, Act.put, List.setIfInBounds_toArray, List.set_cons_zero, List.set_cons_succ]
  refine wpAnyH_take (i := 25) (v := ?va25) rfl (by kernel_rfl) (by kernel_rfl) (by kernel_rfl) (fun _ _ _ h => h) (Or.inl ⟨by rfl, fun w' _ => ?ya25⟩) HH.out ?_
  case ya25 => (go_simp; try with_reducible rfl)
  try simp only [List.getElem_toArray, List.getElem_cons_succ, List.getElem_cons_zero, Act.put, List.setIfInBounds_toArray, List.set_cons_zero, List.set_cons_succ]
  refine wpAnyH_take (i := 26) (v := ?va26) rfl (by kernel_rfl) (by kernel_rfl) (by kernel_rfl) (fun _ _ _ h => h) (Or.inl ⟨by rfl, fun w' _ => ?ya26⟩) HH.out ?_
  case ya26 => (go_simp; try with_reducible rfl)
  refine wpAnyH_take (i := 27) (v := ?va27) rfl (by kernel_rfl) (by kernel_rfl) (by kernel_rfl) (fun _ _ _ h => h) (Or.inl ⟨by rfl, fun w' _ => ?ya27⟩) HH.out ?_
  case ya27 => (go_simp; try with_reducible rfl)
  try simp only [List.getElem_toArray, List.getElem_cons_succ, List.getElem_cons_zero, Act.put, List.setIfInBounds_toArray, List.set_cons_zero, List.set_cons_succ]
  refine wpAnyH_take (i := 28) (v := ?va28) rfl (by kernel_rfl) (by kernel_rfl) (by kernel_rfl) (fun _ _ _ h => h) (Or.inl ⟨by rfl, fun w' _ => ?ya28⟩) HH.out ?_
  case ya28 => (go_simp; try with_reducible rfl)
  try simp only [List.getElem_toArray, List.getElem_cons_succ, List.getElem_cons_zero, Act.put, List.setIfInBounds_toArray, List.set_cons_zero, List.set_cons_succ]
  refine wpAnyH_take (i := 29) (v := ?va29) rfl (by kernel_rfl) (by kernel_rfl) (by kernel_rfl) (fun _ _ _ h => h) (Or.inl ⟨by rfl, fun w' _ => ?ya29⟩) HH.out ?_
  case ya29 => (go_simp; try with_reducible rfl)
  try simp only [List.getElem_toArray, List.getElem_cons_succ, List.getElem_cons_zero, Act.put, List.setIfInBounds_toArray, List.set_cons_zero, List.set_cons_succ]
  refine wpAnyH_take (i := 30) (v := ?va30) rfl (by kernel_rfl) (by kernel_rfl) (by kernel_rfl) (fun _ _ _ h => h) (Or.inl ⟨by rfl, fun w' _ => ?ya30⟩) HH.out ?_
  case ya30 => (go_simp; try with_reducible rfl)
  refine wpAnyH_take (i := 31) (v := .int .u8 2) rfl (by kernel_rfl) (by kernel_rfl) (by kernel_rfl) (fun _ _ _ h => h) (Or.inl ⟨by rfl, fun w' hw' => ?yl31⟩) HH.out ?_
  case yl31 => (have hc := HC1.out w' hw'; go_simp; try with_reducible rfl)
  try simp only [List.getElem_toArray, List.getElem_cons_succ, List.getElem_cons_zero, Act.put, List.setIfInBounds_toArray, List.set_cons_zero, List.set_cons_succ]
  refine wpAnyH_take (i := 32) (v := ?va32) rfl (by kernel_rfl) (by kernel_rfl) (by kernel_rfl) (fun _ _ _ h => h) (Or.inl ⟨by rfl, fun w' _ => ?ya32⟩) HH.out ?_
  case ya32 => (go_simp; try with_reducible rfl)
  refine wpAnyH_take (i := 33) (v := ?va33) rfl (by kernel_rfl) (by kernel_rfl) (by kernel_rfl) (fun _ _ _ h => h) (Or.inl ⟨by rfl, fun w' _ => ?ya33⟩) HH.out ?_
  case ya33 => (go_simp; try with_reducible rfl)
  refine wpAnyH_take (i := 34) (v := ?va34) rfl (by kernel_rfl) (by kernel_rfl) (by kernel_rfl) (fun _ _ _ h => h) (Or.inl ⟨by rfl, fun w' _ => ?ya34⟩) HH.out ?_
  case ya34 => (go_simp; try with_reducible rfl)
  try simp only [List.getElem_toArray, List.getElem_cons_succ, List.getElem_cons_zero, Act.put, List.setIfInBounds_toArray, List.set_cons_zero, List.set_cons_succ]
  refine wpAnyH_take (i := 35) (v := ?va35) rfl (by kernel_rfl) (by kernel_rfl) (by kernel_rfl) (fun _ _ _ h => h) (Or.inl ⟨by rfl, fun w' _ => ?ya35⟩) HH.out ?_
  case ya35 => (go_simp; try with_reducible rfl)
  try simp only [List.getElem_toArray, List.getElem_cons_succ, List.getElem_cons_zero, Act.put, List.setIfInBounds_toArray, List.set_cons_zero, List.set_cons_succ]
  refine wpAnyH_take (i := 36) (v := ?va36) rfl (by kernel_rfl) (by kernel_rfl) (by kernel_rfl) (fun _ _ _ h => h) (Or.inl ⟨by rfl, fun w' _ => ?ya36⟩) HH.out ?_
  case ya36 => (go_simp; try with_reducible rfl)
  try simp only [List.getElem_toArray, List.getElem_cons_succ, List.getElem_cons_zero, Act.put, List.setIfInBounds_toArray, List.set_cons_zero, List.set_cons_succ]
  refine wpAnyH_take (i := 37) (v := ?va37) rfl (by kernel_rfl) (by kernel_rfl) (by kernel_rfl) (fun _ _ _ h => h) (Or.inl ⟨by rfl, fun w' _ => ?ya37⟩) HH.out ?_
  case ya37 => (go_simp; try with_reducible rfl)
  try simp only [List.getElem_toArray, List.getElem_cons_succ, List.getElem_cons_zero, Act.put, List.setIfInBounds_toArray, List.set_cons_zero, List.set_cons_succ]
  refine wpAnyH_take (i := 38) (v := .int .u8 0) rfl (by kernel_rfl) (by kernel_rfl) (by kernel_rfl) (fun _ _ _ h => h) (Or.inl ⟨by rfl, fun w' hw' => ?yl38⟩) HH.out ?_
  case yl38 => (have hc := HC2.out w' hw'; go_simp; try with_reducible rfl)
  try simp only [List.getElem_toArray, List.getElem_cons_succ, List.getElem_cons_zero, Act.put, List.setIfInBounds_toArray, List.set_cons_zero, List.set_cons_succ]
  refine wpAnyH_take (i := 39) (v := ?va39) rfl (by kernel_rfl) (by kernel_rfl) (by kernel_rfl) (fun _ _ _ h => h) (Or.inl ⟨by rfl, fun w' _ => ?ya39⟩) HH.out ?_
  case ya39 => (go_simp; try with_reducible rfl)
  refine wpAnyH_take (i := 40) (v := ?va40) rfl (by kernel_rfl) (by kernel_rfl) (by kernel_rfl) (fun _ _ _ h => h) (Or.inl ⟨by rfl, fun w' _ => ?ya40⟩) HH.out ?_
  case ya40 => (go_simp; try with_reducible rfl)
  try simp only [List.getElem_toArray, List.getElem_cons_succ, List.getElem_cons_zero, Act.put, List.setIfInBounds_toArray, List.set_cons_zero, List.set_cons_succ]
  refine wpAnyH_take (i := 41) (v := ?va41) rfl (by kernel_rfl) (by kernel_rfl) (by kernel_rfl) (fun _ _ _ h => h) (Or.inl ⟨by rfl, fun w' _ => ?ya41⟩) HH.out ?_
  case ya41 => (go_simp; try with_reducible rfl)
  try simp only [List.getElem_toArray, List.getElem_cons_succ, List.getElem_cons_zero, Act.put, List.setIfInBounds_toArray, List.set_cons_zero]
  refine wpAnyH_done (by kernel_rfl) ?_ _
  go_wp2_with fail
  go_ret
  exact ⟨rfl, H10.out.bel.trans (HH.out.mono H10.out.bel.size)⟩
end Go.Proofs.Ytolbffcbamfbeaa.Kd
