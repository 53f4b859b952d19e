/-
  The law ScrubAll holds: of any two devices as many places are right, healed and lost as the document says; both have then what it says. For any rows of pairs.
-/
import Derived.Test.YtniamllcoemikaaMt1
import Derived.OrdersHeld
import Derived.Deep.RegionHeld
import Derived.Test.YtniamllcoemikaaRows
import Derived.ProofKit
import Derived.OpenShut
import Derived.ShutString
import Derived.ChangeOld
namespace Go.Proofs.Ytniamllcoemikaa
open Go.RowKit Kd Mi Sc Go.ChangeShapes Go.WideShapes Go.ChangeAt
attribute [local go_sem ↓] Go.wp_at_zero Go.wp_at_succ
set_option maxRecDepth 100000 in
set_option maxHeartbeats 25600000 in
theorem scrubAll_any (w : World) (A : Option Addr) (N c : Nat) (l : List (UInt8 × UInt8)) (hl : l.length = N) (_ : N ≤ c) (_ : c ≤ maxLen) (hr : Rd w.heap.size w A (prs l)) (D : Option Addr) (M d : Nat) (r : List (UInt8 × UInt8)) (hl' : r.length = M) (_ : M ≤ d) (_ : d ≤ maxLen) (hr' : Rd w.heap.size w D (prs r)) : Calls Try.prog 3 #[.slice A N c, .slice D M d] w (RetB (.bool true) w) := by
  obtain ⟨z, hz0⟩ : ∃ z : List UInt8, z = zeroS := ⟨_, rfl⟩
  have hz : ∀ W, (zeroValue 37).run Try.prog W = .ok (.agg (bva z)) W := fun _ => by rw [hz0]; kernel_rfl
  have HZ3 := Lib.hid (show z.length = 128 by rw [hz0]; exact zeroS_length)
  clear hz0
  have HL := Lib.hid hl
  have HR := Lib.hid hr
  have HL' := Lib.hid hl'
  have HR' := Lib.hid hr'
  have B0 := Lib.hid (Below.refl w.heap.size w)
  clear hl hr hl' hr'
  go_enter Try.func3, Try.ntmps3
  go_wp2_with fail
  have hc := Sc.awake_any w
  refine hc.mono ?_
  clear hc
  rintro e w1 ⟨rfl, bw⟩
  have B1 := Lib.hid (B0.out.trans (bw.mono B0.out.size))
  clear bw B0
  by_cases hbig : 12 < N
  · have n1 : (12 : Int) < (N : Int) := by omega
    go_wp2_with fail
    refine (Sc.awake_any w1).mono ?_
    rintro e wz ⟨rfl, bz⟩
    go_wp2_with fail
    go_ret
    exact ⟨rfl, B1.out.trans (bz.mono B1.out.size)⟩
  by_cases hbig' : 12 < M
  · have n0 : ¬ (12 : Int) < (N : Int) := by omega
    have n1 : (12 : Int) < (M : Int) := by omega
    go_wp2_with fail
    refine (Sc.awake_any w1).mono ?_
    rintro e wz ⟨rfl, bz⟩
    go_wp2_with fail
    go_ret
    exact ⟨rfl, B1.out.trans (bz.mono B1.out.size)⟩
  have n0 : ¬ (12 : Int) < (N : Int) := by omega
  have n1 : ¬ (12 : Int) < (M : Int) := by omega
  have HNB := Lib.hid (show N ≤ 12 ∧ M ≤ 12 by omega)
  clear hbig hbig'
  obtain ⟨k, hk⟩ : ∃ k, k = min N M := ⟨_, rfl⟩
  obtain ⟨L0, hL0⟩ : ∃ L0, L0 = (l.take k).map sec2 := ⟨_, rfl⟩
  obtain ⟨L1, hL1⟩ : ∃ L1, L1 = (r.take k).map sec2 := ⟨_, rfl⟩
  have HP := Lib.hid (pair_any w1 B1.out.size (c := c) (d := d) HL.out HL'.out (HR.out.below B1.out) (HR'.out.below B1.out) HNB.out.1 HNB.out.2)
  rw [← hk, ← hL0, ← hL1] at HP
  have HKB := Lib.hid (show k ≤ 12 by have := HNB.out; omega)
  have HL0 := Lib.hid (show L0.length = k by rw [hL0, List.length_map, List.length_take, HL.out]; omega)
  have HL1 := Lib.hid (show L1.length = k by rw [hL1, List.length_map, List.length_take, HL'.out]; omega)
  have H03 := Lib.hid (show ∀ x ∈ L0, x.length = 128 by rw [hL0]; intro x hx; obtain ⟨y, _, rfl⟩ := List.mem_map.1 hx; exact sec2_length y)
  have H13 := Lib.hid (show ∀ x ∈ L1, x.length = 128 by rw [hL1]; intro x hx; obtain ⟨y, _, rfl⟩ := List.mem_map.1 hx; exact sec2_length y)
  have HFR := Lib.hid (start_fresh HL0.out HL1.out)
  clear hk hL0 hL1
  go_wp2_with fail
  have hc := HP.out
  refine hc.mono ?_
  clear hc
  rintro e w2 ⟨pw, g1, g2, g, s2, F2, U, V, cu, cv, rfl, h, hu, hv⟩
  have H2 := Lib.hid (show Mu.LM pw g1 g2 gG g w1 w2 s2 F2 (startM L0 L1 k) 0 from h)
  have RU2 := Lib.hid hu
  have RV2 := Lib.hid hv
  clear h hu hv
  clear HP
  go_wp2_with (show wpList _ _ _ ({ dst := none, op := .store 27 (.tmp 8) (.tmp 36), type := _, pos := _, after := _, guard := _ } :: _) _ _; apply Classical.byContradiction; intro hneg)
  refine hneg ?_
  clear hneg
  refine wpList_store_row rfl 27 (.tmp 8) (.tmp 36) rfl w2.heap.size #[.slice U k cu, .slice V k cv] rfl rfl 27 #[.slice none 0 0, .slice none 0 0] (heap_alloc_new _ _) secsAV_info rfl (by simp [Value.oneCell']) ?_
  obtain ⟨w3, hw3⟩ : ∃ w3, w3 = (w2.alloc (.cells #[.slice none 0 0, .slice none 0 0] 27)).setRow w2.heap.size #[.slice U k cu, .slice V k cv] := ⟨_, rfl⟩
  have bw : Below w2.heap.size w2 w3 := by rw [hw3]; exact below_setRow ((Below.refl _ _).alloc (Nat.le_refl _) _) (Nat.le_refl _) _
  have hbx : Blk w3 w2.heap.size #[.slice U k cu, .slice V k cv] 27 := by rw [hw3]; exact setRow_heap _ _ _ _ _ _ (heap_alloc_new _ _)
  rw [← hw3]
  clear hw3
  obtain ⟨b3, hb3⟩ : ∃ b3, b3 = w2.heap.size := ⟨_, rfl⟩
  rw [← hb3] at hbx
  rw [← hb3]
  have BS3 := Lib.hid (show Bx w1 w3 F2 b3 #[.slice U k cu, .slice V k cv] 27 from ⟨hbx, by rw [hb3]; exact H2.out.live.bel.size, fun hf => by have := (ML (Mu.one pw g1 g2) gG g).lt H2.out.live.at_ _ hf; omega⟩)
  clear hb3 hbx
  have RU3 := Lib.hid (RU2.out.below bw)
  have RV3 := Lib.hid (RV2.out.below bw)
  clear RU2 RV2
  have H3 := Lib.hid (H2.out.below bw)
  clear bw H2
  obtain ⟨h1, h2, h3, h4⟩ := HFR.out.run (f := goodN) k (Nat.le_refl _)
  obtain ⟨x1, hx1⟩ : ∃ x1, x1 = (mdRun goodN (startM L0 L1 k, Wk.zero) k).1 := ⟨_, rfl⟩
  rw [← hx1] at h1 h3 h4
  obtain ⟨cr, hcr⟩ : ∃ cr, cr = (cntK goodN L0 L1 k).r := ⟨_, rfl⟩
  obtain ⟨ch, hch⟩ : ∃ ch, ch = (cntK goodN L0 L1 k).h := ⟨_, rfl⟩
  obtain ⟨cl, hcl⟩ : ∃ cl, cl = (cntK goodN L0 L1 k).l := ⟨_, rfl⟩
  have HREP := Lib.hid (show (cntK goodN L0 L1 k).rep = #[.int .i64 cr, .int .i64 ch, .int .i64 cl] by rw [rep_form, hcr, hch, hcl])
  have HRV := Lib.hid (show (mdRun gG.f (startM L0 L1 k, Wk.zero) (startM L0 L1 k).a.length).2.rep = #[.int .i64 cr, .int .i64 ch, .int .i64 cl] by rw [start_len, ← HREP.out]; exact congrArg Wk.rep h2)
  have HRX := Lib.hid (show (mdRun gG.f (startM L0 L1 k, Wk.zero) (startM L0 L1 k).a.length).1 = x1 by rw [start_len, hx1]; rfl)
  have HLN := Lib.hid (show (startM L0 L1 k).a.length = k from start_len (L0 := L0) (L1 := L1))
  have HIS := Lib.hid (show ∀ w, Calls Try.prog 19 #[.agg #[.int .i64 cr, .int .i64 ch, .int .i64 cl], .agg #[.int .i64 cr, .int .i64 ch, .int .i64 cl]] w (RetB (.int .i64 1) w) from fun w => by have hc := is_any w cr ch cl cr ch cl; rwa [if_pos ⟨rfl, rfl, rfl⟩] at hc)
  have HD0 := Lib.hid (show ∀ j, j < k → (if x1.o0 = false ∧ (0 : Int) ≤ (j : Int) ∧ (j : Int) < (x1.a.length : Int) then x1.l0.getD (j : Int).toNat zeroS else zeroS) = hl0 goodN j (L0.getD j zeroS) (L1.getD j zeroS) from fun j hj => by
    rw [if_pos ⟨h1.o0, by omega, by rw [h1.len]; omega⟩, Int.toNat_natCast, h3 j hj, if_pos hj]; rfl)
  have HD1 := Lib.hid (show ∀ j, j < k → (if x1.o1 = false ∧ (0 : Int) ≤ (j : Int) ∧ (j : Int) < (x1.a.length : Int) then x1.l1.getD (j : Int).toNat zeroS else zeroS) = hl1 goodN j (L0.getD j zeroS) (L1.getD j zeroS) from fun j hj => by
    rw [if_pos ⟨h1.o1, by omega, by rw [h1.len]; omega⟩, Int.toNat_natCast, h4 j hj, if_pos hj]; rfl)
  have HE0 := Lib.hid (show ∀ j, j < k → (if x1.o0 = true then (13 : Int) else if (j : Int) < 0 ∨ (x1.a.length : Int) ≤ (j : Int) then 2 else 0) = 0 from fun j hj => by
    rw [h1.o0, if_neg (by simp), if_neg (by rw [h1.len]; omega)])
  have HE1 := Lib.hid (show ∀ j, j < k → (if x1.o1 = true then (13 : Int) else if (j : Int) < 0 ∨ (x1.a.length : Int) ≤ (j : Int) then 2 else 0) = 0 from fun j hj => by
    rw [h1.o1, if_neg (by simp), if_neg (by rw [h1.len]; omega)])
  clear h1 h2 h3 h4 hx1 hcr hch hcl
  go_upto_region 4 with fail
  refine wp_region_held_drew (S := fun w' => Blk w' b3 #[.slice U k cu, .slice V k cv] 27) (by kernel_rfl) (BS3.out.1.below (Below.refl _ _).drew) (fun hh => ?_)
  have HH := Lib.hid hh
  clear hh
  refine wpAnyH_take (i := 0) (v := ?vA0) rfl (by kernel_rfl) (by kernel_rfl) (by kernel_rfl) (fun _ _ _ h => h) (Or.inl ⟨by rfl, fun w' _ => ?yA0⟩) HH.out ?_
  case yA0 => (go_simp; try with_reducible rfl)
  refine wpAnyH_take (i := 2) (v := ?vA2) rfl (by kernel_rfl) (by kernel_rfl) (by kernel_rfl) (fun _ _ _ h => h) (Or.inl ⟨by rfl, fun w' _ => ?yA2⟩) HH.out ?_
  case yA2 => (go_simp; try with_reducible rfl)
  try simp only [List.getElem_toArray, List.getElem_cons_succ, List.getElem_cons_zero, Act.put, List.setIfInBounds_toArray, List.set_cons_zero, List.set_cons_succ]
  refine wpAnyH_take (i := 3) (v := .slice U k cu) rfl (by kernel_rfl) (by kernel_rfl) (by kernel_rfl) (fun _ _ _ h => h) (Or.inl ⟨by rfl, fun w' hw' => ?yA3⟩) HH.out ?_
  case yA3 => (have hc : w'.cell? ⟨b3, 0, none⟩ = some (.slice U k cu) := hw'.cell 0; go_simp; try with_reducible rfl)
  refine wpAnyH_take (i := 4) (v := ?vA4) rfl (by kernel_rfl) (by kernel_rfl) (by kernel_rfl) (fun _ _ _ h => h) (Or.inl ⟨by rfl, fun w' _ => ?yA4⟩) HH.out ?_
  case yA4 => (go_simp; try with_reducible rfl)
  refine wpAnyH_take (i := 5) (v := .slice V k cv) rfl (by kernel_rfl) (by kernel_rfl) (by kernel_rfl) (fun _ _ _ h => h) (Or.inl ⟨by rfl, fun w' hw' => ?yA5⟩) HH.out ?_
  case yA5 => (have hc : w'.cell? ⟨b3, 1, none⟩ = some (.slice V k cv) := hw'.cell 1; go_simp; try with_reducible rfl)
  try simp only [List.getElem_toArray, List.getElem_cons_succ, List.getElem_cons_zero, Act.put, List.setIfInBounds_toArray, List.set_cons_zero, List.set_cons_succ]
  refine wpAnyH_ready (rs := [1]) (by kernel_rfl) (by simp) (AllReadyH.cons rfl (fun K hK => ?_) AllReadyH.nil)
  go_simp
  have hc := lm_all (H3.out.below (Below.refl _ _).drew) (by rw [HLN.out]; have := HKB.out; omega) (by omega)
  rw [HRV.out, HRX.out] at hc
  refine hc.mono ?_
  clear hc
  rintro e v1 ⟨rfl, s1, F1, h, hm⟩
  have H9 := Lib.hid (show Mu.LM pw g1 g2 gG g w1 v1 s1 F1 x1 (0 + (startM L0 L1 k).a.length) from h)
  have BS9 := Lib.hid (bx_dev (BS3.out.below (Below.refl _ _).drew) hm.new hm.but)
  have RU9 := Lib.hid ((RU3.out.below (Below.refl _ _).drew).step hm.new hm.but)
  have RV9 := Lib.hid ((RV3.out.below (Below.refl _ _).drew).step hm.new hm.but)
  go_simp
  refine hK.out _ _ BS9.out.1 (fun hh => ?_)
  have HH' := Lib.hid hh
  clear hh hK K HH h hm H3 BS3 RU3 RV3
  have HH := Lib.hid HH'.out
  clear HH'
  try simp only [List.getElem_toArray, List.getElem_cons_succ, List.getElem_cons_zero, Act.put, List.setIfInBounds_toArray, List.set_cons_zero, List.set_cons_succ]
  refine wpAnyH_ready (rs := [6]) (by kernel_rfl) (by simp) (AllReadyH.cons rfl (fun K hK => ?_) AllReadyH.nil)
  go_simp
  have hc := rall_any (Nat.le_refl v1.heap.size) (c := cu) (d := cv) HL0.out HL1.out H03.out H13.out (Rd.ownN RU9.out.1) (Rd.ownN RV9.out.1) (by have := HKB.out; omega)
  rw [HREP.out] at hc
  refine hc.mono ?_
  clear hc
  rintro e v2 ⟨rfl, bw⟩
  have H10 := Lib.hid (H9.out.below bw)
  have BS10 := Lib.hid (BS9.out.below bw)
  have RU10 := Lib.hid (RU9.out.below bw)
  have RV10 := Lib.hid (RV9.out.below bw)
  go_simp
  refine hK.out _ _ BS10.out.1 (fun hh => ?_)
  have HH' := Lib.hid hh
  clear hh hK K HH bw H9 BS9 RU9 RV9
  have HH := Lib.hid HH'.out
  clear HH'
  try simp only [List.getElem_toArray, List.getElem_cons_succ, List.getElem_cons_zero, Act.put, List.setIfInBounds_toArray, List.set_cons_zero, List.set_cons_succ]
  refine wpAnyH_ready (rs := [7]) (by kernel_rfl) (by simp) (AllReadyH.cons rfl (fun K hK => ?_) AllReadyH.nil)
  go_simp
  refine (HIS.out _).mono ?_
  rintro e v3 ⟨rfl, bw⟩
  have H11 := Lib.hid (H10.out.below bw)
  have BS11 := Lib.hid (BS10.out.below bw)
  have RU11 := Lib.hid (RU10.out.below bw)
  have RV11 := Lib.hid (RV10.out.below bw)
  go_simp
  refine hK.out _ _ BS11.out.1 (fun hh => ?_)
  have HH' := Lib.hid hh
  clear hh hK K HH bw H10 BS10 RU10 RV10
  have HH := Lib.hid HH'.out
  clear HH'
  try simp only [List.getElem_toArray, List.getElem_cons_succ, List.getElem_cons_zero, Act.put, List.setIfInBounds_toArray, List.set_cons_zero, List.set_cons_succ]
  refine wpAnyH_take (i := 8) (v := ?vA8) rfl (by kernel_rfl) (by kernel_rfl) (by kernel_rfl) (fun _ _ _ h => h) (Or.inl ⟨by rfl, fun w' _ => ?yA8⟩) HH.out ?_
  case yA8 => (go_simp; try with_reducible rfl)
  try simp only [List.getElem_toArray, List.getElem_cons_succ, List.getElem_cons_zero, Act.put, List.setIfInBounds_toArray, List.set_cons_zero, List.set_cons_succ]
  refine wpAnyH_done (by kernel_rfl) ?_ _
  clear HH HIS
  have hbc : v3.cell? ⟨b3, 0, none⟩ = some (.slice U k cu) := BS11.out.1.cell 0
  go_wp2_with fail
  clear hbc
  go_loopw [49] (fun i wr => ∃ (j : Nat), j ≤ k ∧ i = .int .i64 j ∧ Below v3.heap.size v3 wr) (fun i _ => k - (intOf i).toNat)
  case atStart => exact ⟨0, Nat.zero_le _, rfl, Below.refl _ _⟩
  case round =>
    obtain ⟨j, hj, rfl, hb⟩ := hrel
    have HJ := Lib.hid hj
    have HW := Lib.hid hb
    clear hj hb
    by_cases hlt : j < k
    · have HLT := Lib.hid hlt
      have j0 : (0 : Int) ≤ (j : Int) := by omega
      have j1 : (j : Int) < (k : Int) := by omega
      have wj : IntKind.i64.wrap ((j : Int) + 1) = ((j + 1 : Nat) : Int) := IntWalk.i64_in _ (by have := HKB.out; omega)
      have H := Lib.hid (H11.out.below HW.out)
      have BS := Lib.hid (BS11.out.below HW.out)
      have RU := Lib.hid (RU11.out.below HW.out)
      have RV := Lib.hid (RV11.out.below HW.out)
      have hj0 : j < L0.length := by rw [HL0.out]; exact hlt
      have hj1 : j < L1.length := by rw [HL1.out]; exact hlt
      obtain ⟨u, hu⟩ : ∃ u, u = L0.getD j zeroS := ⟨_, rfl⟩
      obtain ⟨v, hv⟩ : ∃ v, v = L1.getD j zeroS := ⟨_, rfl⟩
      have hu' : u = L0[j] := by rw [hu, List.getD_eq_getElem?_getD, List.getElem?_eq_getElem hj0]; rfl
      have hv' : v = L1[j] := by rw [hv, List.getD_eq_getElem?_getD, List.getElem?_eq_getElem hj1]; rfl
      obtain ⟨ad, hA1, hz1, hz2⟩ := rd_sec (Rd.ownN RU.out.1) H03.out hj0
      obtain ⟨ae, hA2, hz3, hz4⟩ := rd_sec (Rd.ownN RV.out.1) H13.out hj1
      subst hA1 hA2
      have HU3 := Lib.hid (show u.length = 128 by rw [hu']; exact H03.out _ (List.getElem_mem hj0))
      have HV3 := Lib.hid (show v.length = 128 by rw [hv']; exact H13.out _ (List.getElem_mem hj1))
      have HIU := Lib.hid (show (Try.prog.info? 37).map (·.size) = some (bv u).length by rw [bv_length, HU3.out]; exact info_sec)
      have HIV := Lib.hid (show (Try.prog.info? 37).map (·.size) = some (bv v).length by rw [bv_length, HV3.out]; exact info_sec)
      have HC1 := Lib.hid (show ∀ w', Below wr.heap.size wr w' → ∀ i x, (bv u)[i]? = some x → w'.cell? ((ad.add (j * 128)).add i) = some x from fun w' hb i x hx => by
        obtain ⟨a2, h1, _, h2⟩ := rd_sec ((Rd.ownN RU.out.1).below hb) H03.out hj0
        injection h1 with h1; subst h1
        exact h2 i x (by rw [← hu']; exact hx))
      have HC2 := Lib.hid (show ∀ w', Below wr.heap.size wr w' → ∀ i x, (bv v)[i]? = some x → w'.cell? ((ae.add (j * 128)).add i) = some x from fun w' hb i x hx => by
        obtain ⟨a2, h1, _, h2⟩ := rd_sec ((Rd.ownN RV.out.1).below hb) H13.out hj1
        injection h1 with h1; subst h1
        exact h2 i x (by rw [← hv']; exact hx))
      obtain ⟨y0, hy0⟩ : ∃ y0, y0 = hl0 goodN j u v := ⟨_, rfl⟩
      obtain ⟨y1, hy1⟩ : ∃ y1, y1 = hl1 goodN j u v := ⟨_, rfl⟩
      have HY0 := Lib.hid (show y0.length = 128 by rw [hy0, hl0]; split; exact HU3.out; split; exact HV3.out; exact HU3.out)
      have HY1 := Lib.hid (show y1.length = 128 by rw [hy1, hl1]; split; exact HU3.out; exact HV3.out)
      have HIY0 : Hid ((Try.prog.info? 37).map (·.size) = some (bva y0).size) := by rw [bva_size, HY0.out]; exact info_sec
      have HIY1 : Hid ((Try.prog.info? 37).map (·.size) = some (bva y1).size) := by rw [bva_size, HY1.out]; exact info_sec
      have HHE := Lib.hid (show ∀ w, Calls Try.prog 22 #[.int .i64 j, .agg (bva u), .agg (bva v)] w (RetB (.tuple #[.agg (bva y0), .agg (bva y1)]) w) from fun w => by rw [hy0, hy1]; exact rhealed_any w j u v HU3.out HV3.out)
      have HX0 := Lib.hid ((HD0.out j HLT.out).trans (show _ = y0 by rw [hy0, hu, hv]))
      have HX1 := Lib.hid ((HD1.out j HLT.out).trans (show _ = y1 by rw [hy1, hu, hv]))
      have HQ0 := Lib.hid (show ∀ W, (Op.equalIn 10000 37 (.agg (bva y0)) (.agg (bva y0))).run Try.prog W = .ok true W from fun W => by rw [eq_sec y0 y0 HY0.out HY0.out, decide_eq_true rfl])
      have HQ1 := Lib.hid (show ∀ W, (Op.equalIn 10000 37 (.agg (bva y1)) (.agg (bva y1))).run Try.prog W = .ok true W from fun W => by rw [eq_sec y1 y1 HY1.out HY1.out, decide_eq_true rfl])
      clear hz1 hz2 hz3 hz4 hlt hu hv hu' hv' hj0 hj1 hy0 hy1
      go_upto_region 9 with fail
      go_cut [10, 11] (fun a10 a11 wx => ∃ X Y, a10 = .pointer (some ⟨X, 0, none⟩) ∧ a11 = .pointer (some ⟨Y, 0, none⟩) ∧ Blk wx X (bva y0) 37 ∧ Blk wx Y (bva y1) 37 ∧ Below wr.heap.size wr wx)
      case first =>
        go_wp2_with fail

        refine wp_region_held_drew (S := fun w' => Below wr.heap.size wr w') (by kernel_rfl) (Below.refl _ _).drew (fun hh => ?_)
        have HH := Lib.hid hh
        clear hh
        refine wpAnyH_take (i := 0) (v := ?vN0) rfl (by kernel_rfl) (by kernel_rfl) (by kernel_rfl) (fun _ _ _ h => h) (Or.inl ⟨by rfl, fun w' _ => ?yN0⟩) HH.out ?_
        case yN0 => (go_simp; try with_reducible rfl)
        refine wpAnyH_take (i := 1) (v := ?vN1) rfl (by kernel_rfl) (by kernel_rfl) (by kernel_rfl) (fun _ _ _ h => h) (Or.inl ⟨by rfl, fun w' _ => ?yN1⟩) HH.out ?_
        case yN1 => (go_simp; try with_reducible rfl)
        try simp only [List.getElem_toArray, List.getElem_cons_succ, List.getElem_cons_zero, Act.put, List.setIfInBounds_toArray, List.set_cons_zero, List.set_cons_succ]
        refine wpAnyH_take (i := 2) (v := .slice (some ad) k cu) rfl (by kernel_rfl) (by kernel_rfl) (by kernel_rfl) (fun _ _ _ h => h) (Or.inl ⟨by rfl, fun w' hw' => ?yN2⟩) HH.out ?_
        case yN2 => (have hc : w'.cell? ⟨b3, 0, none⟩ = some (.slice (some ad) k cu) := (BS.out.1.below hw').cell 0; go_simp; try with_reducible rfl)
        refine wpAnyH_take (i := 3) (v := ?vN3) rfl (by kernel_rfl) (by kernel_rfl) (by kernel_rfl) (fun _ _ _ h => h) (Or.inl ⟨by rfl, fun w' _ => ?yN3⟩) HH.out ?_
        case yN3 => (go_simp; try with_reducible rfl)
        refine wpAnyH_take (i := 4) (v := ?vN4) rfl (by kernel_rfl) (by kernel_rfl) (by kernel_rfl) (fun _ _ _ h => h) (Or.inl ⟨by rfl, fun w' _ => ?yN4⟩) HH.out ?_
        case yN4 => (go_simp; try with_reducible rfl)
        try simp only [List.getElem_toArray, List.getElem_cons_succ, List.getElem_cons_zero, Act.put, List.setIfInBounds_toArray, List.set_cons_zero, List.set_cons_succ]
        refine wpAnyH_take (i := 5) (v := .agg (bva u)) rfl (by kernel_rfl) (by kernel_rfl) (by kernel_rfl) (fun _ _ _ h => h) (Or.inl ⟨by rfl, fun w' hw' => ?yN5⟩) HH.out ?_
        case yN5 => exact exec_load_at 37 (.tmp 57) rfl (ad.add (j * 128)) rfl (HC1.out w' hw') Try.underlying37 rfl HIU.out
        refine wpAnyH_take (i := 6) (v := ?vN6) rfl (by kernel_rfl) (by kernel_rfl) (by kernel_rfl) (fun _ _ _ h => h) (Or.inl ⟨by rfl, fun w' _ => ?yN6⟩) HH.out ?_
        case yN6 => (go_simp; try with_reducible rfl)
        refine wpAnyH_take (i := 7) (v := .slice (some ae) k cv) rfl (by kernel_rfl) (by kernel_rfl) (by kernel_rfl) (fun _ _ _ h => h) (Or.inl ⟨by rfl, fun w' hw' => ?yN7⟩) HH.out ?_
        case yN7 => (have hc : w'.cell? ⟨b3, 1, none⟩ = some (.slice (some ae) k cv) := (BS.out.1.below hw').cell 1; go_simp; try with_reducible rfl)
        try simp only [List.getElem_toArray, List.getElem_cons_succ, List.getElem_cons_zero, Act.put, List.setIfInBounds_toArray, List.set_cons_zero, List.set_cons_succ]
        refine wpAnyH_take (i := 8) (v := ?vN8) rfl (by kernel_rfl) (by kernel_rfl) (by kernel_rfl) (fun _ _ _ h => h) (Or.inl ⟨by rfl, fun w' _ => ?yN8⟩) HH.out ?_
        case yN8 => (go_simp; try with_reducible rfl)
        refine wpAnyH_take (i := 9) (v := ?vN9) rfl (by kernel_rfl) (by kernel_rfl) (by kernel_rfl) (fun _ _ _ h => h) (Or.inl ⟨by rfl, fun w' _ => ?yN9⟩) HH.out ?_
        case yN9 => (go_simp; try with_reducible rfl)
        refine wpAnyH_take (i := 10) (v := .agg (bva v)) rfl (by kernel_rfl) (by kernel_rfl) (by kernel_rfl) (fun _ _ _ h => h) (Or.inl ⟨by rfl, fun w' hw' => ?yN10⟩) HH.out ?_
        case yN10 => exact exec_load_at 37 (.tmp 62) rfl (ae.add (j * 128)) rfl (HC2.out w' hw') Try.underlying37 rfl HIV.out
        try simp only [List.getElem_toArray, List.getElem_cons_succ, List.getElem_cons_zero, Act.put, List.setIfInBounds_toArray, List.set_cons_zero, List.set_cons_succ]
        obtain ⟨wq, hwq⟩ : ∃ wq, wq = wr.drew := ⟨_, rfl⟩
        have BQ := Lib.hid (show Below wr.heap.size wr wq by rw [hwq]; exact (Below.refl _ _).drew)
        rw [← hwq]
        clear HH hwq
        have HH := Lib.hid BQ.out
        refine wpAnyH_ready (rs := [11, 15, 16]) (by kernel_rfl) (by simp) (AllReadyH.cons rfl (fun K hK => ?_) (AllReadyH.cons rfl (fun K hK => ?_) (AllReadyH.cons rfl (fun K hK => ?_) AllReadyH.nil)))
        · go_simp
          refine (HHE.out _).mono ?_
          rintro e z1 ⟨rfl, bw⟩
          have BB1 := Lib.hid (BQ.out.trans (bw.mono BQ.out.size))
          go_simp
          refine hK.out _ _ BB1.out (fun hh => ?_)
          have HH' := Lib.hid hh
          clear hh hK K HH bw
          have HH := Lib.hid HH'.out
          clear HH'
          try simp only [List.getElem_toArray, List.getElem_cons_succ, List.getElem_cons_zero, Act.put, List.setIfInBounds_toArray, List.set_cons_zero, List.set_cons_succ]
          refine wpAnyH_take (i := 12) (v := ?vM12) rfl (by kernel_rfl) (by kernel_rfl) (by kernel_rfl) (fun _ _ _ h => h) (Or.inl ⟨by rfl, fun w' _ => ?yM12⟩) HH.out ?_
          case yM12 => (go_simp; try with_reducible rfl)
          refine wpAnyH_take (i := 13) (v := ?vM13) rfl (by kernel_rfl) (by kernel_rfl) (by kernel_rfl) (fun _ _ _ h => h) (Or.inl ⟨by rfl, fun w' _ => ?yM13⟩) HH.out ?_
          case yM13 => (go_simp; try with_reducible rfl)
          refine wpAnyH_take (i := 14) (v := ?vM14) rfl (by kernel_rfl) (by kernel_rfl) (by kernel_rfl) (fun _ _ _ h => h) (Or.inl ⟨by rfl, fun w' _ => ?yM14⟩) HH.out ?_
          case yM14 => (go_simp; try with_reducible rfl)
          try simp only [List.getElem_toArray, List.getElem_cons_succ, List.getElem_cons_zero, Act.put, List.setIfInBounds_toArray, List.set_cons_zero, List.set_cons_succ]
          refine wpAnyH_ready (rs := [15, 16]) (by kernel_rfl) (by simp) (AllReadyH.cons rfl (fun K hK => ?_) (AllReadyH.cons rfl (fun K hK => ?_) AllReadyH.nil))
          · go_simp
            have BB2 := Lib.hid (BB1.out.alloc BB1.out.size (.cells (bva z) 37))
            have X2 := Lib.hid (show Blk (z1.alloc (.cells (bva z) 37)) z1.heap.size (bva z) 37 from heap_alloc_new _ _)
            have SX := Lib.hid (show wr.heap.size ≤ z1.heap.size from BB1.out.size)
            obtain ⟨z2, hz2⟩ : ∃ z2, z2 = z1.alloc (.cells (bva z) 37) := ⟨_, rfl⟩
            rw [← hz2] at BB2 X2
            rw [← hz2]
            obtain ⟨bX, hbX⟩ : ∃ bX, bX = z1.heap.size := ⟨_, rfl⟩
            rw [← hbX] at X2 SX
            try rw [← hbX]
            refine hK.out _ _ BB2.out (fun hh => ?_)
            have HH' := Lib.hid hh
            clear hh hK K HH hz2 hbX 
            have HH := Lib.hid HH'.out
            clear HH'
            try simp only [List.getElem_toArray, List.getElem_cons_succ, List.getElem_cons_zero, Act.put, List.setIfInBounds_toArray, List.set_cons_zero, List.set_cons_succ]
            refine wpAnyH_ready (rs := [16]) (by kernel_rfl) (by simp) (AllReadyH.cons rfl (fun K hK => ?_) AllReadyH.nil)
            go_simp
            have BB3 := Lib.hid (BB2.out.alloc BB2.out.size (.cells (bva z) 37))
            have Y3 := Lib.hid (show Blk (z2.alloc (.cells (bva z) 37)) z2.heap.size (bva z) 37 from heap_alloc_new _ _)
            have X3 := Lib.hid (X2.out.below (w1 := z2.alloc (.cells (bva z) 37)) ((Below.refl _ _).alloc (Nat.le_refl _) _))
            have NE := Lib.hid (show z2.heap.size ≠ bX by have := X2.out.lt; omega)
            have SY := Lib.hid (show wr.heap.size ≤ z2.heap.size from BB2.out.size)
            obtain ⟨z3, hz3⟩ : ∃ z3, z3 = z2.alloc (.cells (bva z) 37) := ⟨_, rfl⟩
            rw [← hz3] at BB3 Y3 X3
            rw [← hz3]
            obtain ⟨bY, hbY⟩ : ∃ bY, bY = z2.heap.size := ⟨_, rfl⟩
            rw [← hbY] at Y3 SY NE
            try rw [← hbY]
            refine hK.out _ _ BB3.out (fun hh => ?_)
            have HH' := Lib.hid hh
            clear hh hK K HH hz3 hbY X2
            have HH := Lib.hid HH'.out
            clear HH'
            try simp only [List.getElem_toArray, List.getElem_cons_succ, List.getElem_cons_zero, Act.put, List.setIfInBounds_toArray, List.set_cons_zero, List.set_cons_succ]
            obtain ⟨h1, h2, h3, h4, h5⟩ := two_set (w := wr) (x := y0) (y := y1) X3.out Y3.out (fun e => NE.out e.symm) BB3.out SX.out SY.out
            refine wpAnyH_ready (rs := [17]) (by kernel_rfl) (by simp) (AllReadyH.cons rfl (fun K hK => ?_) AllReadyH.nil)
            rw [if_pos (by rfl)]
            refine wp_store_row 37 (.tmp 10) (.tmp 65) rfl bX (bva y0) rfl rfl 37 (bva z) X3.out HIY0.out (by rw [bva_size, bva_size, HY0.out, HZ3.out]) (bva_one _) ?_
            refine hK.out _ _ h4 (fun hh => ?_)
            have HH' := Lib.hid hh
            clear hh hK K HH
            have HH := Lib.hid HH'.out
            clear HH'
            refine wpAnyH_ready (rs := [18]) (by kernel_rfl) (by simp) (AllReadyH.cons rfl (fun K hK => ?_) AllReadyH.nil)
            rw [if_pos (by rfl)]
            refine wp_store_row 37 (.tmp 11) (.tmp 66) rfl bY (bva y1) rfl rfl 37 (bva z) h1 HIY1.out (by rw [bva_size, bva_size, HY1.out, HZ3.out]) (bva_one _) ?_
            refine hK.out _ _ h5 (fun hh => ?_)
            have HH' := Lib.hid hh
            clear hh hK K HH
            have HH := Lib.hid HH'.out
            clear HH'
            refine wpAnyH_done (by kernel_rfl) ?_ _
            go_wp2_with fail
            go_meet
            exact ⟨bX, bY, rfl, rfl, h2, h3, h5⟩
          · go_simp
            have BB4 := Lib.hid (BB1.out.alloc BB1.out.size (.cells (bva z) 37))
            have Y4 := Lib.hid (show Blk (z1.alloc (.cells (bva z) 37)) z1.heap.size (bva z) 37 from heap_alloc_new _ _)
            have SY := Lib.hid (show wr.heap.size ≤ z1.heap.size from BB1.out.size)
            obtain ⟨z4, hz4⟩ : ∃ z4, z4 = z1.alloc (.cells (bva z) 37) := ⟨_, rfl⟩
            rw [← hz4] at BB4 Y4
            rw [← hz4]
            obtain ⟨bY, hbY⟩ : ∃ bY, bY = z1.heap.size := ⟨_, rfl⟩
            rw [← hbY] at Y4 SY
            try rw [← hbY]
            refine hK.out _ _ BB4.out (fun hh => ?_)
            have HH' := Lib.hid hh
            clear hh hK K HH hz4 hbY 
            have HH := Lib.hid HH'.out
            clear HH'
            try simp only [List.getElem_toArray, List.getElem_cons_succ, List.getElem_cons_zero, Act.put, List.setIfInBounds_toArray, List.set_cons_zero, List.set_cons_succ]
            refine wpAnyH_ready (rs := [15]) (by kernel_rfl) (by simp) (AllReadyH.cons rfl (fun K hK => ?_) AllReadyH.nil)
            go_simp
            have BB5 := Lib.hid (BB4.out.alloc BB4.out.size (.cells (bva z) 37))
            have X5 := Lib.hid (show Blk (z4.alloc (.cells (bva z) 37)) z4.heap.size (bva z) 37 from heap_alloc_new _ _)
            have Y5 := Lib.hid (Y4.out.below (w1 := z4.alloc (.cells (bva z) 37)) ((Below.refl _ _).alloc (Nat.le_refl _) _))
            have NE := Lib.hid (show z4.heap.size ≠ bY by have := Y4.out.lt; omega)
            have SX := Lib.hid (show wr.heap.size ≤ z4.heap.size from BB4.out.size)
            obtain ⟨z5, hz5⟩ : ∃ z5, z5 = z4.alloc (.cells (bva z) 37) := ⟨_, rfl⟩
            rw [← hz5] at BB5 X5 Y5
            rw [← hz5]
            obtain ⟨bX, hbX⟩ : ∃ bX, bX = z4.heap.size := ⟨_, rfl⟩
            rw [← hbX] at X5 SX NE
            try rw [← hbX]
            refine hK.out _ _ BB5.out (fun hh => ?_)
            have HH' := Lib.hid hh
            clear hh hK K HH hz5 hbX Y4
            have HH := Lib.hid HH'.out
            clear HH'
            try simp only [List.getElem_toArray, List.getElem_cons_succ, List.getElem_cons_zero, Act.put, List.setIfInBounds_toArray, List.set_cons_zero, List.set_cons_succ]
            obtain ⟨h1, h2, h3, h4, h5⟩ := two_set (w := wr) (x := y0) (y := y1) X5.out Y5.out NE.out BB5.out SX.out SY.out
            refine wpAnyH_ready (rs := [17]) (by kernel_rfl) (by simp) (AllReadyH.cons rfl (fun K hK => ?_) AllReadyH.nil)
            rw [if_pos (by rfl)]
            refine wp_store_row 37 (.tmp 10) (.tmp 65) rfl bX (bva y0) rfl rfl 37 (bva z) X5.out HIY0.out (by rw [bva_size, bva_size, HY0.out, HZ3.out]) (bva_one _) ?_
            refine hK.out _ _ h4 (fun hh => ?_)
            have HH' := Lib.hid hh
            clear hh hK K HH
            have HH := Lib.hid HH'.out
            clear HH'
            refine wpAnyH_ready (rs := [18]) (by kernel_rfl) (by simp) (AllReadyH.cons rfl (fun K hK => ?_) AllReadyH.nil)
            rw [if_pos (by rfl)]
            refine wp_store_row 37 (.tmp 11) (.tmp 66) rfl bY (bva y1) rfl rfl 37 (bva z) h1 HIY1.out (by rw [bva_size, bva_size, HY1.out, HZ3.out]) (bva_one _) ?_
            refine hK.out _ _ h5 (fun hh => ?_)
            have HH' := Lib.hid hh
            clear hh hK K HH
            have HH := Lib.hid HH'.out
            clear HH'
            refine wpAnyH_done (by kernel_rfl) ?_ _
            go_wp2_with fail
            go_meet
            exact ⟨bX, bY, rfl, rfl, h2, h3, h5⟩
        · go_simp
          have BB6 := Lib.hid (BQ.out.alloc BQ.out.size (.cells (bva z) 37))
          have X6 := Lib.hid (show Blk (wq.alloc (.cells (bva z) 37)) wq.heap.size (bva z) 37 from heap_alloc_new _ _)
          have SX := Lib.hid (show wr.heap.size ≤ wq.heap.size from BQ.out.size)
          obtain ⟨z6, hz6⟩ : ∃ z6, z6 = wq.alloc (.cells (bva z) 37) := ⟨_, rfl⟩
          rw [← hz6] at BB6 X6
          rw [← hz6]
          obtain ⟨bX, hbX⟩ : ∃ bX, bX = wq.heap.size := ⟨_, rfl⟩
          rw [← hbX] at X6 SX
          try rw [← hbX]
          refine hK.out _ _ BB6.out (fun hh => ?_)
          have HH' := Lib.hid hh
          clear hh hK K HH hz6 hbX 
          have HH := Lib.hid HH'.out
          clear HH'
          try simp only [List.getElem_toArray, List.getElem_cons_succ, List.getElem_cons_zero, Act.put, List.setIfInBounds_toArray, List.set_cons_zero, List.set_cons_succ]
          refine wpAnyH_ready (rs := [11, 16]) (by kernel_rfl) (by simp) (AllReadyH.cons rfl (fun K hK => ?_) (AllReadyH.cons rfl (fun K hK => ?_) AllReadyH.nil))
          · go_simp
            refine (HHE.out _).mono ?_
            rintro e z7 ⟨rfl, bw⟩
            have BB7 := Lib.hid (BB6.out.trans (bw.mono BB6.out.size))
            have X7 := Lib.hid (X6.out.below bw)
            go_simp
            refine hK.out _ _ BB7.out (fun hh => ?_)
            have HH' := Lib.hid hh
            clear hh hK K HH bw X6
            have HH := Lib.hid HH'.out
            clear HH'
            try simp only [List.getElem_toArray, List.getElem_cons_succ, List.getElem_cons_zero, Act.put, List.setIfInBounds_toArray, List.set_cons_zero, List.set_cons_succ]
            refine wpAnyH_take (i := 12) (v := ?vM12) rfl (by kernel_rfl) (by kernel_rfl) (by kernel_rfl) (fun _ _ _ h => h) (Or.inl ⟨by rfl, fun w' _ => ?yM12⟩) HH.out ?_
            case yM12 => (go_simp; try with_reducible rfl)
            refine wpAnyH_take (i := 13) (v := ?vM13) rfl (by kernel_rfl) (by kernel_rfl) (by kernel_rfl) (fun _ _ _ h => h) (Or.inl ⟨by rfl, fun w' _ => ?yM13⟩) HH.out ?_
            case yM13 => (go_simp; try with_reducible rfl)
            refine wpAnyH_take (i := 14) (v := ?vM14) rfl (by kernel_rfl) (by kernel_rfl) (by kernel_rfl) (fun _ _ _ h => h) (Or.inl ⟨by rfl, fun w' _ => ?yM14⟩) HH.out ?_
            case yM14 => (go_simp; try with_reducible rfl)
            try simp only [List.getElem_toArray, List.getElem_cons_succ, List.getElem_cons_zero, Act.put, List.setIfInBounds_toArray, List.set_cons_zero, List.set_cons_succ]
            refine wpAnyH_ready (rs := [16]) (by kernel_rfl) (by simp) (AllReadyH.cons rfl (fun K hK => ?_) AllReadyH.nil)
            go_simp
            have BB8 := Lib.hid (BB7.out.alloc BB7.out.size (.cells (bva z) 37))
            have Y8 := Lib.hid (show Blk (z7.alloc (.cells (bva z) 37)) z7.heap.size (bva z) 37 from heap_alloc_new _ _)
            have X8 := Lib.hid (X7.out.below (w1 := z7.alloc (.cells (bva z) 37)) ((Below.refl _ _).alloc (Nat.le_refl _) _))
            have NE := Lib.hid (show z7.heap.size ≠ bX by have := X7.out.lt; omega)
            have SY := Lib.hid (show wr.heap.size ≤ z7.heap.size from BB7.out.size)
            obtain ⟨z8, hz8⟩ : ∃ z8, z8 = z7.alloc (.cells (bva z) 37) := ⟨_, rfl⟩
            rw [← hz8] at BB8 Y8 X8
            rw [← hz8]
            obtain ⟨bY, hbY⟩ : ∃ bY, bY = z7.heap.size := ⟨_, rfl⟩
            rw [← hbY] at Y8 SY NE
            try rw [← hbY]
            refine hK.out _ _ BB8.out (fun hh => ?_)
            have HH' := Lib.hid hh
            clear hh hK K HH hz8 hbY X7
            have HH := Lib.hid HH'.out
            clear HH'
            try simp only [List.getElem_toArray, List.getElem_cons_succ, List.getElem_cons_zero, Act.put, List.setIfInBounds_toArray, List.set_cons_zero, List.set_cons_succ]
            obtain ⟨h1, h2, h3, h4, h5⟩ := two_set (w := wr) (x := y0) (y := y1) X8.out Y8.out (fun e => NE.out e.symm) BB8.out SX.out SY.out
            refine wpAnyH_ready (rs := [17]) (by kernel_rfl) (by simp) (AllReadyH.cons rfl (fun K hK => ?_) AllReadyH.nil)
            rw [if_pos (by rfl)]
            refine wp_store_row 37 (.tmp 10) (.tmp 65) rfl bX (bva y0) rfl rfl 37 (bva z) X8.out HIY0.out (by rw [bva_size, bva_size, HY0.out, HZ3.out]) (bva_one _) ?_
            refine hK.out _ _ h4 (fun hh => ?_)
            have HH' := Lib.hid hh
            clear hh hK K HH
            have HH := Lib.hid HH'.out
            clear HH'
            refine wpAnyH_ready (rs := [18]) (by kernel_rfl) (by simp) (AllReadyH.cons rfl (fun K hK => ?_) AllReadyH.nil)
            rw [if_pos (by rfl)]
            refine wp_store_row 37 (.tmp 11) (.tmp 66) rfl bY (bva y1) rfl rfl 37 (bva z) h1 HIY1.out (by rw [bva_size, bva_size, HY1.out, HZ3.out]) (bva_one _) ?_
            refine hK.out _ _ h5 (fun hh => ?_)
            have HH' := Lib.hid hh
            clear hh hK K HH
            have HH := Lib.hid HH'.out
            clear HH'
            refine wpAnyH_done (by kernel_rfl) ?_ _
            go_wp2_with fail
            go_meet
            exact ⟨bX, bY, rfl, rfl, h2, h3, h5⟩
          · go_simp
            have BB9 := Lib.hid (BB6.out.alloc BB6.out.size (.cells (bva z) 37))
            have Y9 := Lib.hid (show Blk (z6.alloc (.cells (bva z) 37)) z6.heap.size (bva z) 37 from heap_alloc_new _ _)
            have X9 := Lib.hid (X6.out.below (w1 := z6.alloc (.cells (bva z) 37)) ((Below.refl _ _).alloc (Nat.le_refl _) _))
            have NE := Lib.hid (show z6.heap.size ≠ bX by have := X6.out.lt; omega)
            have SY := Lib.hid (show wr.heap.size ≤ z6.heap.size from BB6.out.size)
            obtain ⟨z9, hz9⟩ : ∃ z9, z9 = z6.alloc (.cells (bva z) 37) := ⟨_, rfl⟩
            rw [← hz9] at BB9 Y9 X9
            rw [← hz9]
            obtain ⟨bY, hbY⟩ : ∃ bY, bY = z6.heap.size := ⟨_, rfl⟩
            rw [← hbY] at Y9 SY NE
            try rw [← hbY]
            refine hK.out _ _ BB9.out (fun hh => ?_)
            have HH' := Lib.hid hh
            clear hh hK K HH hz9 hbY X6
            have HH := Lib.hid HH'.out
            clear HH'
            try simp only [List.getElem_toArray, List.getElem_cons_succ, List.getElem_cons_zero, Act.put, List.setIfInBounds_toArray, List.set_cons_zero, List.set_cons_succ]
            refine wpAnyH_ready (rs := [11]) (by kernel_rfl) (by simp) (AllReadyH.cons rfl (fun K hK => ?_) AllReadyH.nil)
            go_simp
            refine (HHE.out _).mono ?_
            rintro e z10 ⟨rfl, bw⟩
            have BB10 := Lib.hid (BB9.out.trans (bw.mono BB9.out.size))
            have X10 := Lib.hid (X9.out.below bw)
            have Y10 := Lib.hid (Y9.out.below bw)
            go_simp
            refine hK.out _ _ BB10.out (fun hh => ?_)
            have HH' := Lib.hid hh
            clear hh hK K HH bw X9 Y9
            have HH := Lib.hid HH'.out
            clear HH'
            try simp only [List.getElem_toArray, List.getElem_cons_succ, List.getElem_cons_zero, Act.put, List.setIfInBounds_toArray, List.set_cons_zero, List.set_cons_succ]
            refine wpAnyH_take (i := 12) (v := ?vM12) rfl (by kernel_rfl) (by kernel_rfl) (by kernel_rfl) (fun _ _ _ h => h) (Or.inl ⟨by rfl, fun w' _ => ?yM12⟩) HH.out ?_
            case yM12 => (go_simp; try with_reducible rfl)
            refine wpAnyH_take (i := 13) (v := ?vM13) rfl (by kernel_rfl) (by kernel_rfl) (by kernel_rfl) (fun _ _ _ h => h) (Or.inl ⟨by rfl, fun w' _ => ?yM13⟩) HH.out ?_
            case yM13 => (go_simp; try with_reducible rfl)
            refine wpAnyH_take (i := 14) (v := ?vM14) rfl (by kernel_rfl) (by kernel_rfl) (by kernel_rfl) (fun _ _ _ h => h) (Or.inl ⟨by rfl, fun w' _ => ?yM14⟩) HH.out ?_
            case yM14 => (go_simp; try with_reducible rfl)
            try simp only [List.getElem_toArray, List.getElem_cons_succ, List.getElem_cons_zero, Act.put, List.setIfInBounds_toArray, List.set_cons_zero, List.set_cons_succ]
            obtain ⟨h1, h2, h3, h4, h5⟩ := two_set (w := wr) (x := y0) (y := y1) X10.out Y10.out (fun e => NE.out e.symm) BB10.out SX.out SY.out
            refine wpAnyH_ready (rs := [17]) (by kernel_rfl) (by simp) (AllReadyH.cons rfl (fun K hK => ?_) AllReadyH.nil)
            rw [if_pos (by rfl)]
            refine wp_store_row 37 (.tmp 10) (.tmp 65) rfl bX (bva y0) rfl rfl 37 (bva z) X10.out HIY0.out (by rw [bva_size, bva_size, HY0.out, HZ3.out]) (bva_one _) ?_
            refine hK.out _ _ h4 (fun hh => ?_)
            have HH' := Lib.hid hh
            clear hh hK K HH
            have HH := Lib.hid HH'.out
            clear HH'
            refine wpAnyH_ready (rs := [18]) (by kernel_rfl) (by simp) (AllReadyH.cons rfl (fun K hK => ?_) AllReadyH.nil)
            rw [if_pos (by rfl)]
            refine wp_store_row 37 (.tmp 11) (.tmp 66) rfl bY (bva y1) rfl rfl 37 (bva z) h1 HIY1.out (by rw [bva_size, bva_size, HY1.out, HZ3.out]) (bva_one _) ?_
            refine hK.out _ _ h5 (fun hh => ?_)
            have HH' := Lib.hid hh
            clear hh hK K HH
            have HH := Lib.hid HH'.out
            clear HH'
            refine wpAnyH_done (by kernel_rfl) ?_ _
            go_wp2_with fail
            go_meet
            exact ⟨bX, bY, rfl, rfl, h2, h3, h5⟩
        · go_simp
          have BB11 := Lib.hid (BQ.out.alloc BQ.out.size (.cells (bva z) 37))
          have Y11 := Lib.hid (show Blk (wq.alloc (.cells (bva z) 37)) wq.heap.size (bva z) 37 from heap_alloc_new _ _)
          have SY := Lib.hid (show wr.heap.size ≤ wq.heap.size from BQ.out.size)
          obtain ⟨z11, hz11⟩ : ∃ z11, z11 = wq.alloc (.cells (bva z) 37) := ⟨_, rfl⟩
          rw [← hz11] at BB11 Y11
          rw [← hz11]
          obtain ⟨bY, hbY⟩ : ∃ bY, bY = wq.heap.size := ⟨_, rfl⟩
          rw [← hbY] at Y11 SY
          try rw [← hbY]
          refine hK.out _ _ BB11.out (fun hh => ?_)
          have HH' := Lib.hid hh
          clear hh hK K HH hz11 hbY 
          have HH := Lib.hid HH'.out
          clear HH'
          try simp only [List.getElem_toArray, List.getElem_cons_succ, List.getElem_cons_zero, Act.put, List.setIfInBounds_toArray, List.set_cons_zero, List.set_cons_succ]
          refine wpAnyH_ready (rs := [11, 15]) (by kernel_rfl) (by simp) (AllReadyH.cons rfl (fun K hK => ?_) (AllReadyH.cons rfl (fun K hK => ?_) AllReadyH.nil))
          · go_simp
            refine (HHE.out _).mono ?_
            rintro e z12 ⟨rfl, bw⟩
            have BB12 := Lib.hid (BB11.out.trans (bw.mono BB11.out.size))
            have Y12 := Lib.hid (Y11.out.below bw)
            go_simp
            refine hK.out _ _ BB12.out (fun hh => ?_)
            have HH' := Lib.hid hh
            clear hh hK K HH bw Y11
            have HH := Lib.hid HH'.out
            clear HH'
            try simp only [List.getElem_toArray, List.getElem_cons_succ, List.getElem_cons_zero, Act.put, List.setIfInBounds_toArray, List.set_cons_zero, List.set_cons_succ]
            refine wpAnyH_take (i := 12) (v := ?vM12) rfl (by kernel_rfl) (by kernel_rfl) (by kernel_rfl) (fun _ _ _ h => h) (Or.inl ⟨by rfl, fun w' _ => ?yM12⟩) HH.out ?_
            case yM12 => (go_simp; try with_reducible rfl)
            refine wpAnyH_take (i := 13) (v := ?vM13) rfl (by kernel_rfl) (by kernel_rfl) (by kernel_rfl) (fun _ _ _ h => h) (Or.inl ⟨by rfl, fun w' _ => ?yM13⟩) HH.out ?_
            case yM13 => (go_simp; try with_reducible rfl)
            refine wpAnyH_take (i := 14) (v := ?vM14) rfl (by kernel_rfl) (by kernel_rfl) (by kernel_rfl) (fun _ _ _ h => h) (Or.inl ⟨by rfl, fun w' _ => ?yM14⟩) HH.out ?_
            case yM14 => (go_simp; try with_reducible rfl)
            try simp only [List.getElem_toArray, List.getElem_cons_succ, List.getElem_cons_zero, Act.put, List.setIfInBounds_toArray, List.set_cons_zero, List.set_cons_succ]
            refine wpAnyH_ready (rs := [15]) (by kernel_rfl) (by simp) (AllReadyH.cons rfl (fun K hK => ?_) AllReadyH.nil)
            go_simp
            have BB13 := Lib.hid (BB12.out.alloc BB12.out.size (.cells (bva z) 37))
            have X13 := Lib.hid (show Blk (z12.alloc (.cells (bva z) 37)) z12.heap.size (bva z) 37 from heap_alloc_new _ _)
            have Y13 := Lib.hid (Y12.out.below (w1 := z12.alloc (.cells (bva z) 37)) ((Below.refl _ _).alloc (Nat.le_refl _) _))
            have NE := Lib.hid (show z12.heap.size ≠ bY by have := Y12.out.lt; omega)
            have SX := Lib.hid (show wr.heap.size ≤ z12.heap.size from BB12.out.size)
            obtain ⟨z13, hz13⟩ : ∃ z13, z13 = z12.alloc (.cells (bva z) 37) := ⟨_, rfl⟩
            rw [← hz13] at BB13 X13 Y13
            rw [← hz13]
            obtain ⟨bX, hbX⟩ : ∃ bX, bX = z12.heap.size := ⟨_, rfl⟩
            rw [← hbX] at X13 SX NE
            try rw [← hbX]
            refine hK.out _ _ BB13.out (fun hh => ?_)
            have HH' := Lib.hid hh
            clear hh hK K HH hz13 hbX Y12
            have HH := Lib.hid HH'.out
            clear HH'
            try simp only [List.getElem_toArray, List.getElem_cons_succ, List.getElem_cons_zero, Act.put, List.setIfInBounds_toArray, List.set_cons_zero, List.set_cons_succ]
            obtain ⟨h1, h2, h3, h4, h5⟩ := two_set (w := wr) (x := y0) (y := y1) X13.out Y13.out NE.out BB13.out SX.out SY.out
            refine wpAnyH_ready (rs := [17]) (by kernel_rfl) (by simp) (AllReadyH.cons rfl (fun K hK => ?_) AllReadyH.nil)
            rw [if_pos (by rfl)]
            refine wp_store_row 37 (.tmp 10) (.tmp 65) rfl bX (bva y0) rfl rfl 37 (bva z) X13.out HIY0.out (by rw [bva_size, bva_size, HY0.out, HZ3.out]) (bva_one _) ?_
            refine hK.out _ _ h4 (fun hh => ?_)
            have HH' := Lib.hid hh
            clear hh hK K HH
            have HH := Lib.hid HH'.out
            clear HH'
            refine wpAnyH_ready (rs := [18]) (by kernel_rfl) (by simp) (AllReadyH.cons rfl (fun K hK => ?_) AllReadyH.nil)
            rw [if_pos (by rfl)]
            refine wp_store_row 37 (.tmp 11) (.tmp 66) rfl bY (bva y1) rfl rfl 37 (bva z) h1 HIY1.out (by rw [bva_size, bva_size, HY1.out, HZ3.out]) (bva_one _) ?_
            refine hK.out _ _ h5 (fun hh => ?_)
            have HH' := Lib.hid hh
            clear hh hK K HH
            have HH := Lib.hid HH'.out
            clear HH'
            refine wpAnyH_done (by kernel_rfl) ?_ _
            go_wp2_with fail
            go_meet
            exact ⟨bX, bY, rfl, rfl, h2, h3, h5⟩
          · go_simp
            have BB14 := Lib.hid (BB11.out.alloc BB11.out.size (.cells (bva z) 37))
            have X14 := Lib.hid (show Blk (z11.alloc (.cells (bva z) 37)) z11.heap.size (bva z) 37 from heap_alloc_new _ _)
            have Y14 := Lib.hid (Y11.out.below (w1 := z11.alloc (.cells (bva z) 37)) ((Below.refl _ _).alloc (Nat.le_refl _) _))
            have NE := Lib.hid (show z11.heap.size ≠ bY by have := Y11.out.lt; omega)
            have SX := Lib.hid (show wr.heap.size ≤ z11.heap.size from BB11.out.size)
            obtain ⟨z14, hz14⟩ : ∃ z14, z14 = z11.alloc (.cells (bva z) 37) := ⟨_, rfl⟩
            rw [← hz14] at BB14 X14 Y14
            rw [← hz14]
            obtain ⟨bX, hbX⟩ : ∃ bX, bX = z11.heap.size := ⟨_, rfl⟩
            rw [← hbX] at X14 SX NE
            try rw [← hbX]
            refine hK.out _ _ BB14.out (fun hh => ?_)
            have HH' := Lib.hid hh
            clear hh hK K HH hz14 hbX Y11
            have HH := Lib.hid HH'.out
            clear HH'
            try simp only [List.getElem_toArray, List.getElem_cons_succ, List.getElem_cons_zero, Act.put, List.setIfInBounds_toArray, List.set_cons_zero, List.set_cons_succ]
            refine wpAnyH_ready (rs := [11]) (by kernel_rfl) (by simp) (AllReadyH.cons rfl (fun K hK => ?_) AllReadyH.nil)
            go_simp
            refine (HHE.out _).mono ?_
            rintro e z15 ⟨rfl, bw⟩
            have BB15 := Lib.hid (BB14.out.trans (bw.mono BB14.out.size))
            have X15 := Lib.hid (X14.out.below bw)
            have Y15 := Lib.hid (Y14.out.below bw)
            go_simp
            refine hK.out _ _ BB15.out (fun hh => ?_)
            have HH' := Lib.hid hh
            clear hh hK K HH bw X14 Y14
            have HH := Lib.hid HH'.out
            clear HH'
            try simp only [List.getElem_toArray, List.getElem_cons_succ, List.getElem_cons_zero, Act.put, List.setIfInBounds_toArray, List.set_cons_zero, List.set_cons_succ]
            refine wpAnyH_take (i := 12) (v := ?vM12) rfl (by kernel_rfl) (by kernel_rfl) (by kernel_rfl) (fun _ _ _ h => h) (Or.inl ⟨by rfl, fun w' _ => ?yM12⟩) HH.out ?_
            case yM12 => (go_simp; try with_reducible rfl)
            refine wpAnyH_take (i := 13) (v := ?vM13) rfl (by kernel_rfl) (by kernel_rfl) (by kernel_rfl) (fun _ _ _ h => h) (Or.inl ⟨by rfl, fun w' _ => ?yM13⟩) HH.out ?_
            case yM13 => (go_simp; try with_reducible rfl)
            refine wpAnyH_take (i := 14) (v := ?vM14) rfl (by kernel_rfl) (by kernel_rfl) (by kernel_rfl) (fun _ _ _ h => h) (Or.inl ⟨by rfl, fun w' _ => ?yM14⟩) HH.out ?_
            case yM14 => (go_simp; try with_reducible rfl)
            try simp only [List.getElem_toArray, List.getElem_cons_succ, List.getElem_cons_zero, Act.put, List.setIfInBounds_toArray, List.set_cons_zero, List.set_cons_succ]
            obtain ⟨h1, h2, h3, h4, h5⟩ := two_set (w := wr) (x := y0) (y := y1) X15.out Y15.out NE.out BB15.out SX.out SY.out
            refine wpAnyH_ready (rs := [17]) (by kernel_rfl) (by simp) (AllReadyH.cons rfl (fun K hK => ?_) AllReadyH.nil)
            rw [if_pos (by rfl)]
            refine wp_store_row 37 (.tmp 10) (.tmp 65) rfl bX (bva y0) rfl rfl 37 (bva z) X15.out HIY0.out (by rw [bva_size, bva_size, HY0.out, HZ3.out]) (bva_one _) ?_
            refine hK.out _ _ h4 (fun hh => ?_)
            have HH' := Lib.hid hh
            clear hh hK K HH
            have HH := Lib.hid HH'.out
            clear HH'
            refine wpAnyH_ready (rs := [18]) (by kernel_rfl) (by simp) (AllReadyH.cons rfl (fun K hK => ?_) AllReadyH.nil)
            rw [if_pos (by rfl)]
            refine wp_store_row 37 (.tmp 11) (.tmp 66) rfl bY (bva y1) rfl rfl 37 (bva z) h1 HIY1.out (by rw [bva_size, bva_size, HY1.out, HZ3.out]) (bva_one _) ?_
            refine hK.out _ _ h5 (fun hh => ?_)
            have HH' := Lib.hid hh
            clear hh hK K HH
            have HH := Lib.hid HH'.out
            clear HH'
            refine wpAnyH_done (by kernel_rfl) ?_ _
            go_wp2_with fail
            go_meet
            exact ⟨bX, bY, rfl, rfl, h2, h3, h5⟩
      case rest =>
        obtain ⟨bX, bY, rfl, rfl, hx, hy, hb⟩ := hcut
        have P := Lib.hid hx
        have Q := Lib.hid hy
        have BW := Lib.hid hb
        clear hx hy hb HC1 HC2 HHE H
        have H := Lib.hid (H11.out.below (HW.out.trans (BW.out.mono HW.out.size)))
        go_wp2_with fail
        have hc := Mu.lm_dread0 H.out (j : Int)
        rw [HX0.out, HE0.out j HLT.out] at hc
        refine hc.mono ?_
        clear hc
        rintro e wa ⟨rfl, bw⟩
        have P1 := Lib.hid (P.out.below bw)
        have Q1 := Lib.hid (Q.out.below bw)
        have BW1 := Lib.hid (BW.out.trans (bw.mono BW.out.size))
        clear bw P Q BW H
        go_wp2_with (show wpList _ _ _ ({ dst := none, op := .store 37 (.tmp 12) (.tmp 71), type := _, pos := _, after := _, guard := _ } :: _) _ _; apply Classical.byContradiction; intro hneg)
        refine hneg ?_
        clear hneg
        refine wpList_store_row rfl 37 (.tmp 12) (.tmp 71) rfl wa.heap.size (bva y0) rfl rfl 37 (bva z) (heap_alloc_new _ _) HIY0.out (by rw [bva_size, bva_size, HY0.out, HZ3.out]) (bva_one _) ?_
        obtain ⟨wd1, hwd⟩ : ∃ wd1, wd1 = (wa.alloc (.cells (bva z) 37)).setRow wa.heap.size (bva y0) := ⟨_, rfl⟩
        have bw : Below wa.heap.size wa wd1 := by rw [hwd]; exact below_setRow ((Below.refl _ _).alloc (Nat.le_refl _) _) (Nat.le_refl _) _
        have RA := Lib.hid (show Blk wd1 wa.heap.size (bva y0) 37 by rw [hwd]; exact setRow_heap _ _ _ _ _ _ (heap_alloc_new _ _))
        rw [← hwd]
        clear hwd
        obtain ⟨bRA, hbb⟩ : ∃ bRA, bRA = wa.heap.size := ⟨_, rfl⟩
        rw [← hbb] at RA
        rw [← hbb]
        clear hbb
        have P2 := Lib.hid (P1.out.below bw)
        have Q2 := Lib.hid (Q1.out.below bw)
        have BW2 := Lib.hid (BW1.out.trans (bw.mono BW1.out.size))
        clear bw P1 Q1 BW1
        have H := Lib.hid (H11.out.below (HW.out.trans (BW2.out.mono HW.out.size)))
        go_wp2_with fail
        have hc := Mu.lm_dread1 H.out (j : Int)
        rw [HX1.out, HE1.out j HLT.out] at hc
        refine hc.mono ?_
        clear hc
        rintro e wb ⟨rfl, bw⟩
        have P3 := Lib.hid (P2.out.below bw)
        have Q3 := Lib.hid (Q2.out.below bw)
        have RA3 := Lib.hid (RA.out.below bw)
        have BW3 := Lib.hid (BW2.out.trans (bw.mono BW2.out.size))
        clear bw P2 Q2 RA BW2 H
        go_wp2_with (show wpList _ _ _ ({ dst := none, op := .store 37 (.tmp 14) (.tmp 77), type := _, pos := _, after := _, guard := _ } :: _) _ _; apply Classical.byContradiction; intro hneg)
        refine hneg ?_
        clear hneg
        refine wpList_store_row rfl 37 (.tmp 14) (.tmp 77) rfl wb.heap.size (bva y1) rfl rfl 37 (bva z) (heap_alloc_new _ _) HIY1.out (by rw [bva_size, bva_size, HY1.out, HZ3.out]) (bva_one _) ?_
        obtain ⟨wd2, hwd⟩ : ∃ wd2, wd2 = (wb.alloc (.cells (bva z) 37)).setRow wb.heap.size (bva y1) := ⟨_, rfl⟩
        have bw : Below wb.heap.size wb wd2 := by rw [hwd]; exact below_setRow ((Below.refl _ _).alloc (Nat.le_refl _) _) (Nat.le_refl _) _
        have RB := Lib.hid (show Blk wd2 wb.heap.size (bva y1) 37 by rw [hwd]; exact setRow_heap _ _ _ _ _ _ (heap_alloc_new _ _))
        rw [← hwd]
        clear hwd
        obtain ⟨bRB, hbb⟩ : ∃ bRB, bRB = wb.heap.size := ⟨_, rfl⟩
        rw [← hbb] at RB
        rw [← hbb]
        clear hbb
        have P4 := Lib.hid (P3.out.below bw)
        have Q4 := Lib.hid (Q3.out.below bw)
        have RA4 := Lib.hid (RA3.out.below bw)
        have BW4 := Lib.hid (BW3.out.trans (bw.mono BW3.out.size))
        clear bw P3 Q3 RA3 BW3
        have hq0 := fun W => HQ0.out W
        have hq1 := fun W => HQ1.out W
        go_wp2_with (first
          | (refine wpList_load_if (by rfl) 37 (.tmp 12) rfl rfl RA4.out Try.underlying37 rfl HIY0.out ?_)
          | (refine wpList_load_if (by rfl) 37 (.tmp 10) rfl rfl P4.out Try.underlying37 rfl HIY0.out ?_)
          | (refine wpList_load_if (by rfl) 37 (.tmp 14) rfl rfl RB.out Try.underlying37 rfl HIY1.out ?_)
          | (refine wpList_load_if (by rfl) 37 (.tmp 11) rfl rfl Q4.out Try.underlying37 rfl HIY1.out ?_))
        go_roundw
        case rel => exact ⟨j + 1, HLT.out, by go_num, HW.out.trans (BW4.out.mono HW.out.size)⟩
        case measure => (have := HLT.out; simp [intOf]; omega)
    · obtain rfl : j = k := by have := HJ.out; omega
      have j1 : ¬ (j : Int) < (j : Int) := by omega
      clear hlt
      go_wp2_with fail
      go_ret
      exact ⟨rfl, B1.out.trans ((H11.out.below HW.out).live.bel.mono B1.out.size)⟩
theorem scrubAll_own : ownKnob Try.prog.godebug = none := by kernel_rfl
theorem scrubAll_laid : laidOutB Try.prog = true := by kernel_rfl

set_option maxRecDepth 100000 in
theorem scrubAll_lifted (os : Os) (started : os.Started) (H : Type) (enc : TypeId × Value → H) :
    ReturnsInHanded {} Try.checked os 3 .any (Rows.scrubAllSpec.pre6 enc Try.prog Try.f3 Rows.scrubAllRow.domain false) (Rows.scrubAllSpec.post enc Try.prog Try.f3 false true false false) := by
  refine returnsInHanded_of_change (C := Try.checked) scrubAll_own started (by kernel_rfl) Try.func3
    (ChangeSpec.witness6 (enc := enc) (C := Try.checked) false ⟨#[], #[.slice none 0 0, .slice none 0 0], []⟩ 8 (by kernel_rfl) (by kernel_rfl) (by kernel_rfl) (by kernel_rfl)) ?_
  intro W base args ds gs before hval0 hW _ _
  have hval : ∀ (j : Nat) t v, Try.f3.params[j]? = some t → args[j]? = some v → Value.okWide Try.prog W .any base t v := hval0
  have hW' := hW
  obtain ⟨p, q, hA0, hV, rfl, hfz, hnd⟩ := hW
  have hA : DataW.TrodAll enc Try.prog W 0 (fun _ => true) true Try.f3.params.toList args.toList ds p := hA0
  rw [Try.params3] at hA hval
  obtain ⟨v0, vs0, d0, ds0, p0, q0, hargs, rfl, rfl, h0, r0⟩ := trodAll_cons hA
  obtain ⟨v1, vs1, d1, ds1, p1, q1, rfl, rfl, rfl, h1, r1⟩ := trodAll_cons r0
  obtain ⟨rfl, rfl, rfl⟩ := trodAll_nil r1
  obtain rfl : args = #[v0, v1] := by cases args; simp_all
  obtain ⟨rfl, rfl⟩ := trodVars_none hV
  obtain ⟨a0, n0, c0, rfl⟩ := okWide_slice Try.underlying22 (hval 0 22 v0 rfl rfl)
  have lt0 : ∀ x ∈ p0, x.block < W.heap.size := by obtain ⟨m, hm⟩ := h0; exact DataW.trod_lt m _ _ _ hm
  obtain ⟨l0, hl0, hc0, hm0, hr0⟩ := Sc.open_pairs h0
  obtain ⟨a1, n1, c1, rfl⟩ := okWide_slice Try.underlying22 (hval 1 22 v1 rfl rfl)
  have lt1 : ∀ x ∈ p1, x.block < W.heap.size := by obtain ⟨m, hm⟩ := h1; exact DataW.trod_lt m _ _ _ hm
  obtain ⟨l1, hl1, hc1, hm1, hr1⟩ := Sc.open_pairs h1
  clear hA0 hval0
  refine (scrubAll_any W a0 n0 c0 l0 hl0 hc0 hm0 hr0 a1 n1 c1 l1 hl1 hc1 hm1 hr1).mono fun e W' ⟨he, bel⟩ => ?_
  subst he
  exact ⟨_, rfl, _, _, _, [], _, [], hW', trodAll_mk1 (shut_bool Try.underlying4 _), (trodAll_cons_mk (Below.trod scrubAll_laid (by kernel_rfl) (of_decide_eq_true (by kernel_rfl)) h0 bel lt0) (trodAll_cons_mk (Below.trod scrubAll_laid (by kernel_rfl) (of_decide_eq_true (by kernel_rfl)) h1 bel lt1) trodAll_mk0)), rfl, bel.frame _, fun h => by cases h⟩

theorem scrubAll_holds : Rows.ScrubAllSaid :=
  OpenClaim.holds_of_wide 3 Try.f3 rfl rfl rfl rfl rfl rfl rfl ⟨rfl, rfl, rfl, rfl, rfl⟩ rfl rfl rfl rfl rfl (by kernel_rfl) Try.func3 (by kernel_rfl)
    (of_decide_eq_true (by kernel_rfl)) (by unfold Func.isWrapper; rw [if_neg (of_decide_eq_false (by kernel_rfl))]; exact ⟨rfl, rfl⟩)
    (fun os started H enc _ => scrubAll_lifted os started H enc)

#print axioms scrubAll_holds

end Go.Proofs.Ytniamllcoemikaa
