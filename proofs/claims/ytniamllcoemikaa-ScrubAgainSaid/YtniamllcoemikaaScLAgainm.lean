/-
  The law ScrubAgain holds: what isn't lost is right: scrubbed again each place is right that wasn't lost; lost are just those of which neither device has anything right. For any rows of pairs.
-/
import Derived.Test.YtniamllcoemikaaMt1
import Derived.Test.YtniamllcoemikaaRows
import Derived.ProofKit
import Derived.OpenShut
import Derived.ShutString
import Derived.ChangeOld
namespace Go.Proofs.Ytniamllcoemikaa
open Go.RowKit Kd Mi Sc Go.ChangeShapes Go.WideShapes Go.ChangeAt
attribute [local go_sem ↓] Go.wp_at_zero Go.wp_at_succ
set_option maxRecDepth 100000 in
set_option maxHeartbeats 25600000 in
theorem scrubAgain_any (w : World) (A : Option Addr) (N c : Nat) (l : List (UInt8 × UInt8)) (hl : l.length = N) (_ : N ≤ c) (_ : c ≤ maxLen) (hr : Rd w.heap.size w A (prs l)) (D : Option Addr) (M d : Nat) (r : List (UInt8 × UInt8)) (hl' : r.length = M) (_ : M ≤ d) (_ : d ≤ maxLen) (hr' : Rd w.heap.size w D (prs r)) : Calls Try.prog 5 #[.slice A N c, .slice D M d] w (RetB (.bool true) w) := by
  obtain ⟨z, hz0⟩ : ∃ z : List UInt8, z = zeroS := ⟨_, rfl⟩
  have hz : ∀ W, (zeroValue 37).run Try.prog W = .ok (.agg (bva z)) W := fun _ => by rw [hz0]; kernel_rfl
  have HZ3 := Lib.hid (show z.length = 128 by rw [hz0]; exact zeroS_length)
  clear hz0
  have HL := Lib.hid hl
  have HR := Lib.hid hr
  have HL' := Lib.hid hl'
  have HR' := Lib.hid hr'
  have B0 := Lib.hid (Below.refl w.heap.size w)
  clear hl hr hl' hr'
  go_enter Try.func5, Try.ntmps5
  go_wp2_with fail
  have hc := Sc.awake_any w
  refine hc.mono ?_
  clear hc
  rintro e w1 ⟨rfl, bw⟩
  have B1 := Lib.hid (B0.out.trans (bw.mono B0.out.size))
  clear bw B0
  by_cases hbig : 12 < N
  · have n1 : (12 : Int) < (N : Int) := by omega
    go_wp2_with fail
    refine (Sc.awake_any w1).mono ?_
    rintro e wz ⟨rfl, bz⟩
    go_wp2_with fail
    go_ret
    exact ⟨rfl, B1.out.trans (bz.mono B1.out.size)⟩
  by_cases hbig' : 12 < M
  · have n0 : ¬ (12 : Int) < (N : Int) := by omega
    have n1 : (12 : Int) < (M : Int) := by omega
    go_wp2_with fail
    refine (Sc.awake_any w1).mono ?_
    rintro e wz ⟨rfl, bz⟩
    go_wp2_with fail
    go_ret
    exact ⟨rfl, B1.out.trans (bz.mono B1.out.size)⟩
  have n0 : ¬ (12 : Int) < (N : Int) := by omega
  have n1 : ¬ (12 : Int) < (M : Int) := by omega
  have HNB := Lib.hid (show N ≤ 12 ∧ M ≤ 12 by omega)
  clear hbig hbig'
  obtain ⟨k, hk⟩ : ∃ k, k = min N M := ⟨_, rfl⟩
  obtain ⟨L0, hL0⟩ : ∃ L0, L0 = (l.take k).map sec2 := ⟨_, rfl⟩
  obtain ⟨L1, hL1⟩ : ∃ L1, L1 = (r.take k).map sec2 := ⟨_, rfl⟩
  have HP := Lib.hid (pair_any w1 B1.out.size (c := c) (d := d) HL.out HL'.out (HR.out.below B1.out) (HR'.out.below B1.out) HNB.out.1 HNB.out.2)
  rw [← hk, ← hL0, ← hL1] at HP
  have HKB := Lib.hid (show k ≤ 12 by have := HNB.out; omega)
  have HL0 := Lib.hid (show L0.length = k by rw [hL0, List.length_map, List.length_take, HL.out]; omega)
  have HL1 := Lib.hid (show L1.length = k by rw [hL1, List.length_map, List.length_take, HL'.out]; omega)
  have H03 := Lib.hid (show ∀ x ∈ L0, x.length = 128 by rw [hL0]; intro x hx; obtain ⟨y, _, rfl⟩ := List.mem_map.1 hx; exact sec2_length y)
  have H13 := Lib.hid (show ∀ x ∈ L1, x.length = 128 by rw [hL1]; intro x hx; obtain ⟨y, _, rfl⟩ := List.mem_map.1 hx; exact sec2_length y)
  have HFR := Lib.hid (start_fresh HL0.out HL1.out)
  clear hk hL0 hL1
  go_wp2_with fail
  have hc := HP.out
  refine hc.mono ?_
  clear hc
  rintro e w2 ⟨pw, g1, g2, g, s2, F2, U, V, cu, cv, rfl, h, hu, hv⟩
  have H2 := Lib.hid (show Mu.LM pw g1 g2 gG g w1 w2 s2 F2 (startM L0 L1 k) 0 from h)
  have RU2 := Lib.hid hu
  have RV2 := Lib.hid hv
  clear h hu hv
  clear HP
  go_wp2_with (show wpList _ _ _ ({ dst := none, op := .store 27 (.tmp 8) (.tmp 33), type := _, pos := _, after := _, guard := _ } :: _) _ _; apply Classical.byContradiction; intro hneg)
  refine hneg ?_
  clear hneg
  refine wpList_store_row rfl 27 (.tmp 8) (.tmp 33) rfl w2.heap.size #[.slice U k cu, .slice V k cv] rfl rfl 27 #[.slice none 0 0, .slice none 0 0] (heap_alloc_new _ _) secsAV_info rfl (by simp [Value.oneCell']) ?_
  obtain ⟨w3, hw3⟩ : ∃ w3, w3 = (w2.alloc (.cells #[.slice none 0 0, .slice none 0 0] 27)).setRow w2.heap.size #[.slice U k cu, .slice V k cv] := ⟨_, rfl⟩
  have bw : Below w2.heap.size w2 w3 := by rw [hw3]; exact below_setRow ((Below.refl _ _).alloc (Nat.le_refl _) _) (Nat.le_refl _) _
  have hbx : Blk w3 w2.heap.size #[.slice U k cu, .slice V k cv] 27 := by rw [hw3]; exact setRow_heap _ _ _ _ _ _ (heap_alloc_new _ _)
  rw [← hw3]
  clear hw3
  obtain ⟨b3, hb3⟩ : ∃ b3, b3 = w2.heap.size := ⟨_, rfl⟩
  rw [← hb3] at hbx
  rw [← hb3]
  have BS3 := Lib.hid (show Bx w1 w3 F2 b3 #[.slice U k cu, .slice V k cv] 27 from ⟨hbx, by rw [hb3]; exact H2.out.live.bel.size, fun hf => by have := (ML (Mu.one pw g1 g2) gG g).lt H2.out.live.at_ _ hf; omega⟩)
  clear hb3 hbx
  have RU3 := Lib.hid (RU2.out.below bw)
  have RV3 := Lib.hid (RV2.out.below bw)
  clear RU2 RV2
  have H3 := Lib.hid (H2.out.below bw)
  clear bw H2
  obtain ⟨x1, x2, hr1, ⟨c2, hr2, hc1, hc2, hc3⟩, hf1, hf2, hbo⟩ := again_all (f := goodN) HFR.out
  obtain ⟨cf, hcf⟩ : ∃ cf, cf = cntK goodN L0 L1 := ⟨_, rfl⟩
  rw [show cntK goodN (startM L0 L1 k).l0 (startM L0 L1 k).l1 = cf from hcf.symm] at hr1 hc1 hc3
  obtain ⟨r1, hr1'⟩ : ∃ r1, r1 = (cf k).r := ⟨_, rfl⟩
  obtain ⟨q1, hq1'⟩ : ∃ q1, q1 = (cf k).h := ⟨_, rfl⟩
  obtain ⟨l1, hl1'⟩ : ∃ l1, l1 = (cf k).l := ⟨_, rfl⟩
  have HSUM := Lib.hid (show r1 + q1 + l1 = k by rw [hr1', hq1', hl1', hcf]; exact cnt_sum L0 L1 k)
  have HR1 := Lib.hid (show mdRun gG.f (startM L0 L1 k, Wk.zero) (startM L0 L1 k).a.length = (x1, cf k) by rw [start_len]; exact hr1)
  have HV1 := Lib.hid (show (cf k).rep = #[.int .i64 r1, .int .i64 q1, .int .i64 l1] by rw [rep_form, hr1', hq1', hl1'])
  have HR2 := Lib.hid (show mdRun gG.f (x1, Wk.zero) x1.a.length = (x2, c2) by rw [hf1.len]; exact hr2)
  have HV2 := Lib.hid (show c2.rep = #[.int .i64 (r1 + q1 : Nat), .int .i64 0, .int .i64 l1] by rw [rep_form, hc1, hc2, hc3, hr1', hq1', hl1']; rfl)
  have HLN := Lib.hid (show (startM L0 L1 k).a.length = k from start_len (L0 := L0) (L1 := L1))
  have HF1 := Lib.hid hf1
  have HBO := Lib.hid hbo
  have HLO := Lib.hid (show (cf 0).l = 0 by rw [hcf]; rfl)
  have HLS := Lib.hid (show ∀ j, (cf (j + 1)).l = (cf j).l + if ck goodN j (L0.getD j zeroS) (L1.getD j zeroS) = 2 then 1 else 0 by rw [hcf]; exact cnt_lost L0 L1)
  have HLM := Lib.hid (show ∀ j, (cf j).l ≤ j by intro j; rw [hcf]; have := cnt_sum (f := goodN) L0 L1 j; omega)
  have HL1E := Lib.hid hl1'
  clear hr1 hr2 hc1 hc2 hc3 hf1 hf2 hbo hcf hr1' hq1' hl1'
  go_wp2_with fail
  have hc := lm_all H3.out (by rw [HLN.out]; have := HKB.out; omega) (by omega)
  rw [HR1.out] at hc
  refine hc.mono ?_
  clear hc
  rintro e w4 ⟨rfl, s4, F4, h, hm4⟩
  have H4 := Lib.hid (show Mu.LM pw g1 g2 gG g w1 w4 s4 F4 x1 (0 + (startM L0 L1 k).a.length) from h)
  have RU4 := Lib.hid (RU3.out.step hm4.new hm4.but)
  have RV4 := Lib.hid (RV3.out.step hm4.new hm4.but)
  have BS4 := Lib.hid (bx_dev BS3.out hm4.new hm4.but)
  clear h hm4 H3 RU3 RV3 BS3
  rw [HV1.out]
  go_wp2_with (show wpList _ _ _ ({ dst := none, op := .store 32 (.tmp 9) (.tmp 35), type := _, pos := _, after := _, guard := _ } :: _) _ _; apply Classical.byContradiction; intro hneg)
  refine hneg ?_
  clear hneg
  refine wpList_store_row rfl 32 (.tmp 9) (.tmp 35) rfl w4.heap.size #[.int .i64 r1, .int .i64 q1, .int .i64 l1] rfl rfl 32 #[.int .i64 0, .int .i64 0, .int .i64 0] (heap_alloc_new _ _) wk_info rfl (by simp [Value.oneCell']) ?_
  obtain ⟨w5, hw5⟩ : ∃ w5, w5 = (w4.alloc (.cells #[.int .i64 0, .int .i64 0, .int .i64 0] 32)).setRow w4.heap.size #[.int .i64 r1, .int .i64 q1, .int .i64 l1] := ⟨_, rfl⟩
  have bw : Below w4.heap.size w4 w5 := by rw [hw5]; exact below_setRow ((Below.refl _ _).alloc (Nat.le_refl _) _) (Nat.le_refl _) _
  have hbx : Blk w5 w4.heap.size #[.int .i64 r1, .int .i64 q1, .int .i64 l1] 32 := by rw [hw5]; exact setRow_heap _ _ _ _ _ _ (heap_alloc_new _ _)
  rw [← hw5]
  clear hw5
  obtain ⟨b5, hb5⟩ : ∃ b5, b5 = w4.heap.size := ⟨_, rfl⟩
  rw [← hb5] at hbx
  rw [← hb5]
  have BA5 := Lib.hid (show Bx w1 w5 F4 b5 #[.int .i64 r1, .int .i64 q1, .int .i64 l1] 32 from ⟨hbx, by rw [hb5]; exact H4.out.live.bel.size, fun hf => by have := (ML (Mu.one pw g1 g2) gG g).lt H4.out.live.at_ _ hf; omega⟩)
  clear hb5 hbx
  have RU5 := Lib.hid (RU4.out.below bw)
  have RV5 := Lib.hid (RV4.out.below bw)
  clear RU4 RV4
  have H5 := Lib.hid (H4.out.below bw)
  have BS5 := Lib.hid (BS4.out.below bw)
  clear bw H4 BS4
  go_wp2_with fail
  have hc := lm_all H5.out (by rw [HF1.out.len]; have := HKB.out; omega) (by rw [HLN.out]; have := HKB.out; omega)
  rw [HR2.out] at hc
  refine hc.mono ?_
  clear hc
  rintro e w6 ⟨rfl, s6, F6, h, hm6⟩
  have H6 := Lib.hid (show Mu.LM pw g1 g2 gG g w1 w6 s6 F6 x2 (0 + (startM L0 L1 k).a.length + x1.a.length) from h)
  have RU6 := Lib.hid (RU5.out.step hm6.new hm6.but)
  have RV6 := Lib.hid (RV5.out.step hm6.new hm6.but)
  have BS6 := Lib.hid (bx_dev BS5.out hm6.new hm6.but)
  have BA6 := Lib.hid (bx_dev BA5.out hm6.new hm6.but)
  clear h hm6 H5 RU5 RV5 BS5 BA5
  rw [HV2.out]
  go_wp2_with (show wpList _ _ _ ({ dst := none, op := .store 32 (.tmp 10) (.tmp 37), type := _, pos := _, after := _, guard := _ } :: _) _ _; apply Classical.byContradiction; intro hneg)
  refine hneg ?_
  clear hneg
  refine wpList_store_row rfl 32 (.tmp 10) (.tmp 37) rfl w6.heap.size #[.int .i64 (r1 + q1 : Nat), .int .i64 0, .int .i64 l1] rfl rfl 32 #[.int .i64 0, .int .i64 0, .int .i64 0] (heap_alloc_new _ _) wk_info rfl (by simp [Value.oneCell']) ?_
  obtain ⟨w7, hw7⟩ : ∃ w7, w7 = (w6.alloc (.cells #[.int .i64 0, .int .i64 0, .int .i64 0] 32)).setRow w6.heap.size #[.int .i64 (r1 + q1 : Nat), .int .i64 0, .int .i64 l1] := ⟨_, rfl⟩
  have bw : Below w6.heap.size w6 w7 := by rw [hw7]; exact below_setRow ((Below.refl _ _).alloc (Nat.le_refl _) _) (Nat.le_refl _) _
  have hbx : Blk w7 w6.heap.size #[.int .i64 (r1 + q1 : Nat), .int .i64 0, .int .i64 l1] 32 := by rw [hw7]; exact setRow_heap _ _ _ _ _ _ (heap_alloc_new _ _)
  rw [← hw7]
  clear hw7
  obtain ⟨b7, hb7⟩ : ∃ b7, b7 = w6.heap.size := ⟨_, rfl⟩
  rw [← hb7] at hbx
  rw [← hb7]
  have BB7 := Lib.hid (show Bx w1 w7 F6 b7 #[.int .i64 (r1 + q1 : Nat), .int .i64 0, .int .i64 l1] 32 from ⟨hbx, by rw [hb7]; exact H6.out.live.bel.size, fun hf => by have := (ML (Mu.one pw g1 g2) gG g).lt H6.out.live.at_ _ hf; omega⟩)
  clear hb7 hbx
  have RU7 := Lib.hid (RU6.out.below bw)
  have RV7 := Lib.hid (RV6.out.below bw)
  clear RU6 RV6
  have H7 := Lib.hid (H6.out.below bw)
  have BS7 := Lib.hid (BS6.out.below bw)
  have BA7 := Lib.hid (BA6.out.below bw)
  clear bw H6 BS6 BA6
  have hbc : w7.cell? ⟨b3, 0, none⟩ = some (.slice U k cu) := BS7.out.1.cell 0
  go_wp2_with fail
  clear hbc
  go_loopw [41, 11] (fun i a wr => ∃ (j : Nat), j ≤ k ∧ i = .int .i64 j ∧ a = .int .i64 (cf j).l ∧ Below w7.heap.size w7 wr) (fun i _ _ => k - (intOf i).toNat)
  case atStart => exact ⟨0, Nat.zero_le _, rfl, by rw [HLO.out]; rfl, Below.refl _ _⟩
  case round =>
    obtain ⟨j, hj, rfl, rfl, hb⟩ := hrel
    have HJ := Lib.hid hj
    have HW := Lib.hid hb
    clear hj hb
    by_cases hlt : j < k
    · have HLT := Lib.hid hlt
      have j1 : (j : Int) < (k : Int) := by omega
      have wj : IntKind.i64.wrap ((j : Int) + 1) = ((j + 1 : Nat) : Int) := IntWalk.i64_in _ (by have := HKB.out; omega)
      have wl : IntKind.i64.wrap (((cf j).l : Int) + 1) = (((cf j).l + 1 : Nat) : Int) := IntWalk.i64_in _ (by have := HKB.out; have := HLM.out j; omega)
      clear hlt
      go_wp2_with fail
      refine (Mu.lm_both (H7.out.below HW.out) (j : Int)).mono ?_
      rintro e wn ⟨A1, n1', c1, rfl, hn1, ho1, bw⟩
      have HWN := Lib.hid (HW.out.trans (bw.mono HW.out.size))
      have HN1 := Lib.hid (show n1' = 0 ↔ ck goodN j (L0.getD j zeroS) (L1.getD j zeroS) = 2 by rw [← hn1]; exact HBO.out j HLT.out)
      clear hn1 ho1 bw HW
      by_cases hn : n1' = 0
      · have HE := Lib.hid (show (cf (j + 1)).l = (cf j).l + 1 by rw [HLS.out, if_pos (HN1.out.1 hn)])
        subst hn
        clear HN1
        go_wp2_with fail
        go_roundw
        case rel => exact ⟨j + 1, HLT.out, by go_num, by rw [HE.out]; simp, HWN.out⟩
        case measure => (have := HLT.out; simp [intOf]; omega)
      · have HE := Lib.hid (show (cf (j + 1)).l = (cf j).l by rw [HLS.out, if_neg (fun h => hn (HN1.out.2 h))]; rfl)
        have hn0 : ¬ (n1' : Int) = 0 := by omega
        clear HN1
        go_wp2_with fail
        go_roundw
        case rel => exact ⟨j + 1, HLT.out, by go_num, by rw [HE.out], HWN.out⟩
        case measure => (have := HLT.out; simp [intOf]; omega)
    · obtain rfl : j = k := by have := HJ.out; omega
      have j1 : ¬ (j : Int) < (j : Int) := by omega
      clear hlt
      rw [← HL1E.out]
      have hbc : wr.cell? ⟨b3, 0, none⟩ = some (.slice U j cu) := (BS7.out.1.below HW.out).cell 0
      have a0 : wr.cell? ⟨b5, 0, none⟩ = some (.int .i64 r1) := (BA7.out.1.below HW.out).cell 0
      have a1 : wr.cell? ⟨b5, 1, none⟩ = some (.int .i64 q1) := (BA7.out.1.below HW.out).cell 1
      have a2 : wr.cell? ⟨b5, 2, none⟩ = some (.int .i64 l1) := (BA7.out.1.below HW.out).cell 2
      have e0 : wr.cell? ⟨b7, 0, none⟩ = some (.int .i64 ((r1 : Int) + (q1 : Int))) := (BB7.out.1.below HW.out).cell 0
      have e1 : wr.cell? ⟨b7, 1, none⟩ = some (.int .i64 0) := (BB7.out.1.below HW.out).cell 1
      have e2 : wr.cell? ⟨b7, 2, none⟩ = some (.int .i64 l1) := (BB7.out.1.below HW.out).cell 2
      have s1 : IntKind.i64.wrap ((r1 : Int) + (q1 : Int)) = (r1 : Int) + (q1 : Int) := IntWalk.i64_in _ (by have := HKB.out; have := HSUM.out; omega)
      have s2 : IntKind.i64.wrap ((r1 : Int) + (q1 : Int) + (l1 : Int)) = (j : Int) := by rw [show (r1 : Int) + (q1 : Int) + (l1 : Int) = (j : Int) by have := HSUM.out; omega]; exact IntWalk.i64_in _ (by have := HKB.out; omega)
      go_wp2_with fail
      go_ret
      exact ⟨rfl, B1.out.trans ((H7.out.below HW.out).live.bel.mono B1.out.size)⟩
theorem scrubAgain_own : ownKnob Try.prog.godebug = none := by kernel_rfl
theorem scrubAgain_laid : laidOutB Try.prog = true := by kernel_rfl

set_option maxRecDepth 100000 in
theorem scrubAgain_lifted (os : Os) (started : os.Started) (H : Type) (enc : TypeId × Value → H) :
    ReturnsInHanded {} Try.checked os 5 .any (Rows.scrubAgainSpec.pre6 enc Try.prog Try.f5 Rows.scrubAgainRow.domain false) (Rows.scrubAgainSpec.post enc Try.prog Try.f5 false true false false) := by
  refine returnsInHanded_of_change (C := Try.checked) scrubAgain_own started (by kernel_rfl) Try.func5
    (ChangeSpec.witness6 (enc := enc) (C := Try.checked) false ⟨#[], #[.slice none 0 0, .slice none 0 0], []⟩ 8 (by kernel_rfl) (by kernel_rfl) (by kernel_rfl) (by kernel_rfl)) ?_
  intro W base args ds gs before hval0 hW _ _
  have hval : ∀ (j : Nat) t v, Try.f5.params[j]? = some t → args[j]? = some v → Value.okWide Try.prog W .any base t v := hval0
  have hW' := hW
  obtain ⟨p, q, hA0, hV, rfl, hfz, hnd⟩ := hW
  have hA : DataW.TrodAll enc Try.prog W 0 (fun _ => true) true Try.f5.params.toList args.toList ds p := hA0
  rw [Try.params5] at hA hval
  obtain ⟨v0, vs0, d0, ds0, p0, q0, hargs, rfl, rfl, h0, r0⟩ := trodAll_cons hA
  obtain ⟨v1, vs1, d1, ds1, p1, q1, rfl, rfl, rfl, h1, r1⟩ := trodAll_cons r0
  obtain ⟨rfl, rfl, rfl⟩ := trodAll_nil r1
  obtain rfl : args = #[v0, v1] := by cases args; simp_all
  obtain ⟨rfl, rfl⟩ := trodVars_none hV
  obtain ⟨a0, n0, c0, rfl⟩ := okWide_slice Try.underlying22 (hval 0 22 v0 rfl rfl)
  have lt0 : ∀ x ∈ p0, x.block < W.heap.size := by obtain ⟨m, hm⟩ := h0; exact DataW.trod_lt m _ _ _ hm
  obtain ⟨l0, hl0, hc0, hm0, hr0⟩ := Sc.open_pairs h0
  obtain ⟨a1, n1, c1, rfl⟩ := okWide_slice Try.underlying22 (hval 1 22 v1 rfl rfl)
  have lt1 : ∀ x ∈ p1, x.block < W.heap.size := by obtain ⟨m, hm⟩ := h1; exact DataW.trod_lt m _ _ _ hm
  obtain ⟨l1, hl1, hc1, hm1, hr1⟩ := Sc.open_pairs h1
  clear hA0 hval0
  refine (scrubAgain_any W a0 n0 c0 l0 hl0 hc0 hm0 hr0 a1 n1 c1 l1 hl1 hc1 hm1 hr1).mono fun e W' ⟨he, bel⟩ => ?_
  subst he
  exact ⟨_, rfl, _, _, _, [], _, [], hW', trodAll_mk1 (shut_bool Try.underlying4 _), (trodAll_cons_mk (Below.trod scrubAgain_laid (by kernel_rfl) (of_decide_eq_true (by kernel_rfl)) h0 bel lt0) (trodAll_cons_mk (Below.trod scrubAgain_laid (by kernel_rfl) (of_decide_eq_true (by kernel_rfl)) h1 bel lt1) trodAll_mk0)), rfl, bel.frame _, fun h => by cases h⟩

theorem scrubAgain_holds : Rows.ScrubAgainSaid :=
  OpenClaim.holds_of_wide 5 Try.f5 rfl rfl rfl rfl rfl rfl rfl ⟨rfl, rfl, rfl, rfl, rfl⟩ rfl rfl rfl rfl rfl (by kernel_rfl) Try.func5 (by kernel_rfl)
    (of_decide_eq_true (by kernel_rfl)) (by unfold Func.isWrapper; rw [if_neg (of_decide_eq_false (by kernel_rfl))]; exact ⟨rfl, rfl⟩)
    (fun os started H enc _ => scrubAgain_lifted os started H enc)

#print axioms scrubAgain_holds

end Go.Proofs.Ytniamllcoemikaa
