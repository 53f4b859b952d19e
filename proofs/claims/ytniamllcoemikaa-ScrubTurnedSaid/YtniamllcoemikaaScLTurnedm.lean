/-
  The law ScrubTurned holds: which device is called the first one plays no part in what counts as what; nor in what is read then, where not both were right and unlike. For any rows of pairs.
-/
import Derived.Test.YtniamllcoemikaaMy1
import Derived.OrdersHeld
import Derived.Deep.RegionHeld
import Derived.Test.YtniamllcoemikaaRows
import Derived.ProofKit
import Derived.OpenShut
import Derived.ShutString
import Derived.ChangeOld
namespace Go.Proofs.Ytniamllcoemikaa
open Go.RowKit Kd Mi Sc Go.ChangeShapes Go.WideShapes Go.ChangeAt
attribute [local go_sem ↓] Go.wp_at_zero Go.wp_at_succ
set_option maxRecDepth 100000 in
set_option maxHeartbeats 25600000 in
theorem scrubTurned_any (w : World) (A : Option Addr) (N c : Nat) (l : List (UInt8 × UInt8)) (hl : l.length = N) (_ : N ≤ c) (_ : c ≤ maxLen) (hr : Rd w.heap.size w A (prs l)) (D : Option Addr) (M d : Nat) (r : List (UInt8 × UInt8)) (hl' : r.length = M) (_ : M ≤ d) (_ : d ≤ maxLen) (hr' : Rd w.heap.size w D (prs r)) : Calls Try.prog 10 #[.slice A N c, .slice D M d] w (RetB (.bool true) w) := by
  obtain ⟨z, hz0⟩ : ∃ z : List UInt8, z = zeroS := ⟨_, rfl⟩
  have hz : ∀ W, (zeroValue 37).run Try.prog W = .ok (.agg (bva z)) W := fun _ => by rw [hz0]; kernel_rfl
  have HZ3 := Lib.hid (show z.length = 128 by rw [hz0]; exact zeroS_length)
  clear hz0
  have HL := Lib.hid hl
  have HR := Lib.hid hr
  have HL' := Lib.hid hl'
  have HR' := Lib.hid hr'
  have B0 := Lib.hid (Below.refl w.heap.size w)
  clear hl hr hl' hr'
  go_enter Try.func10, Try.ntmps10
  go_wp2_with fail
  have hc := Sc.awake_any w
  refine hc.mono ?_
  clear hc
  rintro e w1 ⟨rfl, bw⟩
  have B1 := Lib.hid (B0.out.trans (bw.mono B0.out.size))
  clear bw B0
  by_cases hbig : 12 < N
  · have n1 : (12 : Int) < (N : Int) := by omega
    go_wp2_with fail
    refine (Sc.awake_any w1).mono ?_
    rintro e wz ⟨rfl, bz⟩
    go_wp2_with fail
    go_ret
    exact ⟨rfl, B1.out.trans (bz.mono B1.out.size)⟩
  by_cases hbig' : 12 < M
  · have n0 : ¬ (12 : Int) < (N : Int) := by omega
    have n1 : (12 : Int) < (M : Int) := by omega
    go_wp2_with fail
    refine (Sc.awake_any w1).mono ?_
    rintro e wz ⟨rfl, bz⟩
    go_wp2_with fail
    go_ret
    exact ⟨rfl, B1.out.trans (bz.mono B1.out.size)⟩
  have n0 : ¬ (12 : Int) < (N : Int) := by omega
  have n1 : ¬ (12 : Int) < (M : Int) := by omega
  have HNB := Lib.hid (show N ≤ 12 ∧ M ≤ 12 by omega)
  clear hbig hbig'
  obtain ⟨k, hk⟩ : ∃ k, k = min N M := ⟨_, rfl⟩
  obtain ⟨L0, hL0⟩ : ∃ L0, L0 = (l.take k).map sec2 := ⟨_, rfl⟩
  obtain ⟨L1, hL1⟩ : ∃ L1, L1 = (r.take k).map sec2 := ⟨_, rfl⟩
  have HP := Lib.hid (pair_any w1 B1.out.size (c := c) (d := d) HL.out HL'.out (HR.out.below B1.out) (HR'.out.below B1.out) HNB.out.1 HNB.out.2)
  rw [← hk, ← hL0, ← hL1] at HP
  have HKB := Lib.hid (show k ≤ 12 by have := HNB.out; omega)
  have HL0 := Lib.hid (show L0.length = k by rw [hL0, List.length_map, List.length_take, HL.out]; omega)
  have HL1 := Lib.hid (show L1.length = k by rw [hL1, List.length_map, List.length_take, HL'.out]; omega)
  have H03 := Lib.hid (show ∀ x ∈ L0, x.length = 128 by rw [hL0]; intro x hx; obtain ⟨y, _, rfl⟩ := List.mem_map.1 hx; exact sec2_length y)
  have H13 := Lib.hid (show ∀ x ∈ L1, x.length = 128 by rw [hL1]; intro x hx; obtain ⟨y, _, rfl⟩ := List.mem_map.1 hx; exact sec2_length y)
  have HFR := Lib.hid (start_fresh HL0.out HL1.out)
  have HP2 := Lib.hid (show ∀ w', Below w.heap.size w w' → Calls Try.prog 18 #[.slice D M d, .slice A N c] w' (PairR L1 L0 k w') from fun w' hb => by
    have hc := pair_any w' hb.size (c := d) (d := c) HL'.out HL.out (HR'.out.below hb) (HR.out.below hb) HNB.out.2 HNB.out.1
    rw [show min M N = k by omega, ← hL0, ← hL1] at hc
    exact hc)
  clear hk hL0 hL1
  go_wp2_with fail
  have hc := HP.out
  refine hc.mono ?_
  clear hc
  rintro e w2 ⟨pw, g1, g2, g, s2, F2, U, V, cu, cv, rfl, h, hu, hv⟩
  have H2 := Lib.hid (show Mu.LM pw g1 g2 gG g w1 w2 s2 F2 (startM L0 L1 k) 0 from h)
  have RU2 := Lib.hid hu
  have RV2 := Lib.hid hv
  clear h hu hv
  clear HP
  go_wp2_with (show wpList _ _ _ ({ dst := none, op := .store 27 (.tmp 8) (.tmp 39), type := _, pos := _, after := _, guard := _ } :: _) _ _; apply Classical.byContradiction; intro hneg)
  refine hneg ?_
  clear hneg
  refine wpList_store_row rfl 27 (.tmp 8) (.tmp 39) rfl w2.heap.size #[.slice U k cu, .slice V k cv] rfl rfl 27 #[.slice none 0 0, .slice none 0 0] (heap_alloc_new _ _) secsAV_info rfl (by simp [Value.oneCell']) ?_
  obtain ⟨w3, hw3⟩ : ∃ w3, w3 = (w2.alloc (.cells #[.slice none 0 0, .slice none 0 0] 27)).setRow w2.heap.size #[.slice U k cu, .slice V k cv] := ⟨_, rfl⟩
  have bw : Below w2.heap.size w2 w3 := by rw [hw3]; exact below_setRow ((Below.refl _ _).alloc (Nat.le_refl _) _) (Nat.le_refl _) _
  have hbx : Blk w3 w2.heap.size #[.slice U k cu, .slice V k cv] 27 := by rw [hw3]; exact setRow_heap _ _ _ _ _ _ (heap_alloc_new _ _)
  rw [← hw3]
  clear hw3
  obtain ⟨b3, hb3⟩ : ∃ b3, b3 = w2.heap.size := ⟨_, rfl⟩
  rw [← hb3] at hbx
  rw [← hb3]
  have BS3 := Lib.hid (show Bx w1 w3 F2 b3 #[.slice U k cu, .slice V k cv] 27 from ⟨hbx, by rw [hb3]; exact H2.out.live.bel.size, fun hf => by have := (ML (Mu.one pw g1 g2) gG g).lt H2.out.live.at_ _ hf; omega⟩)
  clear hb3 hbx
  have RU3 := Lib.hid (RU2.out.below bw)
  have RV3 := Lib.hid (RV2.out.below bw)
  clear RU2 RV2
  have H3 := Lib.hid (H2.out.below bw)
  clear bw H2
  go_wp2_with fail
  have hc := HP2.out w3 (B1.out.trans (H3.out.live.bel.mono B1.out.size))
  refine hc.mono ?_
  clear hc
  rintro e w20 ⟨pw', h1, h2, gg, s20, F20, U2, V2, cu2, cv2, rfl, h, hu, hv⟩
  have K2 := Lib.hid h
  clear h hu hv HP2
  go_wp2_with (show wpList _ _ _ ({ dst := none, op := .store 27 (.tmp 12) (.tmp 47), type := _, pos := _, after := _, guard := _ } :: _) _ _; apply Classical.byContradiction; intro hneg)
  refine hneg ?_
  clear hneg
  refine wpList_store_row rfl 27 (.tmp 12) (.tmp 47) rfl w20.heap.size #[.slice U2 k cu2, .slice V2 k cv2] rfl rfl 27 #[.slice none 0 0, .slice none 0 0] (heap_alloc_new _ _) secsAV_info rfl (by simp [Value.oneCell']) ?_
  obtain ⟨wS, hwS⟩ : ∃ wS, wS = (w20.alloc (.cells #[.slice none 0 0, .slice none 0 0] 27)).setRow w20.heap.size #[.slice U2 k cu2, .slice V2 k cv2] := ⟨_, rfl⟩
  have bw : Below w20.heap.size w20 wS := by rw [hwS]; exact below_setRow ((Below.refl _ _).alloc (Nat.le_refl _) _) (Nat.le_refl _) _
  rw [← hwS]
  clear hwS
  obtain ⟨b20, hb20⟩ : ∃ b20, b20 = w20.heap.size := ⟨_, rfl⟩
  rw [← hb20]
  clear hb20
  have hbw : Below w3.heap.size w3 wS := K2.out.live.bel.trans (bw.mono K2.out.live.bel.size)
  have hLA := H3.out.below hbw
  have hLB := K2.out.below bw
  have hF1 : ∀ q, F2 q → q < w3.heap.size := (ML (Mu.one pw g1 g2) gG g).lt H3.out.live.at_
  have hF2 : ∀ q, F20 q → w3.heap.size ≤ q := K2.out.live.new
  have H := Lib.hid (show LiveA (pairL (ML (Mu.one pw g1 g2) gG g) (ML (Mu.one pw' h1 h2) gG gg)) w1 wS (s2, s20) (fun q => F2 q ∨ F20 q) from
    ⟨⟨F2, F20, hLA.live.at_, hLB.live.at_, fun q a b => by have := hF1 q a; have := hF2 q b; omega, fun q a => .inl a, fun q a => .inr a, fun q hq => hq.elim ((ML (Mu.one pw g1 g2) gG g).lt hLA.live.at_ q) ((ML (Mu.one pw' h1 h2) gG gg).lt hLB.live.at_ q)⟩,
     fun q hq => hq.elim (hLA.live.new q) (fun a => Nat.le_trans H3.out.live.bel.size (hF2 q a)), hLA.live.bel⟩)
  have SE1 := Lib.hid (show Mu.Sees s2 (startM L0 L1 k) 0 ∧ Mu.Dry s2 (startM L0 L1 k) from ⟨H3.out.sees, H3.out.dry⟩)
  have SE2 := Lib.hid (show Mu.Sees s20 (startM L1 L0 k) 0 ∧ Mu.Dry s20 (startM L1 L0 k) from ⟨K2.out.sees, K2.out.dry⟩)
  have RU := Lib.hid (show RowN w1 wS (fun q => F2 q ∨ F20 q) (.slice U k cu) k L0 from ⟨(RU3.out.below hbw).1, fun q hq hf => hf.elim (RU3.out.2 q hq) (fun a => by have := (RU3.out.1.lt q hq).2; have := hF2 q a; omega)⟩)
  have RV := Lib.hid (show RowN w1 wS (fun q => F2 q ∨ F20 q) (.slice V k cv) k L1 from ⟨(RV3.out.below hbw).1, fun q hq hf => hf.elim (RV3.out.2 q hq) (fun a => by have := (RV3.out.1.lt q hq).2; have := hF2 q a; omega)⟩)
  have BS := Lib.hid (show Bx w1 wS (fun q => F2 q ∨ F20 q) b3 #[.slice U k cu, .slice V k cv] 27 from ⟨(BS3.out.1.below hbw), BS3.out.2.1, fun hf => hf.elim BS3.out.2.2 (fun a => by have := BS3.out.1.lt; have := hF2 _ a; omega)⟩)
  clear bw hbw hLA hLB hF1 hF2 K2 H3 RU3 RV3 BS3
  obtain ⟨F0, hF0⟩ : ∃ F0 : Nat → Prop, F0 = (fun q => F2 q ∨ F20 q) := ⟨_, rfl⟩
  rw [← hF0] at H RU RV BS
  clear hF0
  have HFR2 := Lib.hid (start_fresh HL1.out HL0.out)
  obtain ⟨t1, ht1⟩ : ∃ t1, t1 = (allN gG s2 k).1 := ⟨_, rfl⟩
  obtain ⟨t2, ht2⟩ : ∃ t2, t2 = (allN gG s20 k).1 := ⟨_, rfl⟩
  obtain ⟨x1, hx1⟩ : ∃ x1, x1 = (mdRun goodN (startM L0 L1 k, Wk.zero) k).1 := ⟨_, rfl⟩
  obtain ⟨x2, hx2⟩ : ∃ x2, x2 = (mdRun goodN (startM L1 L0 k, Wk.zero) k).1 := ⟨_, rfl⟩
  have hr1 := sees_run (G := gG) SE1.out.1 SE1.out.2 Wk.zero k
  have hr2 := sees_run (G := gG) SE2.out.1 SE2.out.2 Wk.zero k
  have ST1 := Lib.hid (show Mu.Sees t1 x1 (0 + k) from by rw [ht1, hx1]; exact hr1.2.1)
  have ST2 := Lib.hid (show Mu.Sees t2 x2 (0 + k) from by rw [ht2, hx2]; exact hr2.2.1)
  obtain ⟨cr, hcr⟩ : ∃ cr, cr = (cntK goodN L0 L1 k).r := ⟨_, rfl⟩
  obtain ⟨ch, hch⟩ : ∃ ch, ch = (cntK goodN L0 L1 k).h := ⟨_, rfl⟩
  obtain ⟨cl, hcl⟩ : ∃ cl, cl = (cntK goodN L0 L1 k).l := ⟨_, rfl⟩
  have hrep : (cntK goodN L0 L1 k).rep = #[.int .i64 cr, .int .i64 ch, .int .i64 cl] := by rw [rep_form, hcr, hch, hcl]
  have hv1 : (allN gG s2 k).2.rep = #[.int .i64 cr, .int .i64 ch, .int .i64 cl] := by rw [← hrep]; exact congrArg Wk.rep (hr1.1.trans (HFR.out.run (f := goodN) k (Nat.le_refl _)).2.1)
  have hv2 : (allN gG s20 k).2.rep = #[.int .i64 cr, .int .i64 ch, .int .i64 cl] := by rw [← hrep, cnt_turn]; exact congrArg Wk.rep (hr2.1.trans (HFR2.out.run (f := goodN) k (Nat.le_refl _)).2.1)
  have HA1 := Lib.hid (show ∀ w F, (ML (Mu.one pw g1 g2) gG g).At w s2 F → Calls Try.prog 20 #[.pointer (some ⟨g, 0, none⟩)] w (RetA (ML (Mu.one pw g1 g2) gG g) (.agg #[.int .i64 cr, .int .i64 ch, .int .i64 cl]) t1 F w) from fun w F h => by
    have hc := sall_any h (n := k) (show s2.ok k by have h2 := SE1.out.1.ok; rwa [start_len] at h2) (by have := HKB.out; omega) (Nat.lt_of_le_of_lt SE1.out.1.most (by omega))
    rw [hv1, ← ht1] at hc
    exact hc)
  have HA2 := Lib.hid (show ∀ w F, (ML (Mu.one pw' h1 h2) gG gg).At w s20 F → Calls Try.prog 20 #[.pointer (some ⟨gg, 0, none⟩)] w (RetA (ML (Mu.one pw' h1 h2) gG gg) (.agg #[.int .i64 cr, .int .i64 ch, .int .i64 cl]) t2 F w) from fun w F h => by
    have hc := sall_any h (n := k) (show s20.ok k by have h2 := SE2.out.1.ok; rwa [start_len] at h2) (by have := HKB.out; omega) (Nat.lt_of_le_of_lt SE2.out.1.most (by omega))
    rw [hv2, ← ht2] at hc
    exact hc)
  have HRD := Lib.hid (show ∀ j, j < k → ∃ X Y : List UInt8, ∃ e : Int, x1.read gG.f j = (X, e) ∧ x2.read gG.f j = (Y, e) ∧ (X = Y ∨ (goodN j (L0.getD j zeroS) = true ∧ goodN j (L1.getD j zeroS) = true ∧ L0.getD j zeroS ≠ L1.getD j zeroS)) ∧ X.length = 128 ∧ Y.length = 128 from fun j hj => by
    obtain ⟨X, Y, e, a1, a2, a3, a4⟩ := turn_reads (f := goodN) (u := L0.getD j zeroS) (v := L1.getD j zeroS) j
    refine ⟨X, Y, e, ?_, ?_, a3, a4 (getD_ok H03.out j) (getD_ok H13.out j)⟩
    · rw [← a1, hx1]; exact read_run (f := goodN) HFR.out hj
    · rw [← a2, hx2]; exact read_run (f := goodN) HFR2.out hj)
  have HQR := Lib.hid (eq_rep cr ch cl cr ch cl)
  clear ht1 ht2 hx1 hx2 hr1 hr2 hcr hch hcl hrep hv1 hv2
  have hq : ∀ W, (Op.equalIn 10000 32 (.agg #[.int .i64 cr, .int .i64 ch, .int .i64 cl]) (.agg #[.int .i64 cr, .int .i64 ch, .int .i64 cl])).run Try.prog W = .ok true W := fun W => by have h := HQR.out W; simpa using h
  have HQ := Lib.hid hq
  clear hq HQR
  go_wp2_with fail
  obtain ⟨Fc, hac, hlc⟩ := pair_fst H.out.at_
  refine (HA1.out _ _ hac).mono ?_
  rintro e w101 hret
  obtain ⟨rfl, F101, hm⟩ := hlc hret
  have H101 := Lib.hid (show LiveA (pairL (ML (Mu.one pw g1 g2) gG g) (ML (Mu.one pw' h1 h2) gG gg)) w1 w101 (t1, s20) F101 from H.out.step hm)
  have RU101 := Lib.hid (RU.out.step hm.new hm.but)
  have RV101 := Lib.hid (RV.out.step hm.new hm.but)
  have BS101 := Lib.hid (bx_dev BS.out hm.new hm.but)
  clear hm hret hac hlc H RU RV BS
  go_wp2_with fail
  obtain ⟨Fc, hac, hlc⟩ := pair_snd H101.out.at_
  refine (HA2.out _ _ hac).mono ?_
  rintro e w102 hret
  obtain ⟨rfl, F102, hm⟩ := hlc hret
  have H102 := Lib.hid (show LiveA (pairL (ML (Mu.one pw g1 g2) gG g) (ML (Mu.one pw' h1 h2) gG gg)) w1 w102 (t1, t2) F102 from H101.out.step hm)
  have RU102 := Lib.hid (RU101.out.step hm.new hm.but)
  have RV102 := Lib.hid (RV101.out.step hm.new hm.but)
  have BS102 := Lib.hid (bx_dev BS101.out hm.new hm.but)
  clear hm hret hac hlc H101 RU101 RV101 BS101
  have hq := HQ.out
  have hbc : w102.cell? ⟨b3, 0, none⟩ = some (.slice U k cu) := BS102.out.1.cell 0
  go_wp2_with fail
  clear hbc hq
  go_loopw [56] (fun i wr => ∃ (j : Nat) (F : Nat → Prop), j ≤ k ∧ i = .int .i64 j ∧ LiveA (pairL (ML (Mu.one pw g1 g2) gG g) (ML (Mu.one pw' h1 h2) gG gg)) w1 wr (t1, t2) F ∧ RowN w1 wr F (.slice U k cu) k L0 ∧ RowN w1 wr F (.slice V k cv) k L1 ∧ Bx w1 wr F b3 #[.slice U k cu, .slice V k cv] 27) (fun i _ => k - (intOf i).toNat)
  case atStart => exact ⟨0, _, Nat.zero_le _, rfl, H102.out, RU102.out, RV102.out, BS102.out⟩
  case round =>
    clear H102 RU102 RV102 BS102 HA1 HA2 SE1 SE2
    obtain ⟨j, Fj, hj, rfl, hH, hU, hV, hB⟩ := hrel
    have HJ := Lib.hid hj
    have H := Lib.hid hH
    have RU := Lib.hid hU
    have RV := Lib.hid hV
    have BS := Lib.hid hB
    clear hj hH hU hV hB
    by_cases hlt : j < k
    · have HLT := Lib.hid hlt
      have j0 : (0 : Int) ≤ (j : Int) := by omega
      have j1 : (j : Int) < (k : Int) := by omega
      have wj : IntKind.i64.wrap ((j : Int) + 1) = ((j + 1 : Nat) : Int) := IntWalk.i64_in _ (by have := HKB.out; omega)
      obtain ⟨X, Y, er, hX, hY, hXY, hX3, hY3⟩ := HRD.out j hlt
      have HX3 := Lib.hid hX3
      have HY3 := Lib.hid hY3
      have HXY := Lib.hid hXY
      have HIX : Hid ((Try.prog.info? 37).map (·.size) = some (bva X).size) := by rw [bva_size, hX3]; exact info_sec
      have HIY : Hid ((Try.prog.info? 37).map (·.size) = some (bva Y).size) := by rw [bva_size, hY3]; exact info_sec
      have HM1 := Lib.hid (show ∀ w F, (ML (Mu.one pw g1 g2) gG g).At w t1 F → Calls Try.prog 28 #[.pointer (some ⟨g, 0, none⟩), .int .i64 j] w (RetA (ML (Mu.one pw g1 g2) gG g) (.tuple #[.agg (bva X), .int .i64 er]) t1 F w) from fun w F h => by
        have hc := mread_any h (by rw [ST1.out.ok.1, ST1.out.ok.2]) (j : Int)
        rw [ST1.out.read (j : Int), hX] at hc
        exact hc)
      have HM2 := Lib.hid (show ∀ w F, (ML (Mu.one pw' h1 h2) gG gg).At w t2 F → Calls Try.prog 28 #[.pointer (some ⟨gg, 0, none⟩), .int .i64 j] w (RetA (ML (Mu.one pw' h1 h2) gG gg) (.tuple #[.agg (bva Y), .int .i64 er]) t2 F w) from fun w F h => by
        have hc := mread_any h (by rw [ST2.out.ok.1, ST2.out.ok.2]) (j : Int)
        rw [ST2.out.read (j : Int), hY] at hc
        exact hc)
      clear hlt hX hY hXY hX3 hY3
      go_wp2_with fail
      obtain ⟨Fc, hac, hlc⟩ := pair_fst H.out.at_
      refine (HM1.out _ _ hac).mono ?_
      rintro e w103 hret
      obtain ⟨rfl, F103, hm⟩ := hlc hret
      have H103 := Lib.hid (show LiveA (pairL (ML (Mu.one pw g1 g2) gG g) (ML (Mu.one pw' h1 h2) gG gg)) w1 w103 (t1, t2) F103 from H.out.step hm)
      have RU103 := Lib.hid (RU.out.step hm.new hm.but)
      have RV103 := Lib.hid (RV.out.step hm.new hm.but)
      have BS103 := Lib.hid (bx_dev BS.out hm.new hm.but)
      clear hm hret hac hlc H RU RV BS
      go_wp2_with (show wpList _ _ _ ({ dst := none, op := .store 37 (.tmp 14) (.tmp 63), type := _, pos := _, after := _, guard := _ } :: _) _ _; apply Classical.byContradiction; intro hneg)
      refine hneg ?_
      clear hneg
      refine wpList_store_row rfl 37 (.tmp 14) (.tmp 63) rfl w103.heap.size (bva X) rfl rfl 37 (bva z) (heap_alloc_new _ _) HIX.out (by rw [bva_size, bva_size, HX3.out, HZ3.out]) (bva_one _) ?_
      obtain ⟨w104, hw104⟩ : ∃ w104, w104 = (w103.alloc (.cells (bva z) 37)).setRow w103.heap.size (bva X) := ⟨_, rfl⟩
      have bw : Below w103.heap.size w103 w104 := by rw [hw104]; exact below_setRow ((Below.refl _ _).alloc (Nat.le_refl _) _) (Nat.le_refl _) _
      have hbx : Blk w104 w103.heap.size (bva X) 37 := by rw [hw104]; exact setRow_heap _ _ _ _ _ _ (heap_alloc_new _ _)
      rw [← hw104]
      clear hw104
      obtain ⟨bPX, hbPX⟩ : ∃ bPX, bPX = w103.heap.size := ⟨_, rfl⟩
      rw [← hbPX] at hbx
      rw [← hbPX]
      have PX104 := Lib.hid (show Bx w1 w104 F103 bPX (bva X) 37 from ⟨hbx, by rw [hbPX]; exact H103.out.bel.size, fun hf => by have := (pairL (ML (Mu.one pw g1 g2) gG g) (ML (Mu.one pw' h1 h2) gG gg)).lt H103.out.at_ _ hf; omega⟩)
      have H104 := Lib.hid (H103.out.below bw)
      have RU104 := Lib.hid (RU103.out.below bw)
      have RV104 := Lib.hid (RV103.out.below bw)
      have BS104 := Lib.hid (BS103.out.below bw)
      clear bw hbx hbPX H103 RU103 RV103 BS103
      go_wp2_with fail
      obtain ⟨Fc, hac, hlc⟩ := pair_snd H104.out.at_
      refine (HM2.out _ _ hac).mono ?_
      rintro e w105 hret
      obtain ⟨rfl, F105, hm⟩ := hlc hret
      have H105 := Lib.hid (show LiveA (pairL (ML (Mu.one pw g1 g2) gG g) (ML (Mu.one pw' h1 h2) gG gg)) w1 w105 (t1, t2) F105 from H104.out.step hm)
      have RU105 := Lib.hid (RU104.out.step hm.new hm.but)
      have RV105 := Lib.hid (RV104.out.step hm.new hm.but)
      have BS105 := Lib.hid (bx_dev BS104.out hm.new hm.but)
      have PX105 := Lib.hid (bx_dev PX104.out hm.new hm.but)
      clear hm hret hac hlc H104 RU104 RV104 BS104 PX104
      go_wp2_with (show wpList _ _ _ ({ dst := none, op := .store 37 (.tmp 16) (.tmp 69), type := _, pos := _, after := _, guard := _ } :: _) _ _; apply Classical.byContradiction; intro hneg)
      refine hneg ?_
      clear hneg
      refine wpList_store_row rfl 37 (.tmp 16) (.tmp 69) rfl w105.heap.size (bva Y) rfl rfl 37 (bva z) (heap_alloc_new _ _) HIY.out (by rw [bva_size, bva_size, HY3.out, HZ3.out]) (bva_one _) ?_
      obtain ⟨w106, hw106⟩ : ∃ w106, w106 = (w105.alloc (.cells (bva z) 37)).setRow w105.heap.size (bva Y) := ⟨_, rfl⟩
      have bw : Below w105.heap.size w105 w106 := by rw [hw106]; exact below_setRow ((Below.refl _ _).alloc (Nat.le_refl _) _) (Nat.le_refl _) _
      have hbx : Blk w106 w105.heap.size (bva Y) 37 := by rw [hw106]; exact setRow_heap _ _ _ _ _ _ (heap_alloc_new _ _)
      rw [← hw106]
      clear hw106
      obtain ⟨bPY, hbPY⟩ : ∃ bPY, bPY = w105.heap.size := ⟨_, rfl⟩
      rw [← hbPY] at hbx
      rw [← hbPY]
      have PY106 := Lib.hid (show Bx w1 w106 F105 bPY (bva Y) 37 from ⟨hbx, by rw [hbPY]; exact H105.out.bel.size, fun hf => by have := (pairL (ML (Mu.one pw g1 g2) gG g) (ML (Mu.one pw' h1 h2) gG gg)).lt H105.out.at_ _ hf; omega⟩)
      have H106 := Lib.hid (H105.out.below bw)
      have RU106 := Lib.hid (RU105.out.below bw)
      have RV106 := Lib.hid (RV105.out.below bw)
      have BS106 := Lib.hid (BS105.out.below bw)
      have PX106 := Lib.hid (PX105.out.below bw)
      clear bw hbx hbPY H105 RU105 RV105 BS105 PX105
      have hj0 : j < L0.length := by rw [HL0.out]; exact HLT.out
      have hj1 : j < L1.length := by rw [HL1.out]; exact HLT.out
      obtain ⟨u, hu⟩ : ∃ u, u = L0.getD j zeroS := ⟨_, rfl⟩
      obtain ⟨v, hv⟩ : ∃ v, v = L1.getD j zeroS := ⟨_, rfl⟩
      have hu' : u = L0[j] := by rw [hu, List.getD_eq_getElem?_getD, List.getElem?_eq_getElem hj0]; rfl
      have hv' : v = L1[j] := by rw [hv, List.getD_eq_getElem?_getD, List.getElem?_eq_getElem hj1]; rfl
      obtain ⟨ad, hA1, hz1, hz2⟩ := rd_sec (Rd.ownN RU106.out.1) H03.out hj0
      obtain ⟨ae, hA2, hz3, hz4⟩ := rd_sec (Rd.ownN RV106.out.1) H13.out hj1
      subst hA1 hA2
      have HU3 := Lib.hid (show u.length = 128 by rw [hu']; exact H03.out _ (List.getElem_mem hj0))
      have HV3 := Lib.hid (show v.length = 128 by rw [hv']; exact H13.out _ (List.getElem_mem hj1))
      have HIU := Lib.hid (show (Try.prog.info? 37).map (·.size) = some (bv u).length by rw [bv_length, HU3.out]; exact info_sec)
      have HIV := Lib.hid (show (Try.prog.info? 37).map (·.size) = some (bv v).length by rw [bv_length, HV3.out]; exact info_sec)
      have HC1 := Lib.hid (show ∀ w', Below w106.heap.size w106 w' → ∀ i x, (bv u)[i]? = some x → w'.cell? ((ad.add (j * 128)).add i) = some x from fun w' hb i x hx => by
        obtain ⟨a2, h1, _, h2⟩ := rd_sec ((Rd.ownN RU106.out.1).below hb) H03.out hj0
        injection h1 with h1; subst h1
        exact h2 i x (by rw [← hu']; exact hx))
      have HC2 := Lib.hid (show ∀ w', Below w106.heap.size w106 w' → ∀ i x, (bv v)[i]? = some x → w'.cell? ((ae.add (j * 128)).add i) = some x from fun w' hb i x hx => by
        obtain ⟨a2, h1, _, h2⟩ := rd_sec ((Rd.ownN RV106.out.1).below hb) H13.out hj1
        injection h1 with h1; subst h1
        exact h2 i x (by rw [← hv']; exact hx))
      obtain ⟨ga, hga⟩ : ∃ ga, ga = goodN j u := ⟨_, rfl⟩
      obtain ⟨gb, hgb⟩ : ∃ gb, gb = goodN j v := ⟨_, rfl⟩
      have HGA := Lib.hid (show ∀ w, Calls Try.prog 32 #[.int .i64 j, .agg (bva u)] w (RetB (.bool ga) w) from fun w => by rw [hga]; exact good_any w j u HU3.out)
      have HGB := Lib.hid (show ∀ w, Calls Try.prog 32 #[.int .i64 j, .agg (bva v)] w (RetB (.bool gb) w) from fun w => by rw [hgb]; exact good_any w j v HV3.out)
      obtain ⟨uv, huv⟩ : ∃ uv, uv = decide (u = v) := ⟨_, rfl⟩
      have HQU := Lib.hid (show ∀ W, (Op.equalIn 10000 37 (.agg (bva u)) (.agg (bva v))).run Try.prog W = .ok uv W from fun W => by rw [huv]; exact eq_sec u v HU3.out HV3.out W)
      have HOR := Lib.hid (show X = Y ∨ (ga = true ∧ gb = true ∧ uv = false) from by
        have h := HXY.out
        rw [← hu, ← hv, ← hga, ← hgb] at h
        exact h.imp id (fun ⟨a, b, c⟩ => ⟨a, b, by rw [huv]; exact decide_eq_false c⟩))
      clear hz1 hz2 hz3 hz4 hj0 hj1 hu hv hu' hv' hga hgb huv HXY HM1 HM2
      go_upto_region 12 with fail
      go_cut [18] (fun a18 wx => a18 = .bool (ga && gb && !uv) ∧ Below w106.heap.size w106 wx)
      case first =>
        go_wp2_with fail
        cases ga with
        | false =>
          refine wp_region_held_drew (S := fun w' => Below w106.heap.size w106 w') (by kernel_rfl) (Below.refl _ _).drew (fun hh => ?_)
          have HH := Lib.hid hh
          clear hh
          refine wpAnyH_take (i := 0) (v := ?vA0) rfl (by kernel_rfl) (by kernel_rfl) (by kernel_rfl) (fun _ _ _ h => h) (Or.inl ⟨by rfl, fun w' _ => ?yA0⟩) HH.out ?_
          case yA0 => (go_simp; try with_reducible rfl)
          refine wpAnyH_take (i := 1) (v := ?vA1) rfl (by kernel_rfl) (by kernel_rfl) (by kernel_rfl) (fun _ _ _ h => h) (Or.inl ⟨by rfl, fun w' _ => ?yA1⟩) HH.out ?_
          case yA1 => (go_simp; try with_reducible rfl)
          try simp only [List.getElem_toArray, List.getElem_cons_succ, List.getElem_cons_zero, Act.put, List.setIfInBounds_toArray, List.set_cons_zero, List.set_cons_succ]
          refine wpAnyH_take (i := 2) (v := .slice (some ad) k cu) rfl (by kernel_rfl) (by kernel_rfl) (by kernel_rfl) (fun _ _ _ h => h) (Or.inl ⟨by rfl, fun w' hw' => ?yA2⟩) HH.out ?_
          case yA2 => (have hc : w'.cell? ⟨b3, 0, none⟩ = some (.slice (some ad) k cu) := (BS106.out.1.below hw').cell 0; go_simp; try with_reducible rfl)
          refine wpAnyH_take (i := 3) (v := ?vA3) rfl (by kernel_rfl) (by kernel_rfl) (by kernel_rfl) (fun _ _ _ h => h) (Or.inl ⟨by rfl, fun w' _ => ?yA3⟩) HH.out ?_
          case yA3 => (go_simp; try with_reducible rfl)
          refine wpAnyH_take (i := 4) (v := ?vA4) rfl (by kernel_rfl) (by kernel_rfl) (by kernel_rfl) (fun _ _ _ h => h) (Or.inl ⟨by rfl, fun w' _ => ?yA4⟩) HH.out ?_
          case yA4 => (go_simp; try with_reducible rfl)
          try simp only [List.getElem_toArray, List.getElem_cons_succ, List.getElem_cons_zero, Act.put, List.setIfInBounds_toArray, List.set_cons_zero, List.set_cons_succ]
          refine wpAnyH_take (i := 5) (v := .agg (bva u)) rfl (by kernel_rfl) (by kernel_rfl) (by kernel_rfl) (fun _ _ _ h => h) (Or.inl ⟨by rfl, fun w' hw' => ?yAL5⟩) HH.out ?_
          case yAL5 => exact exec_load_at 37 (.tmp 75) rfl (ad.add (j * 128)) rfl (HC1.out w' hw') Try.underlying37 rfl HIU.out
          try simp only [List.getElem_toArray, List.getElem_cons_succ, List.getElem_cons_zero, Act.put, List.setIfInBounds_toArray, List.set_cons_zero, List.set_cons_succ]
          refine wpAnyH_ready (rs := [6]) (by kernel_rfl) (by simp) (AllReadyH.cons rfl (fun K hK => ?_) AllReadyH.nil)
          go_simp
          refine (HGA.out _).mono ?_
          rintro e y1 ⟨rfl, bw⟩
          go_simp
          refine hK.out _ _ (HH.out.trans (bw.mono HH.out.size)) (fun hh => ?_)
          have HH' := Lib.hid hh
          clear hh hK K HH bw
          have HH := Lib.hid HH'.out
          clear HH'
          refine wpAnyH_take (i := 7) (v := ?vA7) rfl (by kernel_rfl) (by kernel_rfl) (by kernel_rfl) (fun _ _ _ h => h) (Or.inl ⟨by rfl, fun w' _ => ?yA7⟩) HH.out ?_
          case yA7 => (go_simp; try with_reducible rfl)
          try simp only [List.getElem_toArray, List.getElem_cons_succ, List.getElem_cons_zero, Act.put, List.setIfInBounds_toArray, List.set_cons_zero, List.set_cons_succ]
          refine wpAnyH_take (i := 8) (v := undef) rfl (by kernel_rfl) (by kernel_rfl) (by kernel_rfl) (fun _ _ _ h => h) (Or.inr ⟨by rfl, rfl⟩) HH.out ?_
          refine wpAnyH_take (i := 9) (v := undef) rfl (by kernel_rfl) (by kernel_rfl) (by kernel_rfl) (fun _ _ _ h => h) (Or.inr ⟨by rfl, rfl⟩) HH.out ?_
          refine wpAnyH_take (i := 10) (v := undef) rfl (by kernel_rfl) (by kernel_rfl) (by kernel_rfl) (fun _ _ _ h => h) (Or.inr ⟨by rfl, rfl⟩) HH.out ?_
          try simp only [List.getElem_toArray, List.getElem_cons_succ, List.getElem_cons_zero, Act.put, List.setIfInBounds_toArray, List.set_cons_zero, List.set_cons_succ]
          refine wpAnyH_take (i := 11) (v := undef) rfl (by kernel_rfl) (by kernel_rfl) (by kernel_rfl) (fun _ _ _ h => h) (Or.inr ⟨by rfl, rfl⟩) HH.out ?_
          refine wpAnyH_take (i := 12) (v := undef) rfl (by kernel_rfl) (by kernel_rfl) (by kernel_rfl) (fun _ _ _ h => h) (Or.inr ⟨by rfl, rfl⟩) HH.out ?_
          refine wpAnyH_take (i := 13) (v := undef) rfl (by kernel_rfl) (by kernel_rfl) (by kernel_rfl) (fun _ _ _ h => h) (Or.inr ⟨by rfl, rfl⟩) HH.out ?_
          try simp only [List.getElem_toArray, List.getElem_cons_succ, List.getElem_cons_zero, Act.put, List.setIfInBounds_toArray, List.set_cons_zero, List.set_cons_succ]
          refine wpAnyH_take (i := 14) (v := undef) rfl (by kernel_rfl) (by kernel_rfl) (by kernel_rfl) (fun _ _ _ h => h) (Or.inr ⟨by rfl, rfl⟩) HH.out ?_
          refine wpAnyH_take (i := 15) (v := ?vA15) rfl (by kernel_rfl) (by kernel_rfl) (by kernel_rfl) (fun _ _ _ h => h) (Or.inl ⟨by rfl, fun w' _ => ?yA15⟩) HH.out ?_
          case yA15 => (go_simp; try with_reducible rfl)
          refine wpAnyH_take (i := 16) (v := ?vA16) rfl (by kernel_rfl) (by kernel_rfl) (by kernel_rfl) (fun _ _ _ h => h) (Or.inl ⟨by rfl, fun w' _ => ?yA16⟩) HH.out ?_
          case yA16 => (go_simp; try with_reducible rfl)
          try simp only [List.getElem_toArray, List.getElem_cons_succ, List.getElem_cons_zero, Act.put, List.setIfInBounds_toArray, List.set_cons_zero, List.set_cons_succ]
          refine wpAnyH_take (i := 17) (v := undef) rfl (by kernel_rfl) (by kernel_rfl) (by kernel_rfl) (fun _ _ _ h => h) (Or.inr ⟨by rfl, rfl⟩) HH.out ?_
          refine wpAnyH_take (i := 18) (v := undef) rfl (by kernel_rfl) (by kernel_rfl) (by kernel_rfl) (fun _ _ _ h => h) (Or.inr ⟨by rfl, rfl⟩) HH.out ?_
          refine wpAnyH_take (i := 19) (v := undef) rfl (by kernel_rfl) (by kernel_rfl) (by kernel_rfl) (fun _ _ _ h => h) (Or.inr ⟨by rfl, rfl⟩) HH.out ?_
          try simp only [List.getElem_toArray, List.getElem_cons_succ, List.getElem_cons_zero, Act.put, List.setIfInBounds_toArray, List.set_cons_zero, List.set_cons_succ]
          refine wpAnyH_take (i := 20) (v := undef) rfl (by kernel_rfl) (by kernel_rfl) (by kernel_rfl) (fun _ _ _ h => h) (Or.inr ⟨by rfl, rfl⟩) HH.out ?_
          refine wpAnyH_take (i := 21) (v := undef) rfl (by kernel_rfl) (by kernel_rfl) (by kernel_rfl) (fun _ _ _ h => h) (Or.inr ⟨by rfl, rfl⟩) HH.out ?_
          refine wpAnyH_take (i := 22) (v := undef) rfl (by kernel_rfl) (by kernel_rfl) (by kernel_rfl) (fun _ _ _ h => h) (Or.inr ⟨by rfl, rfl⟩) HH.out ?_
          try simp only [List.getElem_toArray, List.getElem_cons_succ, List.getElem_cons_zero, Act.put, List.setIfInBounds_toArray, List.set_cons_zero, List.set_cons_succ]
          refine wpAnyH_take (i := 23) (v := undef) rfl (by kernel_rfl) (by kernel_rfl) (by kernel_rfl) (fun _ _ _ h => h) (Or.inr ⟨by rfl, rfl⟩) HH.out ?_
          refine wpAnyH_take (i := 24) (v := undef) rfl (by kernel_rfl) (by kernel_rfl) (by kernel_rfl) (fun _ _ _ h => h) (Or.inr ⟨by rfl, rfl⟩) HH.out ?_
          refine wpAnyH_take (i := 25) (v := undef) rfl (by kernel_rfl) (by kernel_rfl) (by kernel_rfl) (fun _ _ _ h => h) (Or.inr ⟨by rfl, rfl⟩) HH.out ?_
          try simp only [List.getElem_toArray, List.getElem_cons_succ, List.getElem_cons_zero, Act.put, List.setIfInBounds_toArray, List.set_cons_zero, List.set_cons_succ]
          refine wpAnyH_take (i := 26) (v := undef) rfl (by kernel_rfl) (by kernel_rfl) (by kernel_rfl) (fun _ _ _ h => h) (Or.inr ⟨by rfl, rfl⟩) HH.out ?_
          refine wpAnyH_take (i := 27) (v := undef) rfl (by kernel_rfl) (by kernel_rfl) (by kernel_rfl) (fun _ _ _ h => h) (Or.inr ⟨by rfl, rfl⟩) HH.out ?_
          refine wpAnyH_take (i := 28) (v := ?vA28) rfl (by kernel_rfl) (by kernel_rfl) (by kernel_rfl) (fun _ _ _ h => h) (Or.inl ⟨by rfl, fun w' _ => ?yA28⟩) HH.out ?_
          case yA28 => (go_simp; try with_reducible rfl)
          try simp only [List.getElem_toArray, List.getElem_cons_succ, List.getElem_cons_zero, Act.put, List.setIfInBounds_toArray, List.set_cons_zero, List.set_cons_succ]
          refine wpAnyH_take (i := 29) (v := ?vA29) rfl (by kernel_rfl) (by kernel_rfl) (by kernel_rfl) (fun _ _ _ h => h) (Or.inl ⟨by rfl, fun w' _ => ?yA29⟩) HH.out ?_
          case yA29 => (go_simp; try with_reducible rfl)
          try simp only [List.getElem_toArray, List.getElem_cons_succ, List.getElem_cons_zero, Act.put, List.setIfInBounds_toArray, List.set_cons_zero, List.set_cons_succ]
          refine wpAnyH_done (by kernel_rfl) ?_ _
          go_wp2_with fail
          go_meet
          exact ⟨rfl, HH.out⟩
        | true =>
          cases gb with
          | false =>
            refine wp_region_held_drew (S := fun w' => Below w106.heap.size w106 w') (by kernel_rfl) (Below.refl _ _).drew (fun hh => ?_)
            have HH := Lib.hid hh
            clear hh
            refine wpAnyH_take (i := 0) (v := ?vB0) rfl (by kernel_rfl) (by kernel_rfl) (by kernel_rfl) (fun _ _ _ h => h) (Or.inl ⟨by rfl, fun w' _ => ?yB0⟩) HH.out ?_
            case yB0 => (go_simp; try with_reducible rfl)
            refine wpAnyH_take (i := 1) (v := ?vB1) rfl (by kernel_rfl) (by kernel_rfl) (by kernel_rfl) (fun _ _ _ h => h) (Or.inl ⟨by rfl, fun w' _ => ?yB1⟩) HH.out ?_
            case yB1 => (go_simp; try with_reducible rfl)
            try simp only [List.getElem_toArray, List.getElem_cons_succ, List.getElem_cons_zero, Act.put, List.setIfInBounds_toArray, List.set_cons_zero, List.set_cons_succ]
            refine wpAnyH_take (i := 2) (v := .slice (some ad) k cu) rfl (by kernel_rfl) (by kernel_rfl) (by kernel_rfl) (fun _ _ _ h => h) (Or.inl ⟨by rfl, fun w' hw' => ?yB2⟩) HH.out ?_
            case yB2 => (have hc : w'.cell? ⟨b3, 0, none⟩ = some (.slice (some ad) k cu) := (BS106.out.1.below hw').cell 0; go_simp; try with_reducible rfl)
            refine wpAnyH_take (i := 3) (v := ?vB3) rfl (by kernel_rfl) (by kernel_rfl) (by kernel_rfl) (fun _ _ _ h => h) (Or.inl ⟨by rfl, fun w' _ => ?yB3⟩) HH.out ?_
            case yB3 => (go_simp; try with_reducible rfl)
            refine wpAnyH_take (i := 4) (v := ?vB4) rfl (by kernel_rfl) (by kernel_rfl) (by kernel_rfl) (fun _ _ _ h => h) (Or.inl ⟨by rfl, fun w' _ => ?yB4⟩) HH.out ?_
            case yB4 => (go_simp; try with_reducible rfl)
            try simp only [List.getElem_toArray, List.getElem_cons_succ, List.getElem_cons_zero, Act.put, List.setIfInBounds_toArray, List.set_cons_zero, List.set_cons_succ]
            refine wpAnyH_take (i := 5) (v := .agg (bva u)) rfl (by kernel_rfl) (by kernel_rfl) (by kernel_rfl) (fun _ _ _ h => h) (Or.inl ⟨by rfl, fun w' hw' => ?yBL5⟩) HH.out ?_
            case yBL5 => exact exec_load_at 37 (.tmp 75) rfl (ad.add (j * 128)) rfl (HC1.out w' hw') Try.underlying37 rfl HIU.out
            try simp only [List.getElem_toArray, List.getElem_cons_succ, List.getElem_cons_zero, Act.put, List.setIfInBounds_toArray, List.set_cons_zero, List.set_cons_succ]
            refine wpAnyH_ready (rs := [6]) (by kernel_rfl) (by simp) (AllReadyH.cons rfl (fun K hK => ?_) AllReadyH.nil)
            go_simp
            refine (HGA.out _).mono ?_
            rintro e y1 ⟨rfl, bw⟩
            go_simp
            refine hK.out _ _ (HH.out.trans (bw.mono HH.out.size)) (fun hh => ?_)
            have HH' := Lib.hid hh
            clear hh hK K HH bw
            have HH := Lib.hid HH'.out
            clear HH'
            refine wpAnyH_take (i := 7) (v := ?vB7) rfl (by kernel_rfl) (by kernel_rfl) (by kernel_rfl) (fun _ _ _ h => h) (Or.inl ⟨by rfl, fun w' _ => ?yB7⟩) HH.out ?_
            case yB7 => (go_simp; try with_reducible rfl)
            try simp only [List.getElem_toArray, List.getElem_cons_succ, List.getElem_cons_zero, Act.put, List.setIfInBounds_toArray, List.set_cons_zero, List.set_cons_succ]
            refine wpAnyH_take (i := 8) (v := ?vB8) rfl (by kernel_rfl) (by kernel_rfl) (by kernel_rfl) (fun _ _ _ h => h) (Or.inl ⟨by rfl, fun w' _ => ?yB8⟩) HH.out ?_
            case yB8 => (go_simp; try with_reducible rfl)
            try simp only [List.getElem_toArray, List.getElem_cons_succ, List.getElem_cons_zero, Act.put, List.setIfInBounds_toArray, List.set_cons_zero, List.set_cons_succ]
            refine wpAnyH_take (i := 9) (v := ?vB9) rfl (by kernel_rfl) (by kernel_rfl) (by kernel_rfl) (fun _ _ _ h => h) (Or.inl ⟨by rfl, fun w' _ => ?yB9⟩) HH.out ?_
            case yB9 => (go_simp; try with_reducible rfl)
            refine wpAnyH_take (i := 10) (v := .slice (some ae) k cv) rfl (by kernel_rfl) (by kernel_rfl) (by kernel_rfl) (fun _ _ _ h => h) (Or.inl ⟨by rfl, fun w' hw' => ?yB10⟩) HH.out ?_
            case yB10 => (have hc : w'.cell? ⟨b3, 1, none⟩ = some (.slice (some ae) k cv) := (BS106.out.1.below hw').cell 1; go_simp; try with_reducible rfl)
            try simp only [List.getElem_toArray, List.getElem_cons_succ, List.getElem_cons_zero, Act.put, List.setIfInBounds_toArray, List.set_cons_zero, List.set_cons_succ]
            refine wpAnyH_take (i := 11) (v := ?vB11) rfl (by kernel_rfl) (by kernel_rfl) (by kernel_rfl) (fun _ _ _ h => h) (Or.inl ⟨by rfl, fun w' _ => ?yB11⟩) HH.out ?_
            case yB11 => (go_simp; try with_reducible rfl)
            try simp only [List.getElem_toArray, List.getElem_cons_succ, List.getElem_cons_zero, Act.put, List.setIfInBounds_toArray, List.set_cons_zero, List.set_cons_succ]
            refine wpAnyH_take (i := 12) (v := ?vB12) rfl (by kernel_rfl) (by kernel_rfl) (by kernel_rfl) (fun _ _ _ h => h) (Or.inl ⟨by rfl, fun w' _ => ?yB12⟩) HH.out ?_
            case yB12 => (go_simp; try with_reducible rfl)
            refine wpAnyH_take (i := 13) (v := .agg (bva v)) rfl (by kernel_rfl) (by kernel_rfl) (by kernel_rfl) (fun _ _ _ h => h) (Or.inl ⟨by rfl, fun w' hw' => ?yBL13⟩) HH.out ?_
            case yBL13 => exact exec_load_at 37 (.tmp 83) rfl (ae.add (j * 128)) rfl (HC2.out w' hw') Try.underlying37 rfl HIV.out
            try simp only [List.getElem_toArray, List.getElem_cons_succ, List.getElem_cons_zero, Act.put, List.setIfInBounds_toArray, List.set_cons_zero, List.set_cons_succ]
            try simp only [List.getElem_toArray, List.getElem_cons_succ, List.getElem_cons_zero, Act.put, List.setIfInBounds_toArray, List.set_cons_zero, List.set_cons_succ]
            refine wpAnyH_ready (rs := [14]) (by kernel_rfl) (by simp) (AllReadyH.cons rfl (fun K hK => ?_) AllReadyH.nil)
            rw [if_pos (by rfl)]
            go_simp
            refine (HGB.out _).mono ?_
            rintro e y2 ⟨rfl, bw⟩
            go_simp
            refine hK.out _ _ (HH.out.trans (bw.mono HH.out.size)) (fun hh => ?_)
            have HH' := Lib.hid hh
            clear hh hK K HH bw
            have HH := Lib.hid HH'.out
            clear HH'
            try simp only [List.getElem_toArray, List.getElem_cons_succ, List.getElem_cons_zero, Act.put, List.setIfInBounds_toArray, List.set_cons_zero, List.set_cons_succ]
            refine wpAnyH_take (i := 15) (v := ?vB15) rfl (by kernel_rfl) (by kernel_rfl) (by kernel_rfl) (fun _ _ _ h => h) (Or.inl ⟨by rfl, fun w' _ => ?yB15⟩) HH.out ?_
            case yB15 => (go_simp; try with_reducible rfl)
            refine wpAnyH_take (i := 16) (v := ?vB16) rfl (by kernel_rfl) (by kernel_rfl) (by kernel_rfl) (fun _ _ _ h => h) (Or.inl ⟨by rfl, fun w' _ => ?yB16⟩) HH.out ?_
            case yB16 => (go_simp; try with_reducible rfl)
            try simp only [List.getElem_toArray, List.getElem_cons_succ, List.getElem_cons_zero, Act.put, List.setIfInBounds_toArray, List.set_cons_zero, List.set_cons_succ]
            refine wpAnyH_take (i := 17) (v := undef) rfl (by kernel_rfl) (by kernel_rfl) (by kernel_rfl) (fun _ _ _ h => h) (Or.inr ⟨by rfl, rfl⟩) HH.out ?_
            refine wpAnyH_take (i := 18) (v := undef) rfl (by kernel_rfl) (by kernel_rfl) (by kernel_rfl) (fun _ _ _ h => h) (Or.inr ⟨by rfl, rfl⟩) HH.out ?_
            refine wpAnyH_take (i := 19) (v := undef) rfl (by kernel_rfl) (by kernel_rfl) (by kernel_rfl) (fun _ _ _ h => h) (Or.inr ⟨by rfl, rfl⟩) HH.out ?_
            try simp only [List.getElem_toArray, List.getElem_cons_succ, List.getElem_cons_zero, Act.put, List.setIfInBounds_toArray, List.set_cons_zero, List.set_cons_succ]
            refine wpAnyH_take (i := 20) (v := undef) rfl (by kernel_rfl) (by kernel_rfl) (by kernel_rfl) (fun _ _ _ h => h) (Or.inr ⟨by rfl, rfl⟩) HH.out ?_
            refine wpAnyH_take (i := 21) (v := undef) rfl (by kernel_rfl) (by kernel_rfl) (by kernel_rfl) (fun _ _ _ h => h) (Or.inr ⟨by rfl, rfl⟩) HH.out ?_
            refine wpAnyH_take (i := 22) (v := undef) rfl (by kernel_rfl) (by kernel_rfl) (by kernel_rfl) (fun _ _ _ h => h) (Or.inr ⟨by rfl, rfl⟩) HH.out ?_
            try simp only [List.getElem_toArray, List.getElem_cons_succ, List.getElem_cons_zero, Act.put, List.setIfInBounds_toArray, List.set_cons_zero, List.set_cons_succ]
            refine wpAnyH_take (i := 23) (v := undef) rfl (by kernel_rfl) (by kernel_rfl) (by kernel_rfl) (fun _ _ _ h => h) (Or.inr ⟨by rfl, rfl⟩) HH.out ?_
            refine wpAnyH_take (i := 24) (v := undef) rfl (by kernel_rfl) (by kernel_rfl) (by kernel_rfl) (fun _ _ _ h => h) (Or.inr ⟨by rfl, rfl⟩) HH.out ?_
            refine wpAnyH_take (i := 25) (v := undef) rfl (by kernel_rfl) (by kernel_rfl) (by kernel_rfl) (fun _ _ _ h => h) (Or.inr ⟨by rfl, rfl⟩) HH.out ?_
            try simp only [List.getElem_toArray, List.getElem_cons_succ, List.getElem_cons_zero, Act.put, List.setIfInBounds_toArray, List.set_cons_zero, List.set_cons_succ]
            refine wpAnyH_take (i := 26) (v := undef) rfl (by kernel_rfl) (by kernel_rfl) (by kernel_rfl) (fun _ _ _ h => h) (Or.inr ⟨by rfl, rfl⟩) HH.out ?_
            refine wpAnyH_take (i := 27) (v := undef) rfl (by kernel_rfl) (by kernel_rfl) (by kernel_rfl) (fun _ _ _ h => h) (Or.inr ⟨by rfl, rfl⟩) HH.out ?_
            refine wpAnyH_take (i := 28) (v := ?vB28) rfl (by kernel_rfl) (by kernel_rfl) (by kernel_rfl) (fun _ _ _ h => h) (Or.inl ⟨by rfl, fun w' _ => ?yB28⟩) HH.out ?_
            case yB28 => (go_simp; try with_reducible rfl)
            try simp only [List.getElem_toArray, List.getElem_cons_succ, List.getElem_cons_zero, Act.put, List.setIfInBounds_toArray, List.set_cons_zero, List.set_cons_succ]
            refine wpAnyH_take (i := 29) (v := ?vB29) rfl (by kernel_rfl) (by kernel_rfl) (by kernel_rfl) (fun _ _ _ h => h) (Or.inl ⟨by rfl, fun w' _ => ?yB29⟩) HH.out ?_
            case yB29 => (go_simp; try with_reducible rfl)
            try simp only [List.getElem_toArray, List.getElem_cons_succ, List.getElem_cons_zero, Act.put, List.setIfInBounds_toArray, List.set_cons_zero, List.set_cons_succ]
            refine wpAnyH_done (by kernel_rfl) ?_ _
            go_wp2_with fail
            go_meet
            exact ⟨rfl, HH.out⟩
          | true =>
            refine wp_region_held_drew (S := fun w' => Below w106.heap.size w106 w') (by kernel_rfl) (Below.refl _ _).drew (fun hh => ?_)
            have HH := Lib.hid hh
            clear hh
            refine wpAnyH_take (i := 0) (v := ?vC0) rfl (by kernel_rfl) (by kernel_rfl) (by kernel_rfl) (fun _ _ _ h => h) (Or.inl ⟨by rfl, fun w' _ => ?yC0⟩) HH.out ?_
            case yC0 => (go_simp; try with_reducible rfl)
            refine wpAnyH_take (i := 1) (v := ?vC1) rfl (by kernel_rfl) (by kernel_rfl) (by kernel_rfl) (fun _ _ _ h => h) (Or.inl ⟨by rfl, fun w' _ => ?yC1⟩) HH.out ?_
            case yC1 => (go_simp; try with_reducible rfl)
            try simp only [List.getElem_toArray, List.getElem_cons_succ, List.getElem_cons_zero, Act.put, List.setIfInBounds_toArray, List.set_cons_zero, List.set_cons_succ]
            refine wpAnyH_take (i := 2) (v := .slice (some ad) k cu) rfl (by kernel_rfl) (by kernel_rfl) (by kernel_rfl) (fun _ _ _ h => h) (Or.inl ⟨by rfl, fun w' hw' => ?yC2⟩) HH.out ?_
            case yC2 => (have hc : w'.cell? ⟨b3, 0, none⟩ = some (.slice (some ad) k cu) := (BS106.out.1.below hw').cell 0; go_simp; try with_reducible rfl)
            refine wpAnyH_take (i := 3) (v := ?vC3) rfl (by kernel_rfl) (by kernel_rfl) (by kernel_rfl) (fun _ _ _ h => h) (Or.inl ⟨by rfl, fun w' _ => ?yC3⟩) HH.out ?_
            case yC3 => (go_simp; try with_reducible rfl)
            refine wpAnyH_take (i := 4) (v := ?vC4) rfl (by kernel_rfl) (by kernel_rfl) (by kernel_rfl) (fun _ _ _ h => h) (Or.inl ⟨by rfl, fun w' _ => ?yC4⟩) HH.out ?_
            case yC4 => (go_simp; try with_reducible rfl)
            try simp only [List.getElem_toArray, List.getElem_cons_succ, List.getElem_cons_zero, Act.put, List.setIfInBounds_toArray, List.set_cons_zero, List.set_cons_succ]
            refine wpAnyH_take (i := 5) (v := .agg (bva u)) rfl (by kernel_rfl) (by kernel_rfl) (by kernel_rfl) (fun _ _ _ h => h) (Or.inl ⟨by rfl, fun w' hw' => ?yCL5⟩) HH.out ?_
            case yCL5 => exact exec_load_at 37 (.tmp 75) rfl (ad.add (j * 128)) rfl (HC1.out w' hw') Try.underlying37 rfl HIU.out
            try simp only [List.getElem_toArray, List.getElem_cons_succ, List.getElem_cons_zero, Act.put, List.setIfInBounds_toArray, List.set_cons_zero, List.set_cons_succ]
            refine wpAnyH_ready (rs := [6]) (by kernel_rfl) (by simp) (AllReadyH.cons rfl (fun K hK => ?_) AllReadyH.nil)
            go_simp
            refine (HGA.out _).mono ?_
            rintro e y1 ⟨rfl, bw⟩
            go_simp
            refine hK.out _ _ (HH.out.trans (bw.mono HH.out.size)) (fun hh => ?_)
            have HH' := Lib.hid hh
            clear hh hK K HH bw
            have HH := Lib.hid HH'.out
            clear HH'
            refine wpAnyH_take (i := 7) (v := ?vC7) rfl (by kernel_rfl) (by kernel_rfl) (by kernel_rfl) (fun _ _ _ h => h) (Or.inl ⟨by rfl, fun w' _ => ?yC7⟩) HH.out ?_
            case yC7 => (go_simp; try with_reducible rfl)
            try simp only [List.getElem_toArray, List.getElem_cons_succ, List.getElem_cons_zero, Act.put, List.setIfInBounds_toArray, List.set_cons_zero, List.set_cons_succ]
            refine wpAnyH_take (i := 8) (v := ?vC8) rfl (by kernel_rfl) (by kernel_rfl) (by kernel_rfl) (fun _ _ _ h => h) (Or.inl ⟨by rfl, fun w' _ => ?yC8⟩) HH.out ?_
            case yC8 => (go_simp; try with_reducible rfl)
            try simp only [List.getElem_toArray, List.getElem_cons_succ, List.getElem_cons_zero, Act.put, List.setIfInBounds_toArray, List.set_cons_zero, List.set_cons_succ]
            refine wpAnyH_take (i := 9) (v := ?vC9) rfl (by kernel_rfl) (by kernel_rfl) (by kernel_rfl) (fun _ _ _ h => h) (Or.inl ⟨by rfl, fun w' _ => ?yC9⟩) HH.out ?_
            case yC9 => (go_simp; try with_reducible rfl)
            refine wpAnyH_take (i := 10) (v := .slice (some ae) k cv) rfl (by kernel_rfl) (by kernel_rfl) (by kernel_rfl) (fun _ _ _ h => h) (Or.inl ⟨by rfl, fun w' hw' => ?yC10⟩) HH.out ?_
            case yC10 => (have hc : w'.cell? ⟨b3, 1, none⟩ = some (.slice (some ae) k cv) := (BS106.out.1.below hw').cell 1; go_simp; try with_reducible rfl)
            try simp only [List.getElem_toArray, List.getElem_cons_succ, List.getElem_cons_zero, Act.put, List.setIfInBounds_toArray, List.set_cons_zero, List.set_cons_succ]
            refine wpAnyH_take (i := 11) (v := ?vC11) rfl (by kernel_rfl) (by kernel_rfl) (by kernel_rfl) (fun _ _ _ h => h) (Or.inl ⟨by rfl, fun w' _ => ?yC11⟩) HH.out ?_
            case yC11 => (go_simp; try with_reducible rfl)
            try simp only [List.getElem_toArray, List.getElem_cons_succ, List.getElem_cons_zero, Act.put, List.setIfInBounds_toArray, List.set_cons_zero, List.set_cons_succ]
            refine wpAnyH_take (i := 12) (v := ?vC12) rfl (by kernel_rfl) (by kernel_rfl) (by kernel_rfl) (fun _ _ _ h => h) (Or.inl ⟨by rfl, fun w' _ => ?yC12⟩) HH.out ?_
            case yC12 => (go_simp; try with_reducible rfl)
            refine wpAnyH_take (i := 13) (v := .agg (bva v)) rfl (by kernel_rfl) (by kernel_rfl) (by kernel_rfl) (fun _ _ _ h => h) (Or.inl ⟨by rfl, fun w' hw' => ?yCL13⟩) HH.out ?_
            case yCL13 => exact exec_load_at 37 (.tmp 83) rfl (ae.add (j * 128)) rfl (HC2.out w' hw') Try.underlying37 rfl HIV.out
            try simp only [List.getElem_toArray, List.getElem_cons_succ, List.getElem_cons_zero, Act.put, List.setIfInBounds_toArray, List.set_cons_zero, List.set_cons_succ]
            try simp only [List.getElem_toArray, List.getElem_cons_succ, List.getElem_cons_zero, Act.put, List.setIfInBounds_toArray, List.set_cons_zero, List.set_cons_succ]
            refine wpAnyH_ready (rs := [14]) (by kernel_rfl) (by simp) (AllReadyH.cons rfl (fun K hK => ?_) AllReadyH.nil)
            rw [if_pos (by rfl)]
            go_simp
            refine (HGB.out _).mono ?_
            rintro e y2 ⟨rfl, bw⟩
            go_simp
            refine hK.out _ _ (HH.out.trans (bw.mono HH.out.size)) (fun hh => ?_)
            have HH' := Lib.hid hh
            clear hh hK K HH bw
            have HH := Lib.hid HH'.out
            clear HH'
            try simp only [List.getElem_toArray, List.getElem_cons_succ, List.getElem_cons_zero, Act.put, List.setIfInBounds_toArray, List.set_cons_zero, List.set_cons_succ]
            refine wpAnyH_take (i := 15) (v := ?vC15) rfl (by kernel_rfl) (by kernel_rfl) (by kernel_rfl) (fun _ _ _ h => h) (Or.inl ⟨by rfl, fun w' _ => ?yC15⟩) HH.out ?_
            case yC15 => (go_simp; try with_reducible rfl)
            refine wpAnyH_take (i := 16) (v := ?vC16) rfl (by kernel_rfl) (by kernel_rfl) (by kernel_rfl) (fun _ _ _ h => h) (Or.inl ⟨by rfl, fun w' _ => ?yC16⟩) HH.out ?_
            case yC16 => (go_simp; try with_reducible rfl)
            try simp only [List.getElem_toArray, List.getElem_cons_succ, List.getElem_cons_zero, Act.put, List.setIfInBounds_toArray, List.set_cons_zero, List.set_cons_succ]
            refine wpAnyH_take (i := 17) (v := ?vC17) rfl (by kernel_rfl) (by kernel_rfl) (by kernel_rfl) (fun _ _ _ h => h) (Or.inl ⟨by rfl, fun w' _ => ?yC17⟩) HH.out ?_
            case yC17 => (go_simp; try with_reducible rfl)
            refine wpAnyH_take (i := 18) (v := .slice (some ad) k cu) rfl (by kernel_rfl) (by kernel_rfl) (by kernel_rfl) (fun _ _ _ h => h) (Or.inl ⟨by rfl, fun w' hw' => ?yC18⟩) HH.out ?_
            case yC18 => (have hc : w'.cell? ⟨b3, 0, none⟩ = some (.slice (some ad) k cu) := (BS106.out.1.below hw').cell 0; go_simp; try with_reducible rfl)
            try simp only [List.getElem_toArray, List.getElem_cons_succ, List.getElem_cons_zero, Act.put, List.setIfInBounds_toArray, List.set_cons_zero, List.set_cons_succ]
            refine wpAnyH_take (i := 19) (v := ?vC19) rfl (by kernel_rfl) (by kernel_rfl) (by kernel_rfl) (fun _ _ _ h => h) (Or.inl ⟨by rfl, fun w' _ => ?yC19⟩) HH.out ?_
            case yC19 => (go_simp; try with_reducible rfl)
            try simp only [List.getElem_toArray, List.getElem_cons_succ, List.getElem_cons_zero, Act.put, List.setIfInBounds_toArray, List.set_cons_zero, List.set_cons_succ]
            refine wpAnyH_take (i := 20) (v := ?vC20) rfl (by kernel_rfl) (by kernel_rfl) (by kernel_rfl) (fun _ _ _ h => h) (Or.inl ⟨by rfl, fun w' _ => ?yC20⟩) HH.out ?_
            case yC20 => (go_simp; try with_reducible rfl)
            refine wpAnyH_take (i := 21) (v := .agg (bva u)) rfl (by kernel_rfl) (by kernel_rfl) (by kernel_rfl) (fun _ _ _ h => h) (Or.inl ⟨by rfl, fun w' hw' => ?yCL21⟩) HH.out ?_
            case yCL21 => exact exec_load_at 37 (.tmp 91) rfl (ad.add (j * 128)) rfl (HC1.out w' hw') Try.underlying37 rfl HIU.out
            try simp only [List.getElem_toArray, List.getElem_cons_succ, List.getElem_cons_zero, Act.put, List.setIfInBounds_toArray, List.set_cons_zero, List.set_cons_succ]
            refine wpAnyH_take (i := 22) (v := ?vC22) rfl (by kernel_rfl) (by kernel_rfl) (by kernel_rfl) (fun _ _ _ h => h) (Or.inl ⟨by rfl, fun w' _ => ?yC22⟩) HH.out ?_
            case yC22 => (go_simp; try with_reducible rfl)
            try simp only [List.getElem_toArray, List.getElem_cons_succ, List.getElem_cons_zero, Act.put, List.setIfInBounds_toArray, List.set_cons_zero, List.set_cons_succ]
            refine wpAnyH_take (i := 23) (v := .slice (some ae) k cv) rfl (by kernel_rfl) (by kernel_rfl) (by kernel_rfl) (fun _ _ _ h => h) (Or.inl ⟨by rfl, fun w' hw' => ?yC23⟩) HH.out ?_
            case yC23 => (have hc : w'.cell? ⟨b3, 1, none⟩ = some (.slice (some ae) k cv) := (BS106.out.1.below hw').cell 1; go_simp; try with_reducible rfl)
            try simp only [List.getElem_toArray, List.getElem_cons_succ, List.getElem_cons_zero, Act.put, List.setIfInBounds_toArray, List.set_cons_zero, List.set_cons_succ]
            refine wpAnyH_take (i := 24) (v := ?vC24) rfl (by kernel_rfl) (by kernel_rfl) (by kernel_rfl) (fun _ _ _ h => h) (Or.inl ⟨by rfl, fun w' _ => ?yC24⟩) HH.out ?_
            case yC24 => (go_simp; try with_reducible rfl)
            try simp only [List.getElem_toArray, List.getElem_cons_succ, List.getElem_cons_zero, Act.put, List.setIfInBounds_toArray, List.set_cons_zero, List.set_cons_succ]
            refine wpAnyH_take (i := 25) (v := ?vC25) rfl (by kernel_rfl) (by kernel_rfl) (by kernel_rfl) (fun _ _ _ h => h) (Or.inl ⟨by rfl, fun w' _ => ?yC25⟩) HH.out ?_
            case yC25 => (go_simp; try with_reducible rfl)
            try simp only [List.getElem_toArray, List.getElem_cons_succ, List.getElem_cons_zero, Act.put, List.setIfInBounds_toArray, List.set_cons_zero, List.set_cons_succ]
            refine wpAnyH_take (i := 26) (v := .agg (bva v)) rfl (by kernel_rfl) (by kernel_rfl) (by kernel_rfl) (fun _ _ _ h => h) (Or.inl ⟨by rfl, fun w' hw' => ?yCL26⟩) HH.out ?_
            case yCL26 => exact exec_load_at 37 (.tmp 96) rfl (ae.add (j * 128)) rfl (HC2.out w' hw') Try.underlying37 rfl HIV.out
            refine wpAnyH_take (i := 27) (v := .bool (!uv)) rfl (by kernel_rfl) (by kernel_rfl) (by kernel_rfl) (fun _ _ _ h => h) (Or.inl ⟨by rfl, fun w' hw' => ?yC27⟩) HH.out ?_
            case yC27 => (go_simp; rw [HQU.out]; rfl)
            refine wpAnyH_take (i := 28) (v := .bool (!uv)) rfl (by kernel_rfl) (by kernel_rfl) (by kernel_rfl) (fun _ _ _ h => h) (Or.inl ⟨by rfl, fun w' hw' => ?yC28⟩) HH.out ?_
            case yC28 => (go_simp; try rfl)
            try simp only [List.getElem_toArray, List.getElem_cons_succ, List.getElem_cons_zero, Act.put, List.setIfInBounds_toArray, List.set_cons_zero, List.set_cons_succ]
            refine wpAnyH_take (i := 29) (v := ?vC29) rfl (by kernel_rfl) (by kernel_rfl) (by kernel_rfl) (fun _ _ _ h => h) (Or.inl ⟨by rfl, fun w' _ => ?yC29⟩) HH.out ?_
            case yC29 => (go_simp; try with_reducible rfl)
            try simp only [List.getElem_toArray, List.getElem_cons_succ, List.getElem_cons_zero, Act.put, List.setIfInBounds_toArray, List.set_cons_zero, List.set_cons_succ]
            refine wpAnyH_done (by kernel_rfl) ?_ _
            go_wp2_with fail
            go_meet
            exact ⟨rfl, HH.out⟩
      case rest =>
        obtain ⟨rfl, hb⟩ := hcut
        have HE := Lib.hid (H106.out.below hb)
        have RUE := Lib.hid (RU106.out.below hb)
        have RVE := Lib.hid (RV106.out.below hb)
        have BSE := Lib.hid (BS106.out.below hb)
        have PXE := Lib.hid (PX106.out.below hb)
        have PYE := Lib.hid (PY106.out.below hb)
        clear hb HC1 HC2 HGA HGB HQU H106 RU106 RV106 BS106 PX106 PY106
        have hee : ∀ W : World, True := fun _ => trivial
        by_cases hxy : X = Y
        · have HQ2 := Lib.hid (show ∀ W, (Op.equalIn 10000 37 (.agg (bva X)) (.agg (bva Y))).run Try.prog W = .ok true W from fun W => by rw [eq_sec X Y HX3.out HY3.out, decide_eq_true hxy])
          have hq2 := HQ2.out
          clear hxy HOR
          go_wp2_with (first
            | (refine wpList_load_if (by rfl) 37 (.tmp 14) rfl rfl PXE.out.1 Try.underlying37 rfl HIX.out ?_)
            | (refine wpList_load_if (by rfl) 37 (.tmp 16) rfl rfl PYE.out.1 Try.underlying37 rfl HIY.out ?_))
          go_roundw
          case rel => exact ⟨j + 1, _, HLT.out, by go_num, HE.out, RUE.out, RVE.out, BSE.out⟩
          case measure => (have := HLT.out; simp [intOf]; omega)
        · have HQ2 := Lib.hid (show ∀ W, (Op.equalIn 10000 37 (.agg (bva X)) (.agg (bva Y))).run Try.prog W = .ok false W from fun W => by rw [eq_sec X Y HX3.out HY3.out, decide_eq_false hxy])
          have hq2 := HQ2.out
          obtain ⟨rfl, rfl, rfl⟩ := HOR.out.resolve_left hxy
          clear hxy HOR
          go_wp2_with (first
            | (refine wpList_load_if (by rfl) 37 (.tmp 14) rfl rfl PXE.out.1 Try.underlying37 rfl HIX.out ?_)
            | (refine wpList_load_if (by rfl) 37 (.tmp 16) rfl rfl PYE.out.1 Try.underlying37 rfl HIY.out ?_))
          go_roundw
          case rel => exact ⟨j + 1, _, HLT.out, by go_num, HE.out, RUE.out, RVE.out, BSE.out⟩
          case measure => (have := HLT.out; simp [intOf]; omega)
    · obtain rfl : j = k := by have := HJ.out; omega
      have j1 : ¬ (j : Int) < (j : Int) := by omega
      clear hlt
      go_wp2_with fail
      go_ret
      exact ⟨rfl, B1.out.trans (H.out.bel.mono B1.out.size)⟩
theorem scrubTurned_own : ownKnob Try.prog.godebug = none := by kernel_rfl
theorem scrubTurned_laid : laidOutB Try.prog = true := by kernel_rfl

set_option maxRecDepth 100000 in
theorem scrubTurned_lifted (os : Os) (started : os.Started) (H : Type) (enc : TypeId × Value → H) :
    ReturnsInHanded {} Try.checked os 10 .any (Rows.scrubTurnedSpec.pre6 enc Try.prog Try.f10 Rows.scrubTurnedRow.domain false) (Rows.scrubTurnedSpec.post enc Try.prog Try.f10 false true false false) := by
  refine returnsInHanded_of_change (C := Try.checked) scrubTurned_own started (by kernel_rfl) Try.func10
    (ChangeSpec.witness6 (enc := enc) (C := Try.checked) false ⟨#[], #[.slice none 0 0, .slice none 0 0], []⟩ 8 (by kernel_rfl) (by kernel_rfl) (by kernel_rfl) (by kernel_rfl)) ?_
  intro W base args ds gs before hval0 hW _ _
  have hval : ∀ (j : Nat) t v, Try.f10.params[j]? = some t → args[j]? = some v → Value.okWide Try.prog W .any base t v := hval0
  have hW' := hW
  obtain ⟨p, q, hA0, hV, rfl, hfz, hnd⟩ := hW
  have hA : DataW.TrodAll enc Try.prog W 0 (fun _ => true) true Try.f10.params.toList args.toList ds p := hA0
  rw [Try.params10] at hA hval
  obtain ⟨v0, vs0, d0, ds0, p0, q0, hargs, rfl, rfl, h0, r0⟩ := trodAll_cons hA
  obtain ⟨v1, vs1, d1, ds1, p1, q1, rfl, rfl, rfl, h1, r1⟩ := trodAll_cons r0
  obtain ⟨rfl, rfl, rfl⟩ := trodAll_nil r1
  obtain rfl : args = #[v0, v1] := by cases args; simp_all
  obtain ⟨rfl, rfl⟩ := trodVars_none hV
  obtain ⟨a0, n0, c0, rfl⟩ := okWide_slice Try.underlying22 (hval 0 22 v0 rfl rfl)
  have lt0 : ∀ x ∈ p0, x.block < W.heap.size := by obtain ⟨m, hm⟩ := h0; exact DataW.trod_lt m _ _ _ hm
  obtain ⟨l0, hl0, hc0, hm0, hr0⟩ := Sc.open_pairs h0
  obtain ⟨a1, n1, c1, rfl⟩ := okWide_slice Try.underlying22 (hval 1 22 v1 rfl rfl)
  have lt1 : ∀ x ∈ p1, x.block < W.heap.size := by obtain ⟨m, hm⟩ := h1; exact DataW.trod_lt m _ _ _ hm
  obtain ⟨l1, hl1, hc1, hm1, hr1⟩ := Sc.open_pairs h1
  clear hA0 hval0
  refine (scrubTurned_any W a0 n0 c0 l0 hl0 hc0 hm0 hr0 a1 n1 c1 l1 hl1 hc1 hm1 hr1).mono fun e W' ⟨he, bel⟩ => ?_
  subst he
  exact ⟨_, rfl, _, _, _, [], _, [], hW', trodAll_mk1 (shut_bool Try.underlying4 _), (trodAll_cons_mk (Below.trod scrubTurned_laid (by kernel_rfl) (of_decide_eq_true (by kernel_rfl)) h0 bel lt0) (trodAll_cons_mk (Below.trod scrubTurned_laid (by kernel_rfl) (of_decide_eq_true (by kernel_rfl)) h1 bel lt1) trodAll_mk0)), rfl, bel.frame _, fun h => by cases h⟩

theorem scrubTurned_holds : Rows.ScrubTurnedSaid :=
  OpenClaim.holds_of_wide 10 Try.f10 rfl rfl rfl rfl rfl rfl rfl ⟨rfl, rfl, rfl, rfl, rfl⟩ rfl rfl rfl rfl rfl (by kernel_rfl) Try.func10 (by kernel_rfl)
    (of_decide_eq_true (by kernel_rfl)) (by unfold Func.isWrapper; rw [if_neg (of_decide_eq_false (by kernel_rfl))]; exact ⟨rfl, rfl⟩)
    (fun os started H enc _ => scrubTurned_lifted os started H enc)

#print axioms scrubTurned_holds

end Go.Proofs.Ytniamllcoemikaa
