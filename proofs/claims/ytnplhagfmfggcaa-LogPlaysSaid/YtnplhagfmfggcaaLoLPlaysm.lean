/-
  LogPlays: whatever is played on a log, each act is answered by the document's word, and what is read behind it.
-/
import Derived.Test.YtnplhagfmfggcaaLq5
import Derived.Deep.CutBlock
import Derived.OrdersHeld
import Derived.Deep.RegionHeld
import Derived.Test.YtnplhagfmfggcaaRows
import Derived.ProofKit
import Derived.OpenShut
import Derived.ShutString
import Derived.ChangeOld
namespace Go.Proofs.Ytnplhagfmfggcaa
open Go.RowKit Kd Mi Sx Sg Lo Go.ChangeShapes Go.WideShapes Go.ChangeAt
attribute [local go_sem ↓] Go.wp_at_zero Go.wp_at_succ
set_option maxRecDepth 100000 in
set_option maxHeartbeats 25600000 in
theorem logPlays_any (w : World) (x0 : Int) (hx0 : 0 ≤ x0 ∧ x0 ≤ 255) (y0 : Int) (hy0 : 0 ≤ y0 ∧ y0 ≤ 255) (A : Option Addr) (N c : Nat) (l : List La) (hl : l.length = N) (_ : N ≤ c) (hm : c ≤ maxLen) (hr : Rd w.heap.size w A (las l)) (hz : ∀ y ∈ l, y.ok w) : Calls Try.prog 5 #[.int .u8 x0, .int .u8 y0, .slice A N c] w (RetB (.bool true) w) := by
  have HM := Lib.hid (show N ≤ 9223372036854775807 by unfold maxLen at hm; omega)
  have HL := Lib.hid hl
  have HR := Lib.hid hr
  have HZ := Lib.hid hz
  have hi2 : 0 ≤ x0.tmod 4 ∧ x0.tmod 4 < 4 := by rw [Int.tmod_eq_emod_of_nonneg hx0.1]; omega
  have hj2 : 0 ≤ y0.tmod 4 ∧ y0.tmod 4 < 4 := by rw [Int.tmod_eq_emod_of_nonneg hy0.1]; omega
  obtain ⟨a, ha⟩ : ∃ a : Nat, (a : Int) = 3 + x0.tmod 4 := ⟨(3 + x0.tmod 4).toNat, by omega⟩
  obtain ⟨b, hb⟩ : ∃ b : Nat, (b : Int) = 1 + y0.tmod 4 := ⟨(1 + y0.tmod 4).toNat, by omega⟩
  have HMD := Lib.hid (fun W => made_any x0 y0 hx0 hy0 a b ha hb W)
  have HAB := Lib.hid (show (3 ≤ a ∧ a ≤ 6) ∧ (1 ≤ b ∧ b ≤ 4) ∧ 2 + a * b ≤ 26 by
    refine ⟨by omega, by omega, ?_⟩
    have : a * b ≤ 6 * 4 := Nat.mul_le_mul (by omega) (by omega)
    omega)
  have hzr : ∀ W, (zeroValue 79).run Try.prog W = .ok (.agg #[.int .i64 0, .int .i64 0, .int .i64 0, .slice none 0 0, .int .u64 0]) W := fun _ => by kernel_rfl
  obtain ⟨bo0, hbo0⟩ : ∃ z, z = List.replicate 40 nilB := ⟨_, rfl⟩
  obtain ⟨gs0, hgs0⟩ : ∃ z : List Nat, z = List.replicate 40 0 := ⟨_, rfl⟩
  have HBO := Lib.hid hbo0
  have HGS := Lib.hid hgs0
  have hzb : ∀ W, (zeroValue 82).run Try.prog W = .ok (.agg (boC bo0)) W := by rw [hbo0]; exact zero_bodies
  have hzg : ∀ W, (zeroValue 83).run Try.prog W = .ok (.agg (gv gs0).toArray) W := by rw [hgs0]; exact zero_gens
  clear hbo0 hgs0
  have GB := Lib.hid (show ∀ y ∈ l, y.b.length ≤ 9223372036854775807 from fun y hy => by have h := (hz y hy).cap; unfold maxLen at h; omega)
  have HGR := Lib.hid (fun W (hR : Rd W.heap.size W A (las l)) => great_any A N c l W hl (by unfold maxLen at hm; omega) hR GB.out)
  clear hl hr hm hz hi2 hj2 ha hb
  go_enter Try.func5, Try.ntmps5
  go_wp2_with fail
  refine (Lo.awake_any w).mono ?_
  rintro e w2 ⟨rfl, bw⟩
  have B2 := Lib.hid bw
  have R2 := Lib.hid ((HR.out.below bw).more bw.size)
  clear bw
  go_wp2_with fail
  refine (HGR.out w2 R2.out).mono ?_
  rintro e w3 ⟨rfl, bw⟩
  have B3 := Lib.hid (B2.out.trans (bw.mono B2.out.size))
  clear bw R2 B2 HGR
  by_cases hgr : greatL l = true
  · rw [if_pos hgr]
    go_wp2_with fail
    go_ret
    exact ⟨rfl, B3.out⟩
  rw [if_neg hgr]
  have HN30 := Lib.hid (show N ≤ 30 ∧ ∀ y ∈ l, y.b.length ≤ 120 by
    have h : greatL l = false := by simpa using hgr
    rw [greatL, Bool.or_eq_false_iff] at h
    refine ⟨by have := of_decide_eq_false h.1; have := HL.out; omega, fun y hy => ?_⟩
    have h2 := List.any_eq_false.1 h.2 y hy
    simp at h2; omega)
  clear hgr
  go_wp2_with fail
  refine (HMD.out w3).mono ?_
  rintro e w4 ⟨p, g1, g2, bx, gm, q, s4, F4, rfl, h⟩
  have H4 := Lib.hid h
  obtain ⟨wb, hwb⟩ : ∃ W, W = w3 := ⟨_, rfl⟩
  rw [← hwb] at H4
  have BB := Lib.hid (show Below w.heap.size w wb by rw [hwb]; exact B3.out)
  clear h hwb B3 HMD
  unfold rigC
  obtain ⟨w5, hw5⟩ : ∃ W, W = w4.alloc (.cells (rigC p g1 g2 gm q a b) 73) := ⟨_, rfl⟩
  unfold rigC at hw5
  go_wp2_with fail
  rw [← hw5]
  have b45 : Below w4.heap.size w4 w5 := by rw [hw5]; exact (Below.refl _ _).alloc (Nat.le_refl _) _
  have S5 : w5.heap.size = w4.heap.size + 1 := by rw [hw5]; simp
  have hrig : Blk w5 w4.heap.size (rigC p g1 g2 gm q a b) 73 := by rw [hw5]; exact heap_alloc_new _ _
  clear hw5
  refine (refnew_any a b (by have := HAB.out; omega) w5).mono ?_
  rintro e w6 ⟨AG, cG, rfl, ho, bw⟩
  have hglen : (Lg.new a b).gens.length = a := List.length_replicate
  rw [hglen] at ho
  rw [hglen]
  obtain ⟨w7, hw7⟩ : ∃ W, W = w6.alloc (.cells (rlC (Lg.new a b) AG a cG) 79) := ⟨_, rfl⟩
  obtain ⟨w8, hw8⟩ : ∃ W, W = w7.alloc (.cells (boC bo0) 82) := ⟨_, rfl⟩
  obtain ⟨w9, hw9⟩ : ∃ W, W = w8.alloc (.cells (gv gs0).toArray 83) := ⟨_, rfl⟩
  have S7 : w7.heap.size = w6.heap.size + 1 := by rw [hw7]; simp
  have S8 : w8.heap.size = w7.heap.size + 1 := by rw [hw8]; simp
  have b67 : Below w6.heap.size w6 w7 := by rw [hw7]; exact (Below.refl _ _).alloc (Nat.le_refl _) _
  have b78 : Below w7.heap.size w7 w8 := by rw [hw8]; exact (Below.refl _ _).alloc (Nat.le_refl _) _
  have b89 : Below w8.heap.size w8 w9 := by rw [hw9]; exact (Below.refl _ _).alloc (Nat.le_refl _) _
  have hs56 := bw.size
  have b69 : Below w6.heap.size w6 w9 := (b67.trans (b78.mono (by omega))).trans (b89.mono (by omega))
  have b59 : Below w5.heap.size w5 w9 := bw.trans (b69.mono (by omega))
  have b49 : Below w4.heap.size w4 w9 := b45.trans (b59.mono (by omega))
  have hlt := (LogL (Mu.one p g1 g2) (gdS litS bx) gm q litS).lt H4.out.live.at_
  have hwb := H4.out.live.bel.size
  have P0 := Lib.hid (show PlS p g1 g2 bx gm q a b wb w9 s4 F4 (Lg.new a b) (Lg.new a b) (zerosL (2 + a * b)) gs0 bo0 AG cG w4.heap.size w6.heap.size w7.heap.size w8.heap.size 0 from
    ⟨⟨H4.out.below b49, Nat.le_refl _, ⟨hrig.below b59, hwb, fun hf => by have := hlt _ hf; omega⟩,
      ⟨(show Blk w7 w6.heap.size _ _ by rw [hw7]; exact heap_alloc_new _ _).below (b78.trans (b89.mono (by omega))), by omega, fun hf => by have := hlt _ hf; omega⟩,
      own_below (own_more ho (by omega)) b69, fun j hj => by
        obtain ⟨h1, h2⟩ := ho.lt j hj
        exact ⟨fun hf => by have := hlt _ hf; omega, by omega, by omega, by omega, by omega⟩,
      ⟨(show Blk w8 w7.heap.size _ _ by rw [hw8]; exact heap_alloc_new _ _).below b89, by omega, fun hf => by have := hlt _ hf; omega⟩,
      ⟨by rw [hw9]; exact heap_alloc_new _ _, by omega, fun hf => by have := hlt _ hf; omega⟩, by omega, by omega, by omega, by omega, by omega, by omega⟩, by rw [HGS.out, HBO.out]; exact pl_new HAB.out.2.2⟩)
  obtain ⟨b9, hb9⟩ : ∃ z, z = w6.heap.size := ⟨_, rfl⟩
  obtain ⟨b10, hb10⟩ : ∃ z, z = w6.heap.size + 1 := ⟨_, rfl⟩
  obtain ⟨b11, hb11⟩ : ∃ z, z = w6.heap.size + 1 + 1 := ⟨_, rfl⟩
  obtain ⟨bR, hbR⟩ : ∃ z, z = w4.heap.size := ⟨_, rfl⟩
  rw [S8, S7, ← hb11, ← hb10, ← hb9, ← hbR] at P0
  unfold rlC at hw7
  unfold rlC
  clear b45 S5 hrig b67 b78 b89 hs56 b69 b59 b49 hlt hwb ho bw H4 hglen
  go_wp2_with fail
  rw [← hw7, ← hw8, ← hw9, ← hb11, ← hb10, ← hb9, ← hbR]
  clear hw7 hw8 hw9 hb9 hb10 hb11 hbR S7 S8 hzb hzg
  go_loopw [50] (fun i wr => ∃ k : Nat, k ≤ N ∧ i = .int .i64 (k : Int) ∧ ∃ lg L gs bo AG cG s F, Hid (PlS p g1 g2 bx gm q a b wb wr s F lg lg L gs bo AG cG bR b9 b10 b11 k) ∧ Hid (BoOk w bo)) (fun i _ => N - (intOf i).toNat)
  case atStart => exact ⟨0, Nat.zero_le _, rfl, _, _, _, _, _, _, _, _, P0, Lib.hid (by rw [HBO.out]; exact bo_new w)⟩
  case round =>
    clear P0
    obtain ⟨k, hk, rfl, lg, L, gs, bo, AG, cG, s, F, PS, BO⟩ := hrel
    have HK := Lib.hid hk
    have BA := Lib.hid (BB.out.trans (PS.out.lm.live.bel.mono BB.out.size))
    by_cases hlt : k < N
    · have HLT := Lib.hid hlt
      have j0 : (0 : Int) ≤ (k : Int) := by omega
      have j1 : (k : Int) < (N : Int) := by omega
      have wp1 : IntKind.i64.wrap ((k : Int) + 1) = ((k + 1 : Nat) : Int) := IntWalk.i64_in _ (by have := HM.out; omega)
      have hkl : k < l.length := by rw [HL.out]; exact hlt
      obtain ⟨ad, hA, _, hcell⟩ := rd_lact (HR.out.below BA.out) hkl
      subst hA
      obtain ⟨u, hu⟩ : ∃ u, u = l[k] := ⟨_, rfl⟩
      rw [← hu] at hcell
      have HU := Lib.hid (show u.ok w ∧ u.b.length ≤ 120 by rw [hu]; exact ⟨HZ.out _ (List.getElem_mem hkl), HN30.out.2 _ (List.getElem_mem hkl)⟩)
      have HCE := Lib.hid hcell
      have HIU := Lib.hid (show (Try.prog.info? 85).map (·.size) = some (laV u).length from lact_info)
      obtain ⟨wc, hwc⟩ : ∃ W, W = wr.alloc (.cells #[.int .u8 u.kind, .int .u8 u.n, .slice u.A u.b.length u.c] 85) := ⟨_, rfl⟩
      have bwc : Below wr.heap.size wr wc := by rw [hwc]; exact (Below.refl _ _).alloc (Nat.le_refl _) _
      have PC := Lib.hid (PS.out.below bwc)
      obtain ⟨b13, hb13⟩ : ∃ z, z = wr.heap.size := ⟨_, rfl⟩
      have hlt2 := (LogL (Mu.one p g1 g2) (gdS litS bx) gm q litS).lt PS.out.lm.live.at_
      have U13 := Lib.hid (show Bx wb wc F b13 #[.int .u8 u.kind, .int .u8 u.n, .slice u.A u.b.length u.c] 85 from ⟨by rw [hwc, hb13]; exact heap_alloc_new _ _, by rw [hb13]; exact PS.out.lm.live.bel.size, fun hf => by have := hlt2 _ hf; omega⟩)
      have NE := Lib.hid (show b13 ≠ bR ∧ b13 ≠ b9 ∧ b13 ≠ b10 ∧ b13 ≠ b11 by
        have h1 := PS.out.rig.1.lt
        have h2 := PS.out.box.1.lt
        have h3 := PS.out.bod.1.lt
        have h4 := PS.out.gen.1.lt
        omega)
      have c0 : wc.cell? ⟨b13, 0, none⟩ = some (.int .u8 u.kind) := U13.out.1.cell 0
      clear bwc hlt2 hcell hkl hu hlt hk PS
      go_upto_block 2 with first | (refine wpList_load_at rfl 85 (.tmp 52) rfl (ad.add (k * 3)) rfl HCE.out lact_under rfl HIU.out ?_; change wpList _ _ _ _ (Act.put _ _ (.agg #[.int .u8 u.kind, .int .u8 u.n, .slice u.A u.b.length u.c])) _)
      rw [← hwc, ← hb13]
      clear hwc hb13
      go_cut [14, 15, 16, 17, 18, 19, 20, 21] from 56 to 172 (fun a14 a15 a16 a17 a18 a19 a20 a21 wx => ∃ lg L gs bo AG cG s F, Hid (PlS p g1 g2 bx gm q a b wb wx s F lg lg L gs bo AG cG bR b9 b10 b11 (k + 1)) ∧ Hid (BoOk w bo))
      case first =>
        have r4 : wc.cell? ⟨bR, 4, none⟩ = some (.pointer (some ⟨q, 0, none⟩)) := PC.out.rig.1.cell 4
        by_cases h1 : u.kind = 1
        · have e1 : (u.kind == 1) = true := by simpa using h1
          have un := HU.out.1.n0
          have un1 := HU.out.1.n1
          obtain ⟨ap, hap⟩ : ∃ z : Nat, z = a + 2 := ⟨_, rfl⟩
          have s1 : IntKind.i64.wrap ((a : Int) + 2) = (ap : Int) := by rw [IntWalk.i64_in _ (by have := HAB.out; omega), hap]; push_cast; rfl
          obtain ⟨r, hrr⟩ : ∃ r : Nat, (r : Int) = u.n.tmod (ap : Int) := ⟨(u.n.tmod (ap : Int)).toNat, by rw [Int.tmod_eq_emod_of_nonneg un]; have := Int.emod_nonneg u.n (show (ap : Int) ≠ 0 by omega); omega⟩
          have hra : r < ap := by rw [Int.tmod_eq_emod_of_nonneg un] at hrr; have := Int.emod_lt_of_pos u.n (show (0 : Int) < (ap : Int) by omega); omega
          have t1 : u.n.tmod (ap : Int) = (r : Int) := hrr.symm
          obtain ⟨K, hK⟩ : ∃ z : Int, z = (r : Int) - 1 := ⟨_, rfl⟩
          have d1 : IntKind.i64.wrap ((r : Int) - 1) = K := by rw [hK]; exact IntWalk.i64_in _ (by have := HAB.out; omega)
          have HKK := Lib.hid (show -1 ≤ K ∧ K ≤ (a : Int) by omega)
          have z1 : wrap64 u.n = u.n := by unfold wrap64; omega
          have v1 : IntKind.i64.wrap u.n = u.n := IntWalk.i64_in _ (by omega)
          have p1 : ¬ (ap : Int) = 0 := by omega
          have p2 : ((ap : Int) == 0) = false := by simp; omega
          have c1 : wc.cell? ⟨b13, 1, none⟩ = some (.int .u8 u.n) := U13.out.1.cell 1
          have r5 : wc.cell? ⟨bR, 5, none⟩ = some (.int .i64 (a : Int)) := PC.out.rig.1.cell 5
          have x3 : wc.cell? ⟨b9, 3, none⟩ = some (.slice AG a cG) := PC.out.box.1.cell 3
          have x1 : wc.cell? ⟨b9, 1, none⟩ = some (.int .i64 lg.headI) := PC.out.box.1.cell 1
          have HFE := Lib.hid (lgm_free PC.out.lm K (by have := HKK.out; omega) (by have := HKK.out; have := HAB.out; omega))
          clear hap hrr hra hK h1 un un1
          by_cases hA : K < 0
          · have fe : lg.freeE K = 2 := by rw [Lg.freeE, if_pos (Or.inl hA)]
            rw [fe, if_neg (by omega)] at HFE
            clear fe
            go_wp2_with fail
            refine HFE.out.mono ?_
            rintro e x5 ⟨rfl, s5, F5, hlm, hmv⟩
            have PS5 := Lib.hid (PC.out.next.code (hlm.more (Nat.le_of_lt (by omega))) PC.out.pl (Nat.le_succ_of_le PC.out.last) hmv.new hmv.but)
            clear hlm hmv HFE PC
            go_wp2_with fail
            go_meet
            exact ⟨lg, L, gs, bo, _, cG, s5, F5, PS5, BO⟩
          by_cases hB : (a : Int) ≤ K
          · have fe : lg.freeE K = 2 := by rw [Lg.freeE, if_pos (Or.inr (by rw [PC.out.pl.len]; exact hB))]
            rw [fe, if_neg (by omega)] at HFE
            clear fe
            go_wp2_with fail
            refine HFE.out.mono ?_
            rintro e x5 ⟨rfl, s5, F5, hlm, hmv⟩
            have PS5 := Lib.hid (PC.out.next.code (hlm.more (Nat.le_of_lt (by omega))) PC.out.pl (Nat.le_succ_of_le PC.out.last) hmv.new hmv.but)
            clear hlm hmv HFE PC
            go_wp2_with fail
            go_meet
            exact ⟨lg, L, gs, bo, _, cG, s5, F5, PS5, BO⟩
          obtain ⟨κ, rfl⟩ := Int.eq_ofNat_of_zero_le (show 0 ≤ K by omega)
          have i0 : (0 : Int) ≤ (κ : Int) := by omega
          have i1 : (κ : Int) < (a : Int) := by omega
          have hκ : κ < lg.gens.length := by rw [PC.out.pl.len]; omega
          obtain ⟨qb, hqb⟩ : ∃ qb, AG = some ⟨qb, 0, none⟩ := by
            rcases PC.out.own.2 with ⟨h, h'⟩ | ⟨g', cap, cur, h, _⟩
            · injection h with e1 e2 e3; exfalso; have := HAB.out; omega
            · injection h with h _ _; exact ⟨g', h⟩
          subst hqb
          have xg : wc.cell? ⟨qb, κ, none⟩ = some (.int .u64 ((lg.gens.getD κ 0 : Nat) : Int)) := own_getU PC.out.own (gv_get hκ)
          have fe0 : lg.freeE (κ : Int) = if lg.gens.getD κ 0 = 0 then 7 else if lg.headI = (κ : Int) then 12 else 0 := by
            rw [Lg.freeE, if_neg (by rw [PC.out.pl.len]; omega), Int.toNat_natCast]
          clear hA hB
          by_cases hC : lg.gens.getD κ 0 = 0
          · rw [hC] at xg
            have fe : lg.freeE (κ : Int) = 7 := by rw [fe0, if_pos hC]
            rw [fe, if_neg (by omega)] at HFE
            clear fe fe0 hC
            go_wp2_with fail
            refine HFE.out.mono ?_
            rintro e x5 ⟨rfl, s5, F5, hlm, hmv⟩
            have PS5 := Lib.hid (PC.out.next.code (hlm.more (Nat.le_of_lt (by omega))) PC.out.pl (Nat.le_succ_of_le PC.out.last) hmv.new hmv.but)
            clear hlm hmv HFE PC
            go_wp2_with fail
            go_meet
            exact ⟨lg, L, gs, bo, _, cG, s5, F5, PS5, BO⟩
          obtain ⟨gk, hgk⟩ : ∃ z, z = lg.gens.getD κ 0 := ⟨_, rfl⟩
          rw [← hgk] at xg fe0 hC
          have gn : ¬ (gk : Int) = 0 := by omega
          have gn2 : ((gk : Int) == 0) = false := by simp; omega
          obtain ⟨hd, hhd⟩ : ∃ z, z = lg.headI := ⟨_, rfl⟩
          rw [← hhd] at x1 fe0
          by_cases hD : hd = (κ : Int)
          · have fe : lg.freeE (κ : Int) = 12 := by rw [fe0, if_neg hC, if_pos hD]
            rw [fe, if_neg (by omega)] at HFE
            rw [hD] at x1
            clear fe fe0 hC hD hgk hhd
            go_wp2_with fail
            refine HFE.out.mono ?_
            rintro e x5 ⟨rfl, s5, F5, hlm, hmv⟩
            have PS5 := Lib.hid (PC.out.next.code (hlm.more (Nat.le_of_lt (by omega))) PC.out.pl (Nat.le_succ_of_le PC.out.last) hmv.new hmv.but)
            clear hlm hmv HFE PC
            go_wp2_with fail
            go_meet
            exact ⟨lg, L, gs, bo, _, cG, s5, F5, PS5, BO⟩
          · have fe : lg.freeE (κ : Int) = 0 := by rw [fe0, if_neg hC, if_neg hD]
            have q1 : ¬ (κ : Int) = hd := fun e => hD e.symm
            have q2 : ((κ : Int) == hd) = false := by simpa using q1
            have HHD := Lib.hid hhd
            have HFZ := Lib.hid fe
            have HCP := Lib.hid (rcopy_any lg (some ⟨qb, 0, none⟩) a cG PC.out.pl.len (by have := HAB.out; omega) wc (Rd.own PC.out.own))
            have HX9 := Lib.hid PC.out.box.1
            have IK := Lib.hid (And.intro i0 i1)
            clear fe fe0 hC hD hgk hhd HFE
            go_wp2_with first | (refine wpList_load_row rfl 79 (.tmp 9) rfl b9 rfl 79 (rlC lg (some ⟨qb, 0, none⟩) a cG) (0, 0) _ HX9.out Try.underlying79 rfl rfl ?_)
            refine HCP.out.mono ?_
            rintro e w5 ⟨A5, c5, rfl, ho, bw⟩
            rw [PC.out.pl.len] at ho
            rw [PC.out.pl.len]
            obtain ⟨qc, hqc⟩ : ∃ qc, A5 = some ⟨qc, 0, none⟩ := by
              rcases ho.2 with ⟨h, h'⟩ | ⟨g', cap, cur, h, _⟩
              · injection h with e1 e2 e3; exfalso; have := HAB.out; omega
              · injection h with h _ _; exact ⟨g', h⟩
            subst hqc
            have PS5 := Lib.hid (PC.out.below bw)
            have hqr : wc.heap.size ≤ qc := (ho.lt qc rfl).1
            have HFN := Lib.hid ((LogL (Mu.one p g1 g2) (gdS litS bx) gm q litS).lt PC.out.lm.live.at_)
            have PS6 := Lib.hid (PS5.out.setbox (AG' := some ⟨qc, 0, none⟩) (cG' := c5) (lr' := lg) (own_more ho PC.out.lm.live.bel.size) (fun j hj => by
              have hj2 : wc.heap.size ≤ j := (ho.lt j hj).1
              have k1 := PC.out.rig.1.lt
              have k2 := PC.out.box.1.lt
              have k3 := PC.out.bod.1.lt
              have k4 := PC.out.gen.1.lt
              exact ⟨fun hf => by have := HFN.out _ hf; omega, by omega, by omega, by omega, by omega⟩))
            clear bw hqr ho HCP PC HFN r4 r5 x1 x3 xg c1
            go_wp2_with (show wpList _ _ _ ({ dst := none, op := .store 79 (.tmp 9) (.tmp 134), type := _, pos := _, after := _, guard := _ } :: _) _ _; apply Classical.byContradiction; intro hneg)
            refine hneg ?_
            clear hneg
            refine wpList_store_row rfl 79 (.tmp 9) (.tmp 134) rfl b9 (rlC lg (some ⟨qc, 0, none⟩) a c5) rfl rfl 79 _ PS5.out.box.1 rfl rfl (by simp [rlC, Value.oneCell']) ?_
            obtain ⟨w6, hw6⟩ : ∃ W, W = w5.setRow b9 (rlC lg (some ⟨qc, 0, none⟩) a c5) := ⟨_, rfl⟩
            rw [← hw6] at PS6
            rw [← hw6]
            clear hw6 PS5
            have x3 : w6.cell? ⟨b9, 3, none⟩ = some (.slice (some ⟨qc, 0, none⟩) a c5) := PS6.out.box.1.cell 3
            have r4 : w6.cell? ⟨bR, 4, none⟩ = some (.pointer (some ⟨q, 0, none⟩)) := PS6.out.rig.1.cell 4
            have xg : w6.cell? ⟨qc, κ, none⟩ = some (.int .u64 ((lg.gens.getD κ 0 : Nat) : Int)) := own_getU PS6.out.own (gv_get hκ)
            have xf : w6.frozen? ⟨qc, κ, none⟩ = false := own_freeU PS6.out.own κ
            have PS7 := Lib.hid (PS6.out.setgen κ 0)
            obtain ⟨w7, hw7⟩ : ∃ W, W = w6.setCell ⟨qc, κ, none⟩ (.int .u64 0) := ⟨_, rfl⟩
            rw [show (((0 : Nat) : Int)) = 0 from rfl, ← hw7] at PS7
            have r4' : w7.cell? ⟨bR, 4, none⟩ = some (.pointer (some ⟨q, 0, none⟩)) := PS7.out.rig.1.cell 4
            rw [hw7] at r4'
            have HFE := Lib.hid (lgm_free PS7.out.lm (κ : Int) (by have := IK.out; omega) (by have := IK.out; have := HAB.out; omega))
            rw [HFZ.out, if_pos rfl, Int.toNat_natCast] at HFE
            clear PS6
            go_wp2_with fail
            rw [← hw7]
            clear hw7 x3 r4 xg xf r4'
            refine HFE.out.mono ?_
            rintro e x5 ⟨rfl, s5, F5, hlm, hmv⟩
            have PS8 := Lib.hid (PS7.out.next.code (hlm.more (by omega)) (pl_free PS7.out.pl κ) (Nat.le_succ_of_le PS7.out.last) hmv.new hmv.but)
            clear hlm hmv HFE PS7
            go_wp2_with fail
            go_meet
            exact ⟨lg.free κ, L, gs, bo, _, c5, s5, F5, PS8, BO⟩
        · have e1 : (u.kind == 1) = false := by simpa using h1
          by_cases h2 : u.kind = 2
          · have e2 : (u.kind == 2) = true := by simpa using h2
            have HFL := Lib.hid (lgm_flush PC.out.lm)
            rw [show (if (Sc.startM L L (2 + a * b)).o0 && (Sc.startM L L (2 + a * b)).o1 then (13 : Int) else 0) = 0 from rfl] at HFL
            clear h1 h2
            go_wp2_with fail
            refine HFL.out.mono ?_
            rintro e x5 ⟨rfl, s5, F5, hlm, hmv⟩
            have PS5 := Lib.hid (PC.out.next.code (hlm.more (Nat.zero_le _)) PC.out.pl (Nat.le_succ_of_le PC.out.last) hmv.new hmv.but)
            clear hlm hmv HFL PC
            go_wp2_with fail
            go_meet
            exact ⟨lg, L, gs, bo, AG, cG, s5, F5, PS5, BO⟩
          · have e2 : (u.kind == 2) = false := by simpa using h2
            obtain ⟨n1, hn1⟩ : ∃ n1, n1 = u.b.length := ⟨_, rfl⟩
            have HN1 := Lib.hid (show n1 = u.b.length ∧ n1 ≤ 120 from ⟨hn1, by rw [hn1]; exact HU.out.2⟩)
            have HO := Lib.hid (show (wc.alloc (.cells #[] 5)).ownsRow wc.heap.size 5 1 (.slice (some ⟨wc.heap.size, 0, none⟩) 0 0) 0 [] from World.ownsRow_lit wc #[] 0 (Nat.le_refl _) (Nat.zero_le _) rfl)
            have HB := Lib.hid (show Below wc.heap.size wc (wc.alloc (.cells #[] 5)) from (Below.refl _ _).alloc (Nat.le_refl _) _)
            have BAC := Lib.hid (BB.out.trans (PC.out.lm.live.bel.mono BB.out.size))
            have RU := Lib.hid (show Rd w.heap.size (wc.alloc (.cells #[] 5)) u.A (bv u.b) from (HU.out.1.rd.below BAC.out).below (HB.out.mono BAC.out.size))
            have c2 : (wc.alloc (.cells #[] 5)).cell? ⟨b13, 2, none⟩ = some (.slice u.A n1 u.c) := by rw [hn1]; exact (U13.out.below HB.out).1.cell 2
            have HFN := Lib.hid ((LogL (Mu.one p g1 g2) (gdS litS bx) gm q litS).lt PC.out.lm.live.at_)
            have LT4 := Lib.hid (show bR < wc.heap.size ∧ b9 < wc.heap.size ∧ b10 < wc.heap.size ∧ b11 < wc.heap.size ∧ b13 < wc.heap.size ∧ wb.heap.size ≤ wc.heap.size from ⟨PC.out.rig.1.lt, PC.out.box.1.lt, PC.out.bod.1.lt, PC.out.gen.1.lt, U13.out.1.lt, PC.out.lm.live.bel.size⟩)
            have AGL := Lib.hid (fun j (hj : (Value.slice AG a cG).ownBlock = some j) => (PC.out.own.lt j hj).2)
            have HPL := Lib.hid PC.out.pl
            have HFI := Lib.hid PC.out.lm.fine
            have HLA := Lib.hid PC.out.last
            clear h1 h2 hn1
            go_wp2_with (at_builtin; apply Classical.byContradiction; intro hneg)
            refine hneg ?_
            clear hneg
            refine wpList_app _ rfl (.tmp 56) (.tmp 58) 81 rfl Wi.bytesElt (base := wc.heap.size) (v := .slice (some ⟨wc.heap.size, 0, none⟩) 0 0) rfl HO.out (m := n1) rfl RU.out (by rw [bv_length]; exact HN1.out.1.symm) (bv_one _) (by have := HN1.out; omega) (by simp) ?_
            intro A3 c3 x3 ho3 hg3 _
            have O3 := Lib.hid (own_eq ho3 (Nat.zero_add _) (List.nil_append _))
            have B3 := Lib.hid (show Below wc.heap.size wc x3 from app_below HB.out HO.out hg3 (Nat.le_refl _) (by simp))
            have PX := Lib.hid (PC.out.below B3.out)
            have r4x : x3.cell? ⟨bR, 4, none⟩ = some (.pointer (some ⟨q, 0, none⟩)) := PX.out.rig.1.cell 4
            rw [Nat.zero_add]
            clear ho3 hg3 HO HB RU c2
            go_wp2_with fail
            refine (play_append PX.out (by have := HAB.out; omega) (by have := HN30.out; have := HLT.out; omega) A3 n1 c3 u.b HN1.out.1.symm (Rd.own O3.out)).mono ?_
            rintro e x5 ⟨at_, er, lg2, L2, s5, F5, rfl, hway, hpw, hnew, hbut, -⟩
            have HW := Lib.hid hway
            have P5 := Lib.hid hpw
            have O5 := Lib.hid (Own.but O3.out hbut (fun j hj hF => by have h1 := HFN.out _ hF; have h2 := (O3.out.lt j hj).1; omega))
            have HQ := Lib.hid (show ∀ j, (Value.slice A3 n1 c3).ownBlock = some j → ¬F5 j ∧ wc.heap.size ≤ j from fun j hj => ⟨fun hf => by
              obtain ⟨h1, h2⟩ := O3.out.lt j hj
              rcases hnew j hf with h3 | h3
              · have := HFN.out _ h3; omega
              · omega, (O3.out.lt j hj).1⟩)
            have U5 := Lib.hid (Sc.bx_dev (U13.out.below B3.out) hnew hbut)
            clear hway hpw hnew hbut PX O3 B3 r4x U13 PC c0 BA HFN r4
            go_wp2_with fail
            go_loopw [69] (fun i wy => ∃ (m : Nat) (ps : List Value), m ≤ n1 ∧ i = .int .i64 (m : Int) ∧ Hid (PlW p g1 g2 bx gm q a b wb wy s5 F5 lg2 lg L2 gs bo AG cG bR b9 b10 b11 (k + 1)) ∧ Hid (wy.ownsRow wc.heap.size 5 1 (.slice A3 n1 c3) n1 ps) ∧ Hid (∀ v ∈ ps, ∃ j : Int, v = .int .u8 j) ∧ Hid (Bx wb wy F5 b13 #[.int .u8 u.kind, .int .u8 u.n, .slice u.A u.b.length u.c] 85)) (fun i _ => n1 - (intOf i).toNat)
            case atStart => exact ⟨0, _, Nat.zero_le _, rfl, P5, O5, Lib.hid (fun v hv => by
              obtain ⟨y, _, rfl⟩ := List.mem_map.1 hv
              exact ⟨_, rfl⟩), U5⟩
            case round =>
              clear P5 O5 U5
              obtain ⟨m, ps, hm, rfl, P6, O6, IS, U6⟩ := hrel
              have HMM := Lib.hid hm
              clear hm
              by_cases hlt2 : m < n1
              · have HL2 := Lib.hid hlt2
                obtain ⟨q3, hq3⟩ : ∃ q3, A3 = some ⟨q3, 0, none⟩ := by
                  rcases O6.out.2 with ⟨h, h'⟩ | ⟨g', cap, cur, h, _⟩
                  · injection h with e1 e2 e3; exfalso; omega
                  · injection h with h _ _; exact ⟨g', h⟩
                subst hq3
                have hln := own_len O6.out
                obtain ⟨v, hv⟩ : ∃ v, v = ps[m]'(by omega) := ⟨_, rfl⟩
                obtain ⟨y, hy⟩ := IS.out v (by rw [hv]; exact List.getElem_mem _)
                have cq : ∀ W, W = wr → W.cell? ⟨q3, m, none⟩ = some (.int .u8 y) := fun W hW => by rw [hW]; exact own_getU O6.out (by rw [List.getElem?_eq_getElem (by omega), ← hv, hy])
                have fq : ∀ W, W = wr → W.frozen? ⟨q3, m, none⟩ = false := fun W hW => by rw [hW]; exact own_freeU O6.out m
                have HQ3 := Lib.hid (HQ.out q3 rfl)
                have m0 : (0 : Int) ≤ (m : Int) := by omega
                have m1 : (m : Int) < (n1 : Int) := by omega
                have wm1 : IntKind.i64.wrap ((m : Int) + 1) = ((m + 1 : Nat) : Int) := IntWalk.i64_in _ (by have := HN1.out; omega)
                have cq1 := cq _ rfl
                have fq1 := fq _ rfl
                clear hln hv cq fq hy hlt2
                go_wp2_with fail
                go_round
                case rel => exact ⟨m + 1, _, HL2.out, rfl, Lib.hid (P6.out.other (But.setCell (S := fun j => j = q3) (But.refl _) (Or.inl rfl) _) HQ3.out.1 (by have := LT4.out; have := HQ3.out; omega) (by have := LT4.out; have := HQ3.out; omega) (fun j hj e => by have := AGL.out j hj; have := HQ3.out; omega)), Lib.hid (own_cell1 O6.out), Lib.hid (fun v hv => by
                    rcases List.mem_or_eq_of_mem_set hv with h | h
                    · exact IS.out v h
                    · exact ⟨_, h⟩), Lib.hid ⟨U6.out.1.but (But.setCell (S := fun j => j = q3) (But.refl _) (Or.inl rfl) _) (fun e => by have := LT4.out; have := HQ3.out; omega), U6.out.2⟩⟩
                case measure => have := HL2.out; simp [intOf]; omega
              · obtain rfl : m = n1 := by have := HMM.out; omega
                have BAW := Lib.hid (BB.out.trans (P6.out.lm.live.bel.mono BB.out.size))
                have c2 : wr.cell? ⟨b13, 2, none⟩ = some (.slice u.A m u.c) := by rw [HN1.out.1]; exact U6.out.1.cell 2
                clear O6 IS hlt2
                rcases HW.out with ⟨h1, rfl, rfl, rfl, rfl⟩ | ⟨h1, hnx, rfl, rfl, rfl, rfl⟩ | ⟨h1, t, hnx, hat, rfl, hlp, hL⟩
                · have d1 : decide ((103 : Int) < (m : Int)) = true := decide_eq_true (by have := HN1.out; omega)
                  have PS6 := Lib.hid (show PlS p g1 g2 bx gm q a b wb wr s5 F5 lg lg L gs bo AG cG bR b9 b10 b11 (k + 1) from ⟨P6.out, HPL.out⟩)
                  clear h1
                  go_wp2_with fail
                  go_meet
                  exact ⟨lg, L, gs, bo, AG, cG, s5, F5, PS6, BO⟩
                · have d1 : decide ((103 : Int) < (m : Int)) = false := decide_eq_false (by have := HN1.out; omega)
                  have PS6 := Lib.hid (show PlS p g1 g2 bx gm q a b wb wr s5 F5 lg lg L gs bo AG cG bR b9 b10 b11 (k + 1) from ⟨P6.out, HPL.out⟩)
                  have HRA := Lib.hid (rappend_any lg AG a cG HPL.out.len (by have := HAB.out; omega) (by have := HAB.out; have := HPL.out.size; omega) (by have := HLA.out; have := HN30.out; have := HLT.out; omega) HFI.out wr (Rd.own P6.out.own))
                  have hap : apL lg = (lg, -1) := by rw [apL, hnx]
                  have HX9 := Lib.hid P6.out.box.1
                  clear h1 hnx
                  go_wp2_with first | (refine wpList_load_row rfl 79 (.tmp 9) rfl b9 rfl 79 (rlC lg AG a cG) (0, 0) _ HX9.out Try.underlying79 rfl rfl ?_)
                  refine HRA.out.mono ?_
                  rintro e x6 ⟨A6, c6, rfl, -, bw⟩
                  rw [hap]
                  have PS7 := Lib.hid (PS6.out.below bw)
                  have hbz := (Below.refl x6.heap.size x6).alloc (Nat.le_refl _) (.cells (rlC lg A6 lg.gens.length c6) 79)
                  have PS8 := Lib.hid (PS7.out.below hbz)
                  clear bw hbz hap HRA PS6 PS7 HX9
                  unfold rlC at PS8
                  unfold rlC
                  go_wp2_with fail
                  go_meet
                  exact ⟨lg, L, gs, bo, AG, cG, s5, F5, PS8, BO⟩
                · have d1 : decide ((103 : Int) < (m : Int)) = false := decide_eq_false (by have := HN1.out; omega)
                  obtain ⟨T, hT⟩ : ∃ z : Nat, z = lg.at_ t := ⟨_, rfl⟩
                  rw [← hT] at hat hL
                  subst hat
                  have hna := next_at HPL.out HFI.out (show 0 < b by have := HAB.out; omega) hnx
                  have hgl := gen_le HFI.out hnx
                  have hap1 : (apL lg).1 = lg2 := by rw [apL, hnx, hlp]
                  have hap2 : (apL lg).2 = (T : Int) := by rw [apL, hnx, hT]
                  have hlen : lg2.gens.length = a := by rw [hlp, Lg.put]; simp only; rw [List.length_set]; exact HPL.out.len
                  have hph := put_head HPL.out HFI.out (show 0 < b by have := HAB.out; omega) hnx
                  obtain ⟨t1, ht1⟩ : ∃ z, z = t.1 := ⟨_, rfl⟩
                  obtain ⟨g, hg⟩ : ∃ z, z = t.2.2 := ⟨_, rfl⟩
                  have PLN := Lib.hid (show PlI a b lg2 L2 (gs.set T g) (bo.set T ⟨u.A, u.c, u.b⟩) by
                    rw [hlp, hL, hT, hg]
                    exact pl_append HPL.out HAB.out.2.2 HFI.out (show 0 < b by have := HAB.out; omega) hnx (by have := HLA.out; have := HN30.out; have := HLT.out; omega) ⟨u.A, u.c, u.b⟩ h1)
                  have HTT := Lib.hid (show t1 < a ∧ 2 ≤ T ∧ T < 26 by rw [hT, ht1]; have := HAB.out; omega)
                  rw [← hlp, ← ht1, ← hg] at hph
                  have HPH := Lib.hid hph
                  have BO2 := Lib.hid (show BoOk w (bo.set T ⟨u.A, u.c, u.b⟩) from fun x hx => by
                    rcases List.mem_or_eq_of_mem_set hx with h | h
                    · exact BO.out x h
                    · rw [h]; exact ⟨HU.out.1.rd, HU.out.1.cap⟩)
                  have HRA := Lib.hid (rappend_any lg AG a cG HPL.out.len (by have := HAB.out; omega) (by have := HAB.out; have := HPL.out.size; omega) (by have := HLA.out; have := HN30.out; have := HLT.out; omega) HFI.out wr (Rd.own P6.out.own))
                  have HX9 := Lib.hid P6.out.box.1
                  clear h1 hnx hna hgl hph hlp hL hT ht1 hg
                  go_wp2_with first | (refine wpList_load_row rfl 79 (.tmp 9) rfl b9 rfl 79 (rlC lg AG a cG) (0, 0) _ HX9.out Try.underlying79 rfl rfl ?_)
                  refine HRA.out.mono ?_
                  rintro e x6 ⟨A6, c6, rfl, ho6, bw⟩
                  rw [hap1, hlen] at ho6
                  rw [hap1, hap2, hlen]
                  obtain ⟨q6, hq6⟩ : ∃ q6, A6 = some ⟨q6, 0, none⟩ := by
                    rcases ho6.2 with ⟨h, h'⟩ | ⟨g', cap, cur, h, _⟩
                    · injection h with e1 e2 e3; exfalso; have := HAB.out; omega
                    · injection h with h _ _; exact ⟨g', h⟩
                  subst hq6
                  have P7 := Lib.hid (P6.out.below bw)
                  have U7 := Lib.hid (U6.out.below bw)
                  obtain ⟨x7, hx7⟩ : ∃ W, W = x6.alloc (.cells (rlC lg2 (some ⟨q6, 0, none⟩) a c6) 79) := ⟨_, rfl⟩
                  have bx7 : Below x6.heap.size x6 x7 := by rw [hx7]; exact (Below.refl _ _).alloc (Nat.le_refl _) _
                  have X20 := Lib.hid (show Blk x7 x6.heap.size (rlC lg2 (some ⟨q6, 0, none⟩) a c6) 79 by rw [hx7]; exact heap_alloc_new _ _)
                  have P8 := Lib.hid (P7.out.below bx7)
                  have U8 := Lib.hid (U7.out.below bx7)
                  have hF := (LogL (Mu.one p g1 g2) (gdS litS bx) gm q litS).lt P6.out.lm.live.at_
                  have ho8 := own_below (own_more ho6 P6.out.lm.live.bel.size) bx7
                  have P9 := Lib.hid (P8.out.setbox (lr' := lg2) ho8 (fun j hj => by
                    have hj2 := (ho6.lt j hj).1
                    have k1 := P6.out.rig.1.lt
                    have k2 := P6.out.box.1.lt
                    have k3 := P6.out.bod.1.lt
                    have k4 := P6.out.gen.1.lt
                    exact ⟨fun hf => by have := hF _ hf; omega, by omega, by omega, by omega, by omega⟩))
                  have U9 := Lib.hid (show Bx wb (x7.setRow b9 (rlC lg2 (some ⟨q6, 0, none⟩) a c6)) F5 b13 #[.int .u8 u.kind, .int .u8 u.n, .slice u.A u.b.length u.c] 85 from ⟨U8.out.1.but (But.setRow (S := fun j => j = b9) (But.refl _) (Or.inl rfl) _) (fun e => NE.out.2.1 e), U8.out.2⟩)
                  clear bw bx7 hF ho8 ho6 HRA P7 U7 HX9 hap1 hap2 P6 U6 c2
                  unfold rlC at hx7
                  unfold rlC
                  go_wp2_with (show wpList _ _ _ ({ dst := _, op := .load 79 (.tmp 20), type := _, pos := _, after := _, guard := _ } :: _) _ _; apply Classical.byContradiction; intro hneg)
                  refine hneg ?_
                  clear hneg
                  rw [← hx7]
                  refine wpList_load_row rfl 79 (.tmp 20) rfl x6.heap.size rfl 79 (rlC lg2 (some ⟨q6, 0, none⟩) a c6) (0, 0) _ X20.out Try.underlying79 rfl rfl ?_
                  go_wp2_with (show wpList _ _ _ ({ dst := none, op := .store 79 (.tmp 9) (.tmp 102), type := _, pos := _, after := _, guard := _ } :: _) _ _; apply Classical.byContradiction; intro hneg)
                  refine hneg ?_
                  clear hneg
                  refine wpList_store_row rfl 79 (.tmp 9) (.tmp 102) rfl b9 (rlC lg2 (some ⟨q6, 0, none⟩) a c6) rfl rfl 79 _ P8.out.box.1 rfl rfl (by simp [rlC, Value.oneCell']) ?_
                  obtain ⟨x9, hx9⟩ : ∃ W, W = x7.setRow b9 (rlC lg2 (some ⟨q6, 0, none⟩) a c6) := ⟨_, rfl⟩
                  rw [← hx9] at P9 U9
                  rw [← hx9]
                  clear hx9 hx7 P8 U8 X20
                  go_upto_region 32 with fail
                  obtain ⟨x10, hx10⟩ : ∃ W, W = x9.drew := ⟨_, rfl⟩
                  have bd : Below x9.heap.size x9 x10 := by rw [hx10]; exact (Below.refl _ _).drew
                  have P10 := Lib.hid (P9.out.below bd)
                  have U10 := Lib.hid (U9.out.below bd)
                  have HB0 := Lib.hid (show (boC bo)[T]? = some (boV (bo.getD T nilB)) by
                    have h := HPL.out.bl
                    have h2 := HTT.out
                    simp [boC, List.getD_eq_getElem?_getD, List.getElem?_eq_getElem (show T < bo.length by omega)])
                  have HG0 := Lib.hid (show ((gv gs).toArray)[T]? = some (.int .u64 ((gs.getD T 0 : Nat) : Int)) by
                    have h := HPL.out.gl
                    have h2 := HTT.out
                    rw [List.getElem?_toArray]; exact gv_get (by omega))
                  have HSS := Lib.hid (show ∀ (W : World) (gs' : List Nat) (bo' : List Bo), PlW p g1 g2 bx gm q a b wb W s5 F5 lg2 lg2 L2 gs' bo' (some ⟨q6, 0, none⟩) c6 bR b9 b10 b11 (k + 1) → Bx wb W F5 b13 #[.int .u8 u.kind, .int .u8 u.n, .slice u.A u.b.length u.c] 85 →
                      (W.cell? ⟨b13, 2, none⟩ = some (.slice u.A m u.c) ∧ W.cell? ⟨b9, 3, none⟩ = some (.slice (some ⟨q6, 0, none⟩) a c6) ∧ W.cell? ⟨b9, 1, none⟩ = some (.int .i64 (t1 : Int)) ∧ W.cell? ⟨q6, t1, none⟩ = some (.int .u64 (g : Int))) from fun W gs' bo' hP hU =>
                    ⟨by rw [HN1.out.1]; exact hU.1.cell 2, hP.box.1.cell 3, by rw [← HPH.out.1]; exact hP.box.1.cell 1, own_getU hP.own (by rw [← HPH.out.2]; exact gv_get (by rw [hlen]; exact HTT.out.1))⟩)
                  clear bd P9 U9
                  have t0 : (0 : Int) ≤ (t1 : Int) := by omega
                  have t1a : (t1 : Int) < (a : Int) := by have := HTT.out; omega
                  have T0 : (0 : Int) ≤ (T : Int) := by omega
                  have T1 : (T : Int) < 40 := by have := HTT.out; omega
                  refine wp_region_held_drew (S := (fun w' => w'.cell? ⟨b13, 2, none⟩ = some (.slice u.A m u.c) ∧ w'.cell? ⟨b9, 3, none⟩ = some (.slice (some ⟨q6, 0, none⟩) a c6) ∧ w'.cell? ⟨b9, 1, none⟩ = some (.int .i64 (t1 : Int)) ∧ w'.cell? ⟨q6, t1, none⟩ = some (.int .u64 (g : Int)))) (by kernel_rfl) (by rw [← hx10]; exact HSS.out _ _ _ P10.out U10.out) (fun hh => ?_)
                  rw [← hx10] at hh ⊢
                  have HH := Lib.hid hh
                  clear hh hx10 hlen
                  try simp only [List.getElem_toArray, List.getElem_cons_succ, List.getElem_cons_zero, Act.put, List.setIfInBounds_toArray, List.set_cons_zero, List.set_cons_succ]
                  refine wpAnyH_take (i := 0) (v := ?vR0) rfl (by kernel_rfl) (by kernel_rfl) (by kernel_rfl) (fun _ _ _ h => h) (Or.inl ⟨by rfl, fun w' _ => ?yR0⟩) HH.out ?_
                  case yR0 => (go_simp; try with_reducible rfl)
                  try simp only [List.getElem_toArray, List.getElem_cons_zero, Act.put, List.setIfInBounds_toArray, List.set_cons_zero, List.set_cons_succ]
                  refine wpAnyH_take (i := 1) (v := ?vR1) rfl (by kernel_rfl) (by kernel_rfl) (by kernel_rfl) (fun _ _ _ h => h) (Or.inl ⟨by rfl, fun w' _ => ?yR1⟩) HH.out ?_
                  case yR1 => (go_simp; try with_reducible rfl)
                  try simp only [List.getElem_toArray, List.getElem_cons_succ, List.getElem_cons_zero, Act.put, List.setIfInBounds_toArray, List.set_cons_zero, List.set_cons_succ]
                  refine wpAnyH_take (i := 2) (v := ?vR2) rfl (by kernel_rfl) (by kernel_rfl) (by kernel_rfl) (fun _ _ _ h => h) (Or.inl ⟨by rfl, fun w' _ => ?yR2⟩) HH.out ?_
                  case yR2 => (go_simp; try with_reducible rfl)
                  try simp only [List.getElem_toArray, List.getElem_cons_succ, List.getElem_cons_zero, Act.put, List.setIfInBounds_toArray, List.set_cons_zero, List.set_cons_succ]
                  refine wpAnyH_take (i := 4) (v := ?vR4) rfl (by kernel_rfl) (by kernel_rfl) (by kernel_rfl) (fun _ _ _ h => h) (Or.inl ⟨by rfl, fun w' _ => ?yR4⟩) HH.out ?_
                  case yR4 => (go_simp; try with_reducible rfl)
                  try simp only [List.getElem_toArray, List.getElem_cons_succ, List.getElem_cons_zero, Act.put, List.setIfInBounds_toArray, List.set_cons_zero, List.set_cons_succ]
                  refine wpAnyH_take (i := 6) (v := ?vR6) rfl (by kernel_rfl) (by kernel_rfl) (by kernel_rfl) (fun _ _ _ h => h) (Or.inl ⟨by rfl, fun w' _ => ?yR6⟩) HH.out ?_
                  case yR6 => (go_simp; try with_reducible rfl)
                  try simp only [List.getElem_toArray, List.getElem_cons_succ, List.getElem_cons_zero, Act.put, List.setIfInBounds_toArray, List.set_cons_zero, List.set_cons_succ]
                  refine wpAnyH_take (i := 3) (v := .slice u.A m u.c) rfl (by kernel_rfl) (by kernel_rfl) (by kernel_rfl) (fun _ _ _ h => h) (Or.inl ⟨by rfl, fun w' hw' => ?yR3⟩) HH.out ?_
                  case yR3 => ((have hc := hw'.1); go_simp; try with_reducible rfl)
                  try simp only [List.getElem_toArray, List.getElem_cons_succ, List.getElem_cons_zero, Act.put, List.setIfInBounds_toArray, List.set_cons_zero, List.set_cons_succ]
                  refine wpAnyH_take (i := 5) (v := .slice (some ⟨q6, 0, none⟩) a c6) rfl (by kernel_rfl) (by kernel_rfl) (by kernel_rfl) (fun _ _ _ h => h) (Or.inl ⟨by rfl, fun w' hw' => ?yR5⟩) HH.out ?_
                  case yR5 => ((have hc := hw'.2.1); go_simp; try with_reducible rfl)
                  try simp only [List.getElem_toArray, List.getElem_cons_succ, List.getElem_cons_zero, Act.put, List.setIfInBounds_toArray, List.set_cons_zero, List.set_cons_succ]
                  refine wpAnyH_take (i := 7) (v := .int .i64 (t1 : Int)) rfl (by kernel_rfl) (by kernel_rfl) (by kernel_rfl) (fun _ _ _ h => h) (Or.inl ⟨by rfl, fun w' hw' => ?yR7⟩) HH.out ?_
                  case yR7 => ((have hc := hw'.2.2.1); go_simp; try with_reducible rfl)
                  try simp only [List.getElem_toArray, List.getElem_cons_succ, List.getElem_cons_zero, Act.put, List.setIfInBounds_toArray, List.set_cons_zero, List.set_cons_succ]
                  refine wpAnyH_take (i := 8) (v := ?vR8) rfl (by kernel_rfl) (by kernel_rfl) (by kernel_rfl) (fun _ _ _ h => h) (Or.inl ⟨by rfl, fun w' _ => ?yR8⟩) HH.out ?_
                  case yR8 => (go_simp; try with_reducible rfl)
                  try simp only [List.getElem_toArray, List.getElem_cons_succ, List.getElem_cons_zero, Act.put, List.setIfInBounds_toArray, List.set_cons_zero, List.set_cons_succ]
                  refine wpAnyH_take (i := 9) (v := .int .u64 (g : Int)) rfl (by kernel_rfl) (by kernel_rfl) (by kernel_rfl) (fun _ _ _ h => h) (Or.inl ⟨by rfl, fun w' hw' => ?yR9⟩) HH.out ?_
                  case yR9 => ((have hc := hw'.2.2.2); go_simp; try with_reducible rfl)
                  try simp only [List.getElem_toArray, List.getElem_cons_succ, List.getElem_cons_zero, Act.put, List.setIfInBounds_toArray, List.set_cons_zero, List.set_cons_succ]
                  refine wpAnyH_take (i := 10) (v := ?vR10) rfl (by kernel_rfl) (by kernel_rfl) (by kernel_rfl) (fun _ _ _ h => h) (Or.inl ⟨by rfl, fun w' _ => ?yR10⟩) HH.out ?_
                  case yR10 => (go_simp; try with_reducible rfl)
                  try simp only [List.getElem_toArray, List.getElem_cons_succ, List.getElem_cons_zero, Act.put, List.setIfInBounds_toArray, List.set_cons_zero, List.set_cons_succ]
                  refine wpAnyH_ready (rs := [11]) (by kernel_rfl) (by simp) (AllReadyH.cons rfl (fun K hK => ?_) AllReadyH.nil)
                  have cx11 : x10.cell? ⟨b10, T, none⟩ = some (boV (bo.getD T nilB)) := by rw [P10.out.bod.1.cell]; exact HB0.out
                  have fx11 : x10.frozen? ⟨b10, T, none⟩ = false := P10.out.bod.1.free T
                  go_simp
                  obtain ⟨x11, hx11⟩ : ∃ W, W = x10.setCell ⟨b10, T, none⟩ (.slice u.A m u.c) := ⟨_, rfl⟩
                  rw [← hx11]
                  have P11 := Lib.hid (show PlW p g1 g2 bx gm q a b wb x11 s5 F5 lg2 lg2 L2 _ _ (some ⟨q6, 0, none⟩) c6 bR b9 b10 b11 (k + 1) by rw [hx11, HN1.out.1]; exact P10.out.setbod T ⟨u.A, u.c, u.b⟩)
                  have U11 := Lib.hid (show Bx wb x11 F5 b13 #[.int .u8 u.kind, .int .u8 u.n, .slice u.A u.b.length u.c] 85 from ⟨by rw [hx11]; exact U10.out.1.but (But.setCell (S := fun j => j = b10) (But.refl _) (Or.inl rfl) _) (fun e => by have := NE.out; omega), U10.out.2⟩)
                  clear cx11 fx11 hx11
                  refine hK.out _ _ (HSS.out _ _ _ P11.out U11.out) (fun hh => ?_)
                  have HH' := Lib.hid hh
                  clear hh hK K HH
                  have HH := Lib.hid HH'.out
                  clear HH'
                  try simp only [List.getElem_toArray, List.getElem_cons_succ, List.getElem_cons_zero, Act.put, List.setIfInBounds_toArray, List.set_cons_zero, List.set_cons_succ]
                  refine wpAnyH_take (i := 12) (v := ?vR12) rfl (by kernel_rfl) (by kernel_rfl) (by kernel_rfl) (fun _ _ _ h => h) (Or.inl ⟨by rfl, fun w' _ => ?yR12⟩) HH.out ?_
                  case yR12 => (go_simp; try with_reducible rfl)
                  try simp only [List.getElem_toArray, List.getElem_cons_succ, List.getElem_cons_zero, Act.put, List.setIfInBounds_toArray, List.set_cons_zero, List.set_cons_succ]
                  refine wpAnyH_ready (rs := [13]) (by kernel_rfl) (by simp) (AllReadyH.cons rfl (fun K hK => ?_) AllReadyH.nil)
                  have cx12 : x11.cell? ⟨b11, T, none⟩ = some (.int .u64 ((gs.getD T 0 : Nat) : Int)) := by rw [P11.out.gen.1.cell]; exact HG0.out
                  have fx12 : x11.frozen? ⟨b11, T, none⟩ = false := P11.out.gen.1.free T
                  go_simp
                  obtain ⟨x12, hx12⟩ : ∃ W, W = x11.setCell ⟨b11, T, none⟩ (.int .u64 (g : Int)) := ⟨_, rfl⟩
                  rw [← hx12]
                  have P12 := Lib.hid (show PlW p g1 g2 bx gm q a b wb x12 s5 F5 lg2 lg2 L2 _ _ (some ⟨q6, 0, none⟩) c6 bR b9 b10 b11 (k + 1) by rw [hx12]; exact P11.out.setgn T g)
                  have U12 := Lib.hid (show Bx wb x12 F5 b13 #[.int .u8 u.kind, .int .u8 u.n, .slice u.A u.b.length u.c] 85 from ⟨by rw [hx12]; exact U11.out.1.but (But.setCell (S := fun j => j = b11) (But.refl _) (Or.inl rfl) _) (fun e => by have := NE.out; omega), U11.out.2⟩)
                  clear cx12 fx12 hx12
                  refine hK.out _ _ (HSS.out _ _ _ P12.out U12.out) (fun hh => ?_)
                  have HH' := Lib.hid hh
                  clear hh hK K HH
                  have HH := Lib.hid HH'.out
                  clear HH'
                  try simp only [List.getElem_toArray, List.getElem_cons_succ, List.getElem_cons_zero, Act.put, List.setIfInBounds_toArray, List.set_cons_zero, List.set_cons_succ]
                  refine wpAnyH_done (by kernel_rfl) ?_ _
                  have PS12 := Lib.hid (show PlS p g1 g2 bx gm q a b wb _ s5 F5 lg2 lg2 L2 _ _ (some ⟨q6, 0, none⟩) c6 bR b9 b10 b11 (k + 1) from ⟨P12.out, PLN.out⟩)
                  go_wp2_with fail
                  go_meet
                  exact ⟨lg2, L2, _, _, _, c6, s5, F5, PS12, BO2⟩
      case rest =>
        clear PC U13 c0 HCE BO
        obtain ⟨lg2, L2, gs2, bo2, AG2, cG2, s2, F2, PS2, BO2⟩ := hcut
        have r4 : World.cell? _ ⟨bR, 4, none⟩ = some (.pointer (some ⟨q, 0, none⟩)) := PS2.out.rig.1.cell 4
        have HAL := Lib.hid (alike_any PS2.out.lm AG2 a cG2 PS2.out.pl.len (by have := HAB.out; omega) (by have := HAB.out; have := PS2.out.pl.size; omega) (Rd.own PS2.out.own))
        go_wp2_with first | (refine wpList_load_row rfl 79 (.tmp 9) rfl b9 rfl 79 (rlC lg2 AG2 a cG2) (0, 0) _ PS2.out.box.1 Try.underlying79 rfl rfl ?_)
        refine HAL.out.mono ?_
        rintro e x5 ⟨rfl, bw⟩
        have PS3 := Lib.hid (PS2.out.below bw)
        clear bw PS2 HAL r4
        go_wp2_with fail
        go_round
        case rel => exact ⟨k + 1, HLT.out, rfl, lg2, L2, gs2, bo2, AG2, cG2, s2, F2, PS3, BO2⟩
        case measure => have := HLT.out; simp [intOf]; omega
    · have HOK := Lib.hid (show Sg.okS (a : Int) (b : Int) by unfold Sg.okS; have := HAB.out; omega)
      obtain ⟨M, hM⟩ : ∃ M : Nat, M = 2 + a * b := ⟨_, rfl⟩
      have hM2 : (2 + (a : Int) * (b : Int)) = (M : Int) := by rw [hM]; push_cast; rfl
      have HMM := Lib.hid (show M ≤ 26 ∧ M = 2 + a * b from ⟨by have := HAB.out; omega, hM⟩)
      have HM2 := Lib.hid hM2
      have HSE := Lib.hid (fun W => sectors_yes (a : Int) (b : Int) HOK.out W)
      rw [hM2] at HSE
      unfold shV at HSE
      have wM : IntKind.i64.wrap ((M : Int) + 1) = (M : Int) + 1 := IntWalk.i64_in _ (by have := HMM.out; omega)
      have HPL := Lib.hid PS.out.pl
      clear hM hM2 BA
      go_wp2_with fail
      clear hk hlt
      go_loopw [22] (fun i wy => ∃ (z : Int) (s : Mr (Mu.one p g1 g2)) (F : Nat → Prop), -1 ≤ z ∧ z ≤ (M : Int) + 1 ∧ i = .int .i64 z ∧ Hid (PlS p g1 g2 bx gm q a b wb wy s F lg lg L gs bo AG cG bR b9 b10 b11 k)) (fun i _ => ((M : Int) + 1 - intOf i).toNat)
      case atStart => exact ⟨-1, s, F, by omega, by omega, rfl, PS⟩
      case round =>
        clear PS
        obtain ⟨z, s1, F1, hz1, hz2, rfl, P1⟩ := hrel
        have HZZ := Lib.hid (And.intro hz1 hz2)
        have r4 : wr.cell? ⟨bR, 4, none⟩ = some (.pointer (some ⟨q, 0, none⟩)) := P1.out.rig.1.cell 4
        have r5 : wr.cell? ⟨bR, 5, none⟩ = some (.int .i64 (a : Int)) := P1.out.rig.1.cell 5
        have r6 : wr.cell? ⟨bR, 6, none⟩ = some (.int .i64 (b : Int)) := P1.out.rig.1.cell 6
        clear hz1 hz2
        by_cases hzl : z < (M : Int) + 1
        · have HZL := Lib.hid hzl
          have wz : IntKind.i64.wrap (z + 1) = z + 1 := IntWalk.i64_in _ (by have := HMM.out; have := HZZ.out; omega)
          go_wp2_with fail
          refine (HSE.out _).mono ?_
          rintro e v2 ⟨rfl, bw⟩
          have P2 := Lib.hid (P1.out.below bw)
          have r4 : v2.cell? ⟨bR, 4, none⟩ = some (.pointer (some ⟨q, 0, none⟩)) := P2.out.rig.1.cell 4
          clear bw P1 r5 r6
          go_wp2_with fail
          obtain ⟨rx, hrx⟩ : ∃ r, r = readX (gdS litS bx) (Sc.startM L L (2 + a * b)) lg z := ⟨_, rfl⟩
          have hrd := lgm_read P2.out.lm z
          rw [← hrx] at hrd
          refine hrd.mono ?_
          rintro e v3 ⟨A5, n5, c5, F5, rfl, ho, hlm, hmv, -⟩
          have P3 := Lib.hid (P2.out.code hlm HPL.out P2.out.last hmv.new hmv.but)
          have O3 := Lib.hid ho
          have LN3 := Lib.hid (show rx.1.length = n5 by have h := own_len ho; rw [bv_length] at h; exact h)
          have HRX := Lib.hid hrx
          have r5 : v3.cell? ⟨bR, 5, none⟩ = some (.int .i64 (a : Int)) := P3.out.rig.1.cell 5
          have r6 : v3.cell? ⟨bR, 6, none⟩ = some (.int .i64 (b : Int)) := P3.out.rig.1.cell 6
          obtain ⟨rl, re⟩ := rx
          clear ho hlm hmv hrd hrx r4 P2
          go_wp2_with fail
          by_cases hin : 2 ≤ z ∧ z < (M : Int)
          · obtain ⟨T, rfl⟩ := Int.eq_ofNat_of_zero_le (show 0 ≤ z by omega)
            have HTT := Lib.hid (show 2 ≤ T ∧ T < M ∧ T < 26 by have := HMM.out; omega)
            obtain ⟨i, j, hi, hia, hjb, hT⟩ := at_of (a := a) (b := b) (T := T) (by have := HAB.out; omega) (by omega) (by have := HMM.out; omega)
            have hof := fun W => of_yes (a : Int) (b : Int) (i : Int) (j : Int) ⟨HOK.out, by omega, by omega⟩ W
            rw [hT] at hof
            have hri := read_in (bx := bx) HPL.out (T := T) (by omega) (by have := HMM.out; omega)
            rw [← hi, ← HRX.out] at hri
            have HRI := Lib.hid hri
            have HI := Lib.hid (show i < a from hia)
            refine (hof _).mono ?_
            rintro e v4 ⟨rfl, bw⟩
            have P4 := Lib.hid (P3.out.below bw)
            have O4 := Lib.hid (own_below O3.out (bw.mono (Nat.le_refl _)))
            clear bw P3 O3 r5 r6 hof hT hi hjb hia hri hin
            obtain ⟨qb, hqb⟩ : ∃ qb, AG = some ⟨qb, 0, none⟩ := by
              rcases P4.out.own.2 with ⟨h, h'⟩ | ⟨g', cap, cur, h, _⟩
              · injection h with e1 e2 e3; exfalso; have := HAB.out; omega
              · injection h with h _ _; exact ⟨g', h⟩
            subst hqb
            obtain ⟨G2, hg2⟩ : ∃ g, g = lg.gens.getD i 0 := ⟨_, rfl⟩
            obtain ⟨G1, hg1⟩ : ∃ g, g = gs.getD T 0 := ⟨_, rfl⟩
            obtain ⟨xb, hxb⟩ : ∃ x, x = bo.getD T nilB := ⟨_, rfl⟩
            have hri := HRI.out
            rw [← hg2, ← hg1, ← hxb] at hri
            have HG2 := Lib.hid (show (gv lg.gens)[i]? = some (.int .u64 (G2 : Int)) by rw [hg2]; exact gv_get (by rw [HPL.out.len]; exact HI.out))
            have HG1 := Lib.hid (show ((gv gs).toArray)[T]? = some (.int .u64 (G1 : Int)) by rw [hg1, List.getElem?_toArray]; exact gv_get (by have := HPL.out.gl; have := HTT.out; omega))
            have HXB := Lib.hid (show (boC bo)[T]? = some (.slice xb.A xb.b.length xb.c) by rw [hxb]; exact bo_get (by have := HPL.out.bl; have := HTT.out; omega))
            have RXB := Lib.hid (show Rd w.heap.size w xb.A (bv xb.b) by rw [hxb]; exact (BO.out _ (bo_mem (by have := HPL.out.bl; have := HTT.out; omega))).1)
            have x3 : v4.cell? ⟨b9, 3, none⟩ = some (.slice (some ⟨qb, 0, none⟩) a cG) := P4.out.box.1.cell 3
            have xg : v4.cell? ⟨qb, i, none⟩ = some (.int .u64 (G2 : Int)) := own_getU P4.out.own HG2.out
            have i0 : (0 : Int) ≤ (i : Int) := by omega
            have i1 : (i : Int) < (a : Int) := by have := HI.out; omega
            have T0 : (0 : Int) ≤ (T : Int) := by omega
            have T1 : (T : Int) < 40 := by have := HTT.out; omega
            clear hg1 hg2 hxb HRI HRX
            by_cases h0 : G2 = 0
            · rw [if_pos h0] at hri
              injection hri with h1 h2
              subst h1 h2 h0
              obtain rfl : 0 = n5 := LN3.out
              go_wp2_with fail
              go_round
              case rel => exact ⟨(T : Int) + 1, _, _, by have := HZZ.out; omega, by have := HZL.out; omega, rfl, P4⟩
              case measure => have := HZL.out; have := HZZ.out; simp [intOf]; omega
            · rw [if_neg h0] at hri
              have n0 : ¬(G2 : Int) = 0 := by omega
              have n0b : ((G2 : Int) == 0) = false := by simp; omega
              clear h0
              go_upto_region 62 with fail
              clear x3 xg
              obtain ⟨v5, hv5⟩ : ∃ W, W = v4.drew := ⟨_, rfl⟩
              have bd : Below v4.heap.size v4 v5 := by rw [hv5]; exact (Below.refl _ _).drew
              have P5 := Lib.hid (P4.out.below bd)
              have O5 := Lib.hid (own_below O4.out (bd.mono (by have := (O4.out); exact Nat.le_refl _)))
              clear bd P4 O4
              refine wp_region_held_drew (S := (fun w' => Below v5.heap.size v5 w')) (by kernel_rfl) (by rw [← hv5]; exact Below.refl _ _) (fun hh => ?_)
              rw [← hv5] at hh ⊢
              have HH := Lib.hid hh
              clear hh hv5
              try simp only [List.getElem_toArray, List.getElem_cons_succ, List.getElem_cons_zero, Act.put, List.setIfInBounds_toArray, List.set_cons_zero, List.set_cons_succ]
              refine wpAnyH_take (i := 0) (v := ?vS0) rfl (by kernel_rfl) (by kernel_rfl) (by kernel_rfl) (fun _ _ _ h => h) (Or.inl ⟨by rfl, fun w' _ => ?yS0⟩) HH.out ?_
              case yS0 => (go_simp; try with_reducible rfl)
              try simp only [List.getElem_toArray, List.getElem_cons_zero, Act.put, List.setIfInBounds_toArray, List.set_cons_zero, List.set_cons_succ]
              refine wpAnyH_take (i := 1) (v := ?vS1) rfl (by kernel_rfl) (by kernel_rfl) (by kernel_rfl) (fun _ _ _ h => h) (Or.inl ⟨by rfl, fun w' _ => ?yS1⟩) HH.out ?_
              case yS1 => (go_simp; try with_reducible rfl)
              try simp only [List.getElem_toArray, List.getElem_cons_succ, List.getElem_cons_zero, Act.put, List.setIfInBounds_toArray, List.set_cons_zero, List.set_cons_succ]
              refine wpAnyH_take (i := 2) (v := .int .u64 (G1 : Int)) rfl (by kernel_rfl) (by kernel_rfl) (by kernel_rfl) (fun _ _ _ h => h) (Or.inl ⟨by rfl, fun w' hw' => ?yS2⟩) HH.out ?_
              case yS2 => (have hc := (P5.out.below hw').gen.1.cell T; rw [HG1.out] at hc; go_simp; try with_reducible rfl)
              try simp only [List.getElem_toArray, List.getElem_cons_succ, List.getElem_cons_zero, Act.put, List.setIfInBounds_toArray, List.set_cons_zero, List.set_cons_succ]
              refine wpAnyH_take (i := 3) (v := ?vS3) rfl (by kernel_rfl) (by kernel_rfl) (by kernel_rfl) (fun _ _ _ h => h) (Or.inl ⟨by rfl, fun w' _ => ?yS3⟩) HH.out ?_
              case yS3 => (go_simp; try with_reducible rfl)
              try simp only [List.getElem_toArray, List.getElem_cons_succ, List.getElem_cons_zero, Act.put, List.setIfInBounds_toArray, List.set_cons_zero, List.set_cons_succ]
              refine wpAnyH_take (i := 4) (v := .slice (some ⟨qb, 0, none⟩) a cG) rfl (by kernel_rfl) (by kernel_rfl) (by kernel_rfl) (fun _ _ _ h => h) (Or.inl ⟨by rfl, fun w' hw' => ?yS4⟩) HH.out ?_
              case yS4 => (have hc : w'.cell? ⟨b9, 3, none⟩ = some (.slice (some ⟨qb, 0, none⟩) a cG) := (P5.out.below hw').box.1.cell 3; go_simp; try with_reducible rfl)
              try simp only [List.getElem_toArray, List.getElem_cons_succ, List.getElem_cons_zero, Act.put, List.setIfInBounds_toArray, List.set_cons_zero, List.set_cons_succ]
              refine wpAnyH_take (i := 5) (v := ?vS5) rfl (by kernel_rfl) (by kernel_rfl) (by kernel_rfl) (fun _ _ _ h => h) (Or.inl ⟨by rfl, fun w' _ => ?yS5⟩) HH.out ?_
              case yS5 => (go_simp; try with_reducible rfl)
              try simp only [List.getElem_toArray, List.getElem_cons_succ, List.getElem_cons_zero, Act.put, List.setIfInBounds_toArray, List.set_cons_zero, List.set_cons_succ]
              refine wpAnyH_take (i := 6) (v := ?vS6) rfl (by kernel_rfl) (by kernel_rfl) (by kernel_rfl) (fun _ _ _ h => h) (Or.inl ⟨by rfl, fun w' _ => ?yS6⟩) HH.out ?_
              case yS6 => (go_simp; try with_reducible rfl)
              try simp only [List.getElem_toArray, List.getElem_cons_succ, List.getElem_cons_zero, Act.put, List.setIfInBounds_toArray, List.set_cons_zero, List.set_cons_succ]
              refine wpAnyH_take (i := 7) (v := .int .u64 (G2 : Int)) rfl (by kernel_rfl) (by kernel_rfl) (by kernel_rfl) (fun _ _ _ h => h) (Or.inl ⟨by rfl, fun w' hw' => ?yS7⟩) HH.out ?_
              case yS7 => (have hc := own_getU (P5.out.below hw').own HG2.out; go_simp; try with_reducible rfl)
              by_cases h12 : G1 = G2
              · rw [if_pos h12] at hri
                injection hri with h1 h2
                subst h12 h1 h2
                try simp only [List.getElem_toArray, List.getElem_cons_succ, List.getElem_cons_zero, Act.put, List.setIfInBounds_toArray, List.set_cons_zero, List.set_cons_succ]
                refine wpAnyH_take (i := 8) (v := .bool true) rfl (by kernel_rfl) (by kernel_rfl) (by kernel_rfl) (fun _ _ _ h => h) (Or.inl ⟨by rfl, fun w' hw' => ?yS8⟩) HH.out ?_
                case yS8 => (go_simp; try with_reducible rfl)
                try simp only [List.getElem_toArray, List.getElem_cons_succ, List.getElem_cons_zero, Act.put, List.setIfInBounds_toArray, List.set_cons_zero, List.set_cons_succ]
                refine wpAnyH_take (i := 9) (v := ?vS9) rfl (by kernel_rfl) (by kernel_rfl) (by kernel_rfl) (fun _ _ _ h => h) (Or.inl ⟨by rfl, fun w' _ => ?yS9⟩) HH.out ?_
                case yS9 => (go_simp; try with_reducible rfl)
                try simp only [List.getElem_toArray, List.getElem_cons_succ, List.getElem_cons_zero, Act.put, List.setIfInBounds_toArray, List.set_cons_zero, List.set_cons_succ]
                refine wpAnyH_done (by kernel_rfl) ?_ _
                clear HH
                go_upto_region 63 with fail
                obtain ⟨v6, hv6⟩ : ∃ W, W = v5.drew := ⟨_, rfl⟩
                have bd : Below v5.heap.size v5 v6 := by rw [hv6]; exact (Below.refl _ _).drew
                have P6 := Lib.hid (P5.out.below bd)
                have O6 := Lib.hid (show v6.ownsRow _ 5 1 (.slice A5 n5 c5) n5 (bv xb.b) from own_below O5.out bd)
                have LN := Lib.hid (show xb.b.length = n5 from LN3.out)
                obtain ⟨Z, hZ⟩ : ∃ Z, Z = (⟨xb.b.toArray⟩ : ByteArray) := ⟨_, rfl⟩
                have HZ := Lib.hid hZ
                have HZ2 := Lib.hid hZ
                clear bd P5 O5 hZ
                refine wp_region_held_drew (S := (fun w' => Below v6.heap.size v6 w')) (by kernel_rfl) (by rw [← hv6]; exact Below.refl _ _) (fun hh => ?_)
                rw [← hv6] at hh ⊢
                have HH := Lib.hid hh
                clear hh hv6
                try simp only [List.getElem_toArray, List.getElem_cons_succ, List.getElem_cons_zero, Act.put, List.setIfInBounds_toArray, List.set_cons_zero, List.set_cons_succ]
                refine wpAnyH_take (i := 0) (v := ?vZ0) rfl (by kernel_rfl) (by kernel_rfl) (by kernel_rfl) (fun _ _ _ h => h) (Or.inl ⟨by rfl, fun w' _ => ?yZ0⟩) HH.out ?_
                case yZ0 => (go_simp; try with_reducible rfl)
                try simp only [List.getElem_toArray, List.getElem_cons_zero, Act.put, List.setIfInBounds_toArray, List.set_cons_zero, List.set_cons_succ]
                refine wpAnyH_take (i := 1) (v := ?vZ1) rfl (by kernel_rfl) (by kernel_rfl) (by kernel_rfl) (fun _ _ _ h => h) (Or.inl ⟨by rfl, fun w' _ => ?yZ1⟩) HH.out ?_
                case yZ1 => (go_simp; try with_reducible rfl)
                try simp only [List.getElem_toArray, List.getElem_cons_succ, List.getElem_cons_zero, Act.put, List.setIfInBounds_toArray, List.set_cons_zero, List.set_cons_succ]
                refine wpAnyH_take (i := 2) (v := ?vZ2) rfl (by kernel_rfl) (by kernel_rfl) (by kernel_rfl) (fun _ _ _ h => h) (Or.inl ⟨by rfl, fun w' _ => ?yZ2⟩) HH.out ?_
                case yZ2 => (go_simp; try with_reducible rfl)
                try simp only [List.getElem_toArray, List.getElem_cons_succ, List.getElem_cons_zero, Act.put, List.setIfInBounds_toArray, List.set_cons_zero, List.set_cons_succ]
                refine wpAnyH_take (i := 3) (v := ?vZ3) rfl (by kernel_rfl) (by kernel_rfl) (by kernel_rfl) (fun _ _ _ h => h) (Or.inl ⟨by rfl, fun w' _ => ?yZ3⟩) HH.out ?_
                case yZ3 => (go_simp; try with_reducible rfl)
                try simp only [List.getElem_toArray, List.getElem_cons_succ, List.getElem_cons_zero, Act.put, List.setIfInBounds_toArray, List.set_cons_zero, List.set_cons_succ]
                refine wpAnyH_take (i := 4) (v := .string Z) rfl (by kernel_rfl) (by kernel_rfl) (by kernel_rfl) (fun _ _ _ h => h) (Or.inl ⟨by rfl, fun w' hw' => ?yZ4⟩) HH.out ?_
                case yZ4 => (have kc := conv_rd (c := c5) Try.underlying81 Try.underlying5 Try.underlying9 (Rd.own (own_below O6.out hw')) LN.out; rw [← HZ.out] at kc; go_simp; try with_reducible rfl)
                try simp only [List.getElem_toArray, List.getElem_cons_succ, List.getElem_cons_zero, Act.put, List.setIfInBounds_toArray, List.set_cons_zero, List.set_cons_succ]
                refine wpAnyH_take (i := 5) (v := ?vZ5) rfl (by kernel_rfl) (by kernel_rfl) (by kernel_rfl) (fun _ _ _ h => h) (Or.inl ⟨by rfl, fun w' _ => ?yZ5⟩) HH.out ?_
                case yZ5 => (go_simp; try with_reducible rfl)
                try simp only [List.getElem_toArray, List.getElem_cons_succ, List.getElem_cons_zero, Act.put, List.setIfInBounds_toArray, List.set_cons_zero, List.set_cons_succ]
                refine wpAnyH_take (i := 6) (v := ?vZ6) rfl (by kernel_rfl) (by kernel_rfl) (by kernel_rfl) (fun _ _ _ h => h) (Or.inl ⟨by rfl, fun w' _ => ?yZ6⟩) HH.out ?_
                case yZ6 => (go_simp; try with_reducible rfl)
                try simp only [List.getElem_toArray, List.getElem_cons_succ, List.getElem_cons_zero, Act.put, List.setIfInBounds_toArray, List.set_cons_zero, List.set_cons_succ]
                refine wpAnyH_take (i := 7) (v := .slice xb.A xb.b.length xb.c) rfl (by kernel_rfl) (by kernel_rfl) (by kernel_rfl) (fun _ _ _ h => h) (Or.inl ⟨by rfl, fun w' hw' => ?yZ7⟩) HH.out ?_
                case yZ7 => (have hc := (P6.out.below hw').bod.1.cell T; rw [HXB.out] at hc; go_simp; try with_reducible rfl)
                try simp only [List.getElem_toArray, List.getElem_cons_succ, List.getElem_cons_zero, Act.put, List.setIfInBounds_toArray, List.set_cons_zero, List.set_cons_succ]
                refine wpAnyH_take (i := 8) (v := .string Z) rfl (by kernel_rfl) (by kernel_rfl) (by kernel_rfl) (fun _ _ _ h => h) (Or.inl ⟨by rfl, fun w' hw' => ?yZ8⟩) HH.out ?_
                case yZ8 => (have kc := conv_rd (c := xb.c) Try.underlying81 Try.underlying5 Try.underlying9 (RXB.out.below (BB.out.trans ((P6.out.below hw').lm.live.bel.mono BB.out.size))) rfl; rw [← HZ2.out] at kc; go_simp; try with_reducible rfl)
                try simp only [List.getElem_toArray, List.getElem_cons_succ, List.getElem_cons_zero, Act.put, List.setIfInBounds_toArray, List.set_cons_zero, List.set_cons_succ]
                refine wpAnyH_take (i := 9) (v := ?vZ9) rfl (by kernel_rfl) (by kernel_rfl) (by kernel_rfl) (fun _ _ _ h => h) (Or.inl ⟨by rfl, fun w' _ => ?yZ9⟩) HH.out ?_
                case yZ9 => (go_simp; try with_reducible rfl)
                try simp only [List.getElem_toArray, List.getElem_cons_succ, List.getElem_cons_zero, Act.put, List.setIfInBounds_toArray, List.set_cons_zero, List.set_cons_succ]
                refine wpAnyH_take (i := 10) (v := ?vZ10) rfl (by kernel_rfl) (by kernel_rfl) (by kernel_rfl) (fun _ _ _ h => h) (Or.inl ⟨by rfl, fun w' _ => ?yZ10⟩) HH.out ?_
                case yZ10 => (go_simp; try with_reducible rfl)
                try simp only [List.getElem_toArray, List.getElem_cons_succ, List.getElem_cons_zero, Act.put, List.setIfInBounds_toArray, List.set_cons_zero, List.set_cons_succ]
                refine wpAnyH_done (by kernel_rfl) ?_ _
                go_wp2_with fail
                go_round
                case rel => exact ⟨(T : Int) + 1, _, _, by have := HZZ.out; omega, by have := HZL.out; omega, rfl, P6⟩
                case measure => have := HZL.out; have := HZZ.out; simp [intOf]; omega
              · rw [if_neg h12] at hri
                injection hri with h1 h2
                subst h1 h2
                obtain rfl : 0 = n5 := LN3.out
                have e12 : ((G1 : Int) == (G2 : Int)) = false := by simp; omega
                have e12b : ¬(G1 : Int) = (G2 : Int) := by omega
                try simp only [List.getElem_toArray, List.getElem_cons_succ, List.getElem_cons_zero, Act.put, List.setIfInBounds_toArray, List.set_cons_zero, List.set_cons_succ]
                refine wpAnyH_take (i := 8) (v := .bool false) rfl (by kernel_rfl) (by kernel_rfl) (by kernel_rfl) (fun _ _ _ h => h) (Or.inl ⟨by rfl, fun w' hw' => ?yU8⟩) HH.out ?_
                case yU8 => (go_simp; try with_reducible rfl)
                try simp only [List.getElem_toArray, List.getElem_cons_succ, List.getElem_cons_zero, Act.put, List.setIfInBounds_toArray, List.set_cons_zero, List.set_cons_succ]
                refine wpAnyH_take (i := 9) (v := ?vU9) rfl (by kernel_rfl) (by kernel_rfl) (by kernel_rfl) (fun _ _ _ h => h) (Or.inl ⟨by rfl, fun w' _ => ?yU9⟩) HH.out ?_
                case yU9 => (go_simp; try with_reducible rfl)
                try simp only [List.getElem_toArray, List.getElem_cons_succ, List.getElem_cons_zero, Act.put, List.setIfInBounds_toArray, List.set_cons_zero, List.set_cons_succ]
                refine wpAnyH_done (by kernel_rfl) ?_ _
                clear HH
                go_wp2_with fail
                go_round
                case rel => exact ⟨(T : Int) + 1, _, _, by have := HZZ.out; omega, by have := HZL.out; omega, rfl, P5⟩
                case measure => have := HZL.out; have := HZZ.out; simp [intOf]; omega
          · have hri := read_out HPL.out (k := z) (by rw [HM2.out]; exact hin) (gdS litS bx) (Sc.startM L L (2 + a * b))
            rw [← HRX.out] at hri
            injection hri with h1 h2
            subst h1 h2
            obtain rfl : 0 = n5 := LN3.out
            refine (of_no (a : Int) (b : Int) z (by rw [HM2.out]; exact fun h => hin h.2) _).mono ?_
            rintro e v4 ⟨rfl, bw⟩
            have PE := Lib.hid (P3.out.below bw)
            clear bw P3 O3 r5 r6 hin HRX
            go_wp2_with fail
            go_round
            case rel => exact ⟨z + 1, _, _, by have := HZZ.out; omega, by have := HZL.out; omega, rfl, PE⟩
            case measure => have := HZL.out; have := HZZ.out; simp [intOf]; omega
        · go_wp2_with fail
          refine (HSE.out _).mono ?_
          rintro e v2 ⟨rfl, bw⟩
          have P2 := Lib.hid (P1.out.below bw)
          clear bw P1 r5 r6 r4
          go_wp2_with fail
          go_ret
          exact ⟨rfl, BB.out.trans (P2.out.lm.live.bel.mono BB.out.size)⟩
theorem logPlays_own : ownKnob Try.prog.godebug = none := by kernel_rfl
theorem logPlays_laid : laidOutB Try.prog = true := by kernel_rfl

set_option maxRecDepth 100000 in
theorem logPlays_lifted (os : Os) (started : os.Started) (H : Type) (enc : TypeId × Value → H) :
    ReturnsInHanded {} Try.checked os 5 .any (Rows.logPlaysSpec.pre6 enc Try.prog Try.f5 Rows.logPlaysRow.domain false) (Rows.logPlaysSpec.post enc Try.prog Try.f5 false true false false) := by
  refine returnsInHanded_of_change (C := Try.checked) logPlays_own started (by kernel_rfl) Try.func5
    (ChangeSpec.witness6 (enc := enc) (C := Try.checked) false ⟨#[], #[.int .u8 0, .int .u8 0, .slice none 0 0], []⟩ 8 (by kernel_rfl) (by kernel_rfl) (by kernel_rfl) (by kernel_rfl)) ?_
  intro W base args ds gs before hval0 hW _ _
  have hval : ∀ (j : Nat) t v, Try.f5.params[j]? = some t → args[j]? = some v → Value.okWide Try.prog W .any base t v := hval0
  have hW' := hW
  obtain ⟨p, q, hA0, hV, rfl, hfz, hnd⟩ := hW
  have hA : DataW.TrodAll enc Try.prog W 0 (fun _ => true) true Try.f5.params.toList args.toList ds p := hA0
  rw [Try.params5] at hA hval
  obtain ⟨v0, vs0, d0, ds0, p0, q0, hargs, rfl, rfl, h0, r0⟩ := trodAll_cons hA
  obtain ⟨v1, vs1, d1, ds1, p1, q1, rfl, rfl, rfl, h1, r1⟩ := trodAll_cons r0
  obtain ⟨v2, vs2, d2, ds2, p2, q2, rfl, rfl, rfl, h2, r2⟩ := trodAll_cons r1
  obtain ⟨rfl, rfl, rfl⟩ := trodAll_nil r2
  obtain rfl : args = #[v0, v1, v2] := by cases args; simp_all
  obtain ⟨rfl, rfl⟩ := trodVars_none hV
  obtain ⟨a0, rfl, rfl, rfl, w0⟩ := open_int Try.underlying5 (hval 0 5 v0 rfl rfl) h0
  have b0 := bounds_u8 w0
  obtain ⟨a1, rfl, rfl, rfl, w1⟩ := open_int Try.underlying5 (hval 1 5 v1 rfl rfl) h1
  have b1 := bounds_u8 w1
  obtain ⟨a2, n2, c2, rfl⟩ := okWide_slice Try.underlying67 (hval 2 67 v2 rfl rfl)
  have lt2 : ∀ x ∈ p2, x.block < W.heap.size := by obtain ⟨m, hm⟩ := h2; exact DataW.trod_lt m _ _ _ hm
  obtain ⟨l2, hl2, hc2, hm2, hr2, hz2⟩ := Lo.open_lacts h2
  clear hA0 hval0
  refine (logPlays_any W a0 b0 a1 b1 a2 n2 c2 l2 hl2 hc2 hm2 hr2 hz2).mono fun e W' ⟨he, bel⟩ => ?_
  subst he
  exact ⟨_, rfl, _, _, _, [], _, [], hW', trodAll_mk1 (shut_bool Try.underlying4 _), (trodAll_cons_mk (shut_int Try.underlying5 w0) (trodAll_cons_mk (shut_int Try.underlying5 w1) (trodAll_cons_mk (Below.trod logPlays_laid (by kernel_rfl) (of_decide_eq_true (by kernel_rfl)) h2 bel lt2) trodAll_mk0))), rfl, bel.frame _, fun h => by cases h⟩

theorem logPlays_holds : Rows.LogPlaysSaid :=
  OpenClaim.holds_of_wide 5 Try.f5 rfl rfl rfl rfl rfl rfl rfl ⟨rfl, rfl, rfl, rfl, rfl⟩ rfl rfl rfl rfl rfl (by kernel_rfl) Try.func5 (by kernel_rfl)
    (of_decide_eq_true (by kernel_rfl)) (by unfold Func.isWrapper; rw [if_neg (of_decide_eq_false (by kernel_rfl))]; exact ⟨rfl, rfl⟩)
    (fun os started H enc _ => logPlays_lifted os started H enc)

#print axioms logPlays_holds

end Go.Proofs.Ytnplhagfmfggcaa
