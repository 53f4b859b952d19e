/-
  The law MirrorNone holds: of a mirror that there isn't, of places that there aren't, and of devices that there aren't, nothing is told. For any size, place and sector.
-/
import Derived.Test.YtfofkjcdohmkpaaMn1
import Derived.Test.YtfofkjcdohmkpaaRows
import Derived.ProofKit
import Derived.OpenShut
import Derived.ShutString
import Derived.ChangeOld
namespace Go.Proofs.Ytfofkjcdohmkpaa
open Go.RowKit Kd Mi Go.ChangeShapes Go.WideShapes Go.ChangeAt
attribute [local go_sem ↓] Go.wp_at_zero Go.wp_at_succ
theorem byte_of8 {a : Int} (h : 0 ≤ a ∧ a ≤ 255) : ∃ x : UInt8, a = (x.toNat : Int) := ⟨UInt8.ofNat a.toNat, by rw [UInt8.toNat_ofNat']; omega⟩
set_option maxRecDepth 100000 in
set_option maxHeartbeats 12800000 in
theorem mirrorNone_any (w : World) (a0 : Int) (c0 : 0 ≤ a0 ∧ a0 ≤ 255) (n : Int) (_ : -9223372036854775808 ≤ n ∧ n ≤ 9223372036854775807) (y : List UInt8) (hy : y.length = 128) : Calls Try.prog 7 #[.int .u8 a0, .int .i64 n, .agg (bva y)] w (RetB (.bool true) w) := by
  obtain ⟨u0, rfl⟩ := byte_of8 c0
  clear c0
  obtain ⟨z, hz0⟩ : ∃ z : List UInt8, z = zeroS := ⟨_, rfl⟩
  have hz : ∀ W, (zeroValue 38).run Try.prog W = .ok (.agg (bva z)) W := fun _ => by rw [hz0]; kernel_rfl
  have HZ3 := Lib.hid (show z.length = 128 by rw [hz0]; exact zeroS_length)
  have HZ0 := Lib.hid hz0
  have HIZ := Lib.hid (show (Try.prog.info? 38).map (·.size) = some (bva z).size by rw [bva_size, hz0, zeroS_length]; exact info_sec)
  clear hz0
  obtain ⟨k, hk0⟩ : ∃ k, k = u0.toNat % 13 := ⟨_, rfl⟩
  have HK := Lib.hid (show k < 13 by rw [hk0]; exact Nat.mod_lt _ (by omega))
  have wu : IntKind.i64.wrap (u0.toNat : Int) = (u0.toNat : Int) := IntWalk.i64_in _ (by have := UInt8.toNat_lt u0; omega)
  have hm6 : ((u0.toNat : Int)).tmod 13 = (k : Int) := by rw [hk0, Int.tmod_eq_emod_of_nonneg (by omega)]; omega
  have HY3 := Lib.hid hy
  have HIY := Lib.hid (show (Try.prog.info? 38).map (·.size) = some (bva y).size by rw [bva_size, hy]; exact info_sec)
  obtain ⟨wa, hwa⟩ : ∃ wa, wa = w.alloc (.cells (bva y) 38) := ⟨_, rfl⟩
  have Ba := Lib.hid (show Below w.heap.size w wa from by rw [hwa]; exact (Below.refl _ _).alloc (Nat.le_refl _) _)
  have Xa := Lib.hid (show Blk wa w.heap.size (bva y) 38 from by rw [hwa]; exact heap_alloc_new _ _)
  obtain ⟨b, hb⟩ : ∃ b, b = w.heap.size := ⟨_, rfl⟩
  rw [← hb] at Xa
  clear hk0 hy
  go_enter Try.func7, Try.ntmps7
  go_upto_region 1 with fail
  rw [← hwa, ← hb]
  clear hwa hb
  go_wp2_with fail
  have hc := awake_any wa
  refine hc.mono ?_
  clear hc
  rintro e w1 ⟨rfl, bw⟩
  have B1 := Lib.hid (Ba.out.trans (bw.mono Ba.out.size))
  have X1 := Lib.hid (Xa.out.below bw)
  clear bw Ba Xa
  go_wp2_with fail
  refine (live_new0 (k : Int)).mono ?_
  rintro e w20 ⟨p, g0, rfl, F20, h⟩
  have H20 := Lib.hid h
  clear h
  go_wp2_with fail
  refine (new_any (C := Half p g0) (G := gG) (fun _ _ _ _ _ _ => trivial) (half_at H20.out (see_new k (by have := HK.out; omega)).ds)).mono ?_
  rintro e w21 ⟨g, F21, rfl, h1, h2, h3⟩
  obtain ⟨s1, hs1⟩ : ∃ s1, s1 = newM (Half p g0) (S0.new (k : Int), ()) := ⟨_, rfl⟩
  rw [← hs1] at h1
  have H21 := Lib.hid (show LiveA (ML (Half p g0) gG g) w1 w21 s1 F21 from ⟨h1, fun q hq => (h2 q hq).elim (H20.out.new q) (Nat.le_trans H20.out.bel.size), H20.out.bel.trans (h3.below (fun k hk hq => by have := H20.out.new k hq; omega) H20.out.bel.size)⟩)
  have HN := Lib.hid (dead_nil (C := Half p g0) (G := gG) (g := g) (s := s1) n)
  have HS := Lib.hid (dead_some (C := Half p g0) (G := gG) (g := g) (s := s1) (by rw [hs1]; exact (half_new _).1) (by rw [hs1]; exact (half_new _).2) (by rw [hs1]; rfl) (by rw [hs1]; exact Nat.lt_of_le_of_lt (Nat.max_le.2 ⟨by show mostS (S0.new (k : Int)) ≤ 0; unfold mostS; rw [if_pos (see_new k (by have := HK.out; omega)).ds]; exact (see_new k (by have := HK.out; omega)).few, Nat.le_refl 0⟩) (by omega : (0 : Nat) < 600000)) n)
  clear h1 h2 h3 hs1 H20
  go_wp2_with fail
  go_loopw [10] (fun i wr => ∃ (j : Nat) (F' : Nat → Prop), j ≤ 2 ∧ i = .int .i64 j ∧ LiveA (ML (Half p g0) gG g) w1 wr s1 F') (fun i _ => 2 - (intOf i).toNat)
  case atStart => exact ⟨0, F21, by omega, rfl, H21.out⟩
  case round =>
    clear H21
    obtain ⟨j, Fr, hj, rfl, hlive⟩ := hrel
    have H := Lib.hid hlive
    have HJ := Lib.hid hj
    clear hlive hj
    by_cases hlt : j < 2
    · have HLT := Lib.hid hlt
      have j0 : (0 : Int) ≤ (j : Int) := by omega
      have j1 : (j : Int) < 2 := by omega
      obtain ⟨P, hP⟩ : ∃ P : Option Addr, P = if j = 0 then none else some ⟨g, 0, none⟩ := ⟨_, rfl⟩
      have HD := Lib.hid (show Dead (Half p g0) gG g s1 P n from by rw [hP]; split; exact HN.out; exact HS.out)
      have HPE := Lib.hid hP
      clear hP hlt
      go_upto_if 35 with fail
      go_cut [11] (fun v wx => v = .pointer P ∧ wx = wr)
      case first =>
        obtain rfl | rfl : j = 0 ∨ j = 1 := by have := HLT.out; omega
        · go_wp2_with fail
          go_meet
          exact ⟨by rw [HPE.out, if_pos trivial], rfl⟩
        · go_wp2_with fail
          go_meet
          exact ⟨by rw [HPE.out, if_neg (by omega)], rfl⟩
      case rest =>
        obtain ⟨rfl, rfl⟩ := hcut
        have L0 := Lib.hid H.out
        clear H
        go_wp2_with fail
        have hc := HD.out.read _ _ L0.out.at_
        refine hc.mono ?_
        clear hc
        rintro e v1 ⟨rfl, G1, hm⟩
        have L1 := Lib.hid (L0.out.step hm)
        clear hm L0
        rw [← HZ0.out]
        go_wp2_with (show wpList _ _ _ ({ dst := none, op := .store 38 (.tmp 12) (.tmp 41), type := _, pos := _, after := _, guard := _ } :: _) _ _; apply Classical.byContradiction; intro hneg)
        refine hneg ?_
        clear hneg
        refine wpList_store_row rfl 38 (.tmp 12) (.tmp 41) rfl v1.heap.size (bva z) rfl rfl 38 (bva z) (heap_alloc_new _ _) HIZ.out (by rfl) (bva_one _) ?_
        obtain ⟨v2, hv2⟩ : ∃ v2, v2 = (v1.alloc (.cells (bva z) 38)).setRow v1.heap.size (bva z) := ⟨_, rfl⟩
        have L2 := Lib.hid (L1.out.below (show Below v1.heap.size v1 v2 from by rw [hv2]; exact below_setRow ((Below.refl _ _).alloc (Nat.le_refl _) _) (Nat.le_refl _) _))
        rw [← hv2]
        clear hv2 L1
        go_wp2_with fail
        have hc := HD.out.heal _ _ L2.out.at_
        refine hc.mono ?_
        clear hc
        rintro e v3 ⟨rfl, G3, hm⟩
        have L3 := Lib.hid (L2.out.step hm)
        clear hm L2
        go_wp2_with fail
        have hc := HD.out.stale _ _ L3.out.at_
        refine hc.mono ?_
        clear hc
        rintro e v4 ⟨rfl, G4, hm⟩
        have L4 := Lib.hid (L3.out.step hm)
        clear hm L3
        go_wp2_with fail
        have hc := HD.out.len _ _ L4.out.at_
        refine hc.mono ?_
        clear hc
        rintro e v5 ⟨rfl, G5, hm⟩
        have L5 := Lib.hid (L4.out.step hm)
        clear hm L4
        go_wp2_with (refine wpList_execg8 rfl (exec_load 38 (.tmp 5) rfl rfl (X1.out.below L5.out.bel) Try.underlying38 rfl HIY.out) ?_)
        have hc := HD.out.write _ _ y L5.out.at_ HY3.out
        refine hc.mono ?_
        clear hc
        rintro e v6 ⟨rfl, G6, hm⟩
        have L6 := Lib.hid (L5.out.step hm)
        clear hm L5
        go_wp2_with (refine wpList_execg8 rfl (exec_load 38 (.tmp 5) rfl rfl (X1.out.below L6.out.bel) Try.underlying38 rfl HIY.out) ?_)
        have hc := HD.out.choose _ _ y L6.out.at_ HY3.out
        refine hc.mono ?_
        clear hc
        rintro e v7 ⟨rfl, G7, hm⟩
        have L7 := Lib.hid (L6.out.step hm)
        clear hm L6
        go_wp2_with fail
        have hc := HD.out.both _ _ L7.out.at_
        refine hc.mono ?_
        clear hc
        rintro e v8 ⟨A8, n8, c8, rfl, hn8, ho8, bw8⟩
        obtain rfl : 0 = n8 := hn8
        have L8 := Lib.hid (L7.out.below bw8)
        clear bw8 ho8 L7
        go_wp2_with fail
        have hc := HD.out.sync _ _ L8.out.at_
        refine hc.mono ?_
        clear hc
        rintro e v9 ⟨rfl, G9, hm⟩
        have L9 := Lib.hid (L8.out.step hm)
        clear hm L8
        go_wp2_with fail
        go_roundw
        case rel => exact ⟨j + 1, _, HLT.out, by go_num, L9.out⟩
        case measure => (have := HLT.out; simp [intOf]; omega)
    · obtain rfl : j = 2 := by have := HJ.out; omega
      clear hlt HN HS
      have B30 := Lib.hid (B1.out.trans (H.out.bel.mono B1.out.size))
      have X30 := Lib.hid (X1.out.below H.out.bel)
      have hk2 : IntKind.i64.wrap ((k : Int) + 2) = ((k + 2 : Nat) : Int) := by rw [show (k : Int) + 2 = ((k + 2 : Nat) : Int) by omega]; exact IntWalk.i64_in _ (by have := HK.out; omega)
      clear H
      go_wp2_with fail
      refine (live_new0 (k : Int)).mono ?_
      rintro e w31 ⟨p1, g1, rfl, F31, h⟩
      have H31 := Lib.hid h
      clear h
      go_wp2_with fail
      refine (live_new0 ((k + 2 : Nat) : Int)).mono ?_
      rintro e w32 ⟨p2, g2, rfl, F32, h⟩
      have HSA := Lib.hid (see_new k (by have := HK.out; omega))
      have HSB := Lib.hid (see_new (k + 2) (by have := HK.out; omega))
      have HD32 := Lib.hid (ld_new H31.out h HSA.out HSB.out)
      clear h H31
      go_wp2_with fail
      refine (new_any (C := Two p1 g1 p2 g2) (G := gNil) (fun _ _ _ _ _ _ => trivial) HD32.out.live.at_).mono ?_
      rintro e w33 ⟨g3, F33, rfl, h1, h2, h3⟩
      obtain ⟨s2, hs2⟩ : ∃ s2, s2 = newM (Two p1 g1 p2 g2) (S0.new (k : Int), S0.new ((k + 2 : Nat) : Int)) := ⟨_, rfl⟩
      have hs3 := hs2
      rw [bare_new HSA.out HSB.out (by rw [List.length_replicate]) (by rw [List.length_replicate])] at hs3
      have HA2 := Lib.hid (show s2.a.length = k ∧ s2.b.length = k from by rw [hs3]; exact ⟨List.length_replicate, List.length_replicate⟩)
      have HE0 := Lib.hid (show See s2.d.1 (List.replicate k zeroS) false 0 from by rw [hs3]; exact HSA.out)
      have HE1 := Lib.hid (show See s2.d.2 (List.replicate (k + 2) zeroS) false 0 from by rw [hs3]; exact HSB.out)
      have HMO := Lib.hid (show (Two p1 g1 p2 g2).most s2.d < 600000 from by rw [hs3]; show max (mostS (S0.new (k : Int))) (mostS (S0.new ((k + 2 : Nat) : Int))) < 600000; unfold mostS; rw [if_pos HSA.out.ds, if_pos HSB.out.ds]; have := HSA.out.few; have := HSB.out.few; omega)
      have h1' : (ML (Two p1 g1 p2 g2) gNil g3).At w33 s2 F33 := by rw [hs2]; exact h1
      have L33 := Lib.hid (show LiveA (ML (Two p1 g1 p2 g2) gNil g3) wr w33 s2 F33 from ⟨h1', fun q hq => (h2 q hq).elim (HD32.out.live.new q) (Nat.le_trans HD32.out.live.bel.size), HD32.out.live.bel.trans (h3.below (fun k hk hq => by have := HD32.out.live.new k hq; omega) HD32.out.live.bel.size)⟩)
      clear h1 h1' h2 h3 hs2 hs3 HD32 HSA HSB
      obtain ⟨hh, hhe⟩ : ∃ hh, hh = Mi.has s2 n := ⟨_, rfl⟩
      have HHV := Lib.hid (show hh = (decide (0 ≤ n) && decide (n < (k : Int))) by rw [hhe, Mi.has, HA2.out.1])
      have HRE := Lib.hid (show readM (Two p1 g1 p2 g2) gNil s2 n = (zeroS, if hh then 9 else 2) from by rw [hhe]; exact bare_read HE0.out HE1.out n)
      have HWE := Lib.hid (show (s2.write n y).1 = if hh then 0 else 2 from by rw [hhe]; exact bare_write HE0.out HA2.out.1 (by rw [List.length_replicate]) n y)
      clear hhe
      obtain ⟨er, her⟩ : ∃ er : Int, er = if hh then 9 else 2 := ⟨_, rfl⟩
      have HER := Lib.hid her
      rw [← her] at HRE
      clear her
      go_wp2_with fail
      have hc := mread_any L33.out.at_ (by rw [HA2.out.1, HA2.out.2]) n
      rw [HRE.out] at hc
      refine hc.mono ?_
      clear hc
      rintro e w34 ⟨rfl, F34, hm⟩
      have L34 := Lib.hid (L33.out.step hm)
      clear hm L33 HRE
      rw [← HZ0.out]
      go_wp2_with (show wpList _ _ _ ({ dst := none, op := .store 38 (.tmp 19) (.tmp 109), type := _, pos := _, after := _, guard := _ } :: _) _ _; apply Classical.byContradiction; intro hneg)
      refine hneg ?_
      clear hneg
      refine wpList_store_row rfl 38 (.tmp 19) (.tmp 109) rfl w34.heap.size (bva z) rfl rfl 38 (bva z) (heap_alloc_new _ _) HIZ.out (by rfl) (bva_one _) ?_
      obtain ⟨w35, hw35⟩ : ∃ w35, w35 = (w34.alloc (.cells (bva z) 38)).setRow w34.heap.size (bva z) := ⟨_, rfl⟩
      have L35 := Lib.hid (L34.out.below (show Below w34.heap.size w34 w35 from by rw [hw35]; exact below_setRow ((Below.refl _ _).alloc (Nat.le_refl _) _) (Nat.le_refl _) _))
      rw [← hw35]
      clear hw35 L34
      by_cases hin : 0 ≤ n ∧ n < (k : Int)
      · have hT : hh = true := by rw [HHV.out, decide_eq_true hin.1, decide_eq_true hin.2]; rfl
        have n1 : ¬ n < 0 := by omega
        have n2 : ¬ n ≥ (k : Int) := by omega
        have n3 : ¬ (k : Int) ≤ n := by omega
        obtain rfl : er = 9 := by rw [HER.out, hT]; rfl
        rw [hT, if_pos rfl] at HWE
        clear hin hT
        go_wp2_with fail
        have hc := mlen_any L35.out.at_
        rw [HA2.out.1] at hc
        refine hc.mono ?_
        clear hc
        rintro e w36 ⟨rfl, bw⟩
        have L36 := Lib.hid (L35.out.below bw)
        clear bw L35
        go_wp2_with (refine wpList_execg8 rfl (exec_load 38 (.tmp 5) rfl rfl (X30.out.below L36.out.bel) Try.underlying38 rfl HIY.out) ?_)
        have hc := mwrite_any L36.out.at_ (k := k) HA2.out n y HY3.out (by have := HMO.out; omega)
        rw [HWE.out] at hc
        refine hc.mono ?_
        clear hc
        rintro e w37 ⟨rfl, F37, hm⟩
        have L37 := Lib.hid (L36.out.step hm)
        clear hm L36
        go_wp2_with fail
        have hc := both_any L37.out.at_ n
        rw [bare_both n] at hc
        refine hc.mono ?_
        clear hc
        rintro e w38 ⟨A8, n8, c8, rfl, hn8, ho8, bw8⟩
        obtain rfl : 0 = n8 := hn8
        have L38 := Lib.hid (L37.out.below bw8)
        clear bw8 ho8 L37
        go_wp2_with fail
        go_ret
        exact ⟨rfl, B30.out.trans (L38.out.bel.mono B30.out.size)⟩
      · have hT : hh = false := by
          rw [HHV.out]
          by_cases h : 0 ≤ n
          · rw [decide_eq_false (fun h2 => hin ⟨h, h2⟩), Bool.and_false]
          · rw [decide_eq_false h, Bool.false_and]
        obtain rfl : er = 2 := by rw [HER.out, hT]; rfl
        rw [hT, if_neg (by simp)] at HWE
        clear hT
        skip
        by_cases hneg : n < 0
        · have n1 : n < 0 := hneg
          clear hin hneg
          go_wp2_with fail
          have hc := mlen_any L35.out.at_
          rw [HA2.out.1] at hc
          refine hc.mono ?_
          clear hc
          rintro e w36 ⟨rfl, bw⟩
          have L36 := Lib.hid (L35.out.below bw)
          clear bw L35
          go_wp2_with (refine wpList_execg8 rfl (exec_load 38 (.tmp 5) rfl rfl (X30.out.below L36.out.bel) Try.underlying38 rfl HIY.out) ?_)
          have hc := mwrite_any L36.out.at_ (k := k) HA2.out n y HY3.out (by have := HMO.out; omega)
          rw [HWE.out] at hc
          refine hc.mono ?_
          clear hc
          rintro e w37 ⟨rfl, F37, hm⟩
          have L37 := Lib.hid (L36.out.step hm)
          clear hm L36
          go_wp2_with fail
          refine (Mi.flush_nil _).mono ?_
          rintro e w38 ⟨rfl, bw⟩
          have L38 := Lib.hid (L37.out.below bw)
          clear bw L37
          go_wp2_with fail
          go_ret
          exact ⟨rfl, B30.out.trans (L38.out.bel.mono B30.out.size)⟩
        · have n1 : ¬ n < 0 := hneg
          have n2 : n ≥ (k : Int) := by omega
          have n3 : (k : Int) ≤ n := n2
          clear hin hneg
          go_wp2_with fail
          have hc := mlen_any L35.out.at_
          rw [HA2.out.1] at hc
          refine hc.mono ?_
          clear hc
          rintro e w36 ⟨rfl, bw⟩
          have L36 := Lib.hid (L35.out.below bw)
          clear bw L35
          go_wp2_with (refine wpList_execg8 rfl (exec_load 38 (.tmp 5) rfl rfl (X30.out.below L36.out.bel) Try.underlying38 rfl HIY.out) ?_)
          have hc := mwrite_any L36.out.at_ (k := k) HA2.out n y HY3.out (by have := HMO.out; omega)
          rw [HWE.out] at hc
          refine hc.mono ?_
          clear hc
          rintro e w37 ⟨rfl, F37, hm⟩
          have L37 := Lib.hid (L36.out.step hm)
          clear hm L36
          go_wp2_with fail
          refine (Mi.flush_nil _).mono ?_
          rintro e w38 ⟨rfl, bw⟩
          have L38 := Lib.hid (L37.out.below bw)
          clear bw L37
          go_wp2_with fail
          go_ret
          exact ⟨rfl, B30.out.trans (L38.out.bel.mono B30.out.size)⟩
theorem mirrorNone_own : ownKnob Try.prog.godebug = none := by kernel_rfl
theorem mirrorNone_laid : laidOutB Try.prog = true := by kernel_rfl

set_option maxRecDepth 100000 in
theorem mirrorNone_lifted (os : Os) (started : os.Started) (H : Type) (enc : TypeId × Value → H) :
    ReturnsInHanded {} Try.checked os 7 .any (Rows.mirrorNoneSpec.pre6 enc Try.prog Try.f7 Rows.mirrorNoneRow.domain false) (Rows.mirrorNoneSpec.post enc Try.prog Try.f7 false true false false) := by
  refine returnsInHanded_of_change (C := Try.checked) mirrorNone_own started (by kernel_rfl) Try.func7
    (ChangeSpec.witness6 (enc := enc) (C := Try.checked) false ⟨#[], #[.int .u8 0, .int .i64 0, .agg #[.int .u8 0, .int .u8 0, .int .u8 0, .int .u8 0, .int .u8 0, .int .u8 0, .int .u8 0, .int .u8 0, .int .u8 0, .int .u8 0, .int .u8 0, .int .u8 0, .int .u8 0, .int .u8 0, .int .u8 0, .int .u8 0, .int .u8 0, .int .u8 0, .int .u8 0, .int .u8 0, .int .u8 0, .int .u8 0, .int .u8 0, .int .u8 0, .int .u8 0, .int .u8 0, .int .u8 0, .int .u8 0, .int .u8 0, .int .u8 0, .int .u8 0, .int .u8 0, .int .u8 0, .int .u8 0, .int .u8 0, .int .u8 0, .int .u8 0, .int .u8 0, .int .u8 0, .int .u8 0, .int .u8 0, .int .u8 0, .int .u8 0, .int .u8 0, .int .u8 0, .int .u8 0, .int .u8 0, .int .u8 0, .int .u8 0, .int .u8 0, .int .u8 0, .int .u8 0, .int .u8 0, .int .u8 0, .int .u8 0, .int .u8 0, .int .u8 0, .int .u8 0, .int .u8 0, .int .u8 0, .int .u8 0, .int .u8 0, .int .u8 0, .int .u8 0, .int .u8 0, .int .u8 0, .int .u8 0, .int .u8 0, .int .u8 0, .int .u8 0, .int .u8 0, .int .u8 0, .int .u8 0, .int .u8 0, .int .u8 0, .int .u8 0, .int .u8 0, .int .u8 0, .int .u8 0, .int .u8 0, .int .u8 0, .int .u8 0, .int .u8 0, .int .u8 0, .int .u8 0, .int .u8 0, .int .u8 0, .int .u8 0, .int .u8 0, .int .u8 0, .int .u8 0, .int .u8 0, .int .u8 0, .int .u8 0, .int .u8 0, .int .u8 0, .int .u8 0, .int .u8 0, .int .u8 0, .int .u8 0, .int .u8 0, .int .u8 0, .int .u8 0, .int .u8 0, .int .u8 0, .int .u8 0, .int .u8 0, .int .u8 0, .int .u8 0, .int .u8 0, .int .u8 0, .int .u8 0, .int .u8 0, .int .u8 0, .int .u8 0, .int .u8 0, .int .u8 0, .int .u8 0, .int .u8 0, .int .u8 0, .int .u8 0, .int .u8 0, .int .u8 0, .int .u8 0, .int .u8 0, .int .u8 0, .int .u8 0, .int .u8 0]], []⟩ 8 (by kernel_rfl) (by kernel_rfl) (by kernel_rfl) (by kernel_rfl)) ?_
  intro W base args ds gs before hval0 hW _ _
  have hval : ∀ (j : Nat) t v, Try.f7.params[j]? = some t → args[j]? = some v → Value.okWide Try.prog W .any base t v := hval0
  have hW' := hW
  obtain ⟨p, q, hA0, hV, rfl, hfz, hnd⟩ := hW
  have hA : DataW.TrodAll enc Try.prog W 0 (fun _ => true) true Try.f7.params.toList args.toList ds p := hA0
  rw [Try.params7] at hA hval
  obtain ⟨v0, vs0, d0, ds0, p0, q0, hargs, rfl, rfl, h0, r0⟩ := trodAll_cons hA
  obtain ⟨v1, vs1, d1, ds1, p1, q1, rfl, rfl, rfl, h1, r1⟩ := trodAll_cons r0
  obtain ⟨v2, vs2, d2, ds2, p2, q2, rfl, rfl, rfl, h2, r2⟩ := trodAll_cons r1
  obtain ⟨rfl, rfl, rfl⟩ := trodAll_nil r2
  obtain rfl : args = #[v0, v1, v2] := by cases args; simp_all
  obtain ⟨rfl, rfl⟩ := trodVars_none hV
  obtain ⟨a0, rfl, rfl, rfl, w0⟩ := open_int Try.underlying5 (hval 0 5 v0 rfl rfl) h0
  have b0 := bounds_u8 w0
  obtain ⟨a1, rfl, rfl, rfl, w1⟩ := open_int Try.underlying3 (hval 1 3 v1 rfl rfl) h1
  have b1 := bounds_i64 w1
  have lt2 : ∀ x ∈ p2, x.block < W.heap.size := by obtain ⟨m, hm⟩ := h2; exact DataW.trod_lt m _ _ _ hm
  obtain ⟨l2, hl2, rfl⟩ := open_u8s Try.underlying38 Try.underlying5 (by kernel_rfl) (by kernel_rfl) (hval 2 38 v2 rfl rfl) h2
  clear hA0 hval0
  refine (mirrorNone_any W a0 b0 a1 b1 l2 hl2).mono fun e W' ⟨he, bel⟩ => ?_
  subst he
  exact ⟨_, rfl, _, _, _, [], _, [], hW', trodAll_mk1 (shut_bool Try.underlying4 _), (trodAll_cons_mk (shut_int Try.underlying5 w0) (trodAll_cons_mk (shut_int Try.underlying3 w1) (trodAll_cons_mk (Below.trod mirrorNone_laid (by kernel_rfl) (of_decide_eq_true (by kernel_rfl)) h2 bel lt2) trodAll_mk0))), rfl, bel.frame _, fun h => by cases h⟩

theorem mirrorNone_holds : Rows.MirrorNoneSaid :=
  OpenClaim.holds_of_wide 7 Try.f7 rfl rfl rfl rfl rfl rfl rfl ⟨rfl, rfl, rfl, rfl, rfl⟩ rfl rfl rfl rfl rfl (by kernel_rfl) Try.func7 (by kernel_rfl)
    (of_decide_eq_true (by kernel_rfl)) (by unfold Func.isWrapper; rw [if_neg (of_decide_eq_false (by kernel_rfl))]; exact ⟨rfl, rfl⟩)
    (fun os started H enc _ => mirrorNone_lifted os started H enc)

#print axioms mirrorNone_holds

end Go.Proofs.Ytfofkjcdohmkpaa
