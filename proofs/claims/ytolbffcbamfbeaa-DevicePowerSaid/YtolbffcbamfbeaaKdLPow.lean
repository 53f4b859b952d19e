/-
  The law DevicePower holds: power fails at just the operation that was told, on all of its devices at once; what is refused, and what is read, doesn't count; behind Restart all is done again. For every number and every truth.
-/
import Derived.Test.YtolbffcbamfbeaaKdFine
import Derived.Test.YtolbffcbamfbeaaRows
import Derived.Test.YtolbffcbamfbeaaOpen
import Derived.Test.YtolbffcbamfbeaaOpenA
import Derived.ProofKit
import Derived.OpenShut
import Derived.ShutString
import Derived.ChangeOld
namespace Go.Proofs.Ytolbffcbamfbeaa
open Go.RowKit Go.Maps Kd Go.ChangeShapes Go.WideShapes Go.ChangeAt
attribute [local go_sem ↓] Go.wp_at_zero Go.wp_at_succ
set_option maxRecDepth 100000 in
set_option maxHeartbeats 12800000 in
theorem devicePower_any (w : World) (a : Int) (ha : 0 ≤ a ∧ a ≤ 255) (r : Bool) : Calls Try.prog 8 #[.int .u8 a, .bool r] w (RetB (.bool true) w) := by
  obtain ⟨n, hn⟩ : ∃ n : Nat, n = (a % 40).toNat := ⟨_, rfl⟩
  have hn40 : n < 40 := by omega
  have hw8 : wrap64 a = a := by unfold wrap64; omega
  have hrem : (wrap64 a).tmod 40 = (n : Int) := by rw [hw8, Int.tmod_eq_emod_of_nonneg ha.1]; omega
  have HA := Lib.hid ha
  have HN := Lib.hid hn40
  have HR := Lib.hid hrem
  clear ha hn hn40 hw8 hrem
  obtain ⟨z, hz0⟩ : ∃ z : List UInt8, z = zeroS := ⟨_, rfl⟩
  have hz : ∀ W, (zeroValue 38).run Try.prog W = .ok (.agg (bva z)) W := fun _ => by rw [hz0]; kernel_rfl
  have HI : Hid ((Try.prog.info? 38).map (·.size) = some (bva z).size) := by rw [bva_size, hz0, zeroS_length]; exact info_sec
  have HZ := Lib.hid hz0
  clear hz0
  go_enter Try.func8, Try.ntmps8
  go_wp2_with fail
  refine (kdAwake_any _).mono ?_
  rintro e w1 ⟨rfl, bw1⟩
  have B1 := Lib.hid bw1
  clear bw1
  go_wp2_with fail
  rw [HR.out]
  refine live_power.mono ?_
  rintro e w2 ⟨p, rfl, F2, h⟩
  have H2 := Lib.hid h
  clear h
  go_wp2_with fail
  refine (live_new H2.out (by decide) 3).mono ?_
  rintro e w3 ⟨g1, rfl, F3, h, hf3, hb3⟩
  have H3 := Lib.hid (show Live w1 w3 p [g1] (S0.new 3) F3 from h)
  clear h hf3 hb3 H2 
  go_wp2_with fail
  refine (live_new H3.out (by decide) 3).mono ?_
  rintro e w4 ⟨g2, rfl, F4, h, hf4, hb4⟩
  have H4 := Lib.hid (show Live w1 w4 p [g1, g2] ((S0.new 3).new 3) F4 from h)
  clear h hf4 hb4 H3 
  go_wp2_with fail
  refine (live_fail H4.out (n : Int) (by have := HN.out; omega)).mono ?_
  rintro e w5 ⟨rfl, F5, h, hf5, hb5⟩
  have H5 := Lib.hid (show Live w1 w5 p [g1, g2] (((S0.new 3).new 3).fail (n : Int)) F5 from h)
  clear h hf5 hb5 H4 
  go_wp2_with fail
  have HF0 := Lib.hid (show Fine 2 3 0 (((S0.new 3).new 3).fail (n : Int)) from (((fine_zero (L := 3)).new 3 rfl).new 3 rfl).fail _)
  go_loopw [9] (fun i wr => ∃ (k : Nat) (F : Nat → Prop) (S : Sy), k ≤ n ∧ i = .int .i64 k ∧ Live w1 wr p [g1, g2] S F ∧ Fine 2 3 k S ∧ S.p.off = false ∧ S.p.left = ((n - k : Nat) : Int)) (fun i _ => n - (intOf i).toNat)
  case atStart => exact ⟨0, F5, _, Nat.zero_le _, rfl, H5.out, HF0.out, rfl, failN_nat n⟩
  case round =>
    clear H5 HF0
    obtain ⟨k, FF, S, hk, rfl, hlive, hfine, hoff, hleft⟩ := hrel
    have H := Lib.hid hlive
    have HF := Lib.hid hfine
    have HO := Lib.hid hoff
    have HL := Lib.hid hleft
    have HK := Lib.hid hk
    clear hlive hfine hoff hleft hk
    by_cases hlt : k < n
    · have hst := step_more (P := S.p) (n := n - k - 1) (by rw [HL.out]; omega)
      have HS := Lib.hid hst
      have h30 : 0 ≤ (k : Int) % 3 ∧ (k : Int) % 3 < 3 := by omega
      have k0 : (0 : Int) ≤ (k : Int) := by omega
      have k1 : (k : Int) < 40 := by have := HN.out; omega
      have H3 := Lib.hid h30
      have HLT := Lib.hid hlt
      clear hst h30
      by_cases hpar : (k : Int) % 2 = 1
      ·
        by_cases h32 : (k : Int) % 3 = 2
        ·
          cases r
          ·
            have d1 : ((k : Int) % 2 == 1) = true := beq_iff_eq.2 hpar
            have d2 : ((k : Int) % 3 == 2) = true := beq_iff_eq.2 h32
            clear hpar h32
            go_wp2_with fail
            have hw := flush_fine HF.out (k := 1) (by omega) HO.out HS.out.1
            refine (live_flush H.out 1 (by rw [HF.out.len]; omega)).mono ?_
            rintro e w21 ⟨rfl, F21, h, hf21, hb21⟩
            rw [hw.1]
            have H21 := Lib.hid (show Live w1 w21 p [g1, g2] (S.flush 1).2 F21 from h)
            clear h hf21 hb21 H 
            have HW := Lib.hid hw
            clear hw
            go_wp2_with fail
            go_roundw
            case rel => exact ⟨k + 1, F21, _, by have := HLT.out; omega, by go_num, H21.out, HW.out.2.1.more (by omega), by rw [HW.out.2.2]; exact HS.out.2.1, by rw [HW.out.2.2, HS.out.2.2]; exact congrArg Int.ofNat (by omega)⟩
            case measure => (have := HLT.out; simp [intOf]; omega)
          ·
            have d1 : ((k : Int) % 2 == 1) = true := beq_iff_eq.2 hpar
            have d2 : ((k : Int) % 3 == 2) = true := beq_iff_eq.2 h32
            clear hpar h32
            go_wp2_with fail
            refine (dread_any H.out.sys 1 (by rw [HF.out.len]; omega) 0).mono ?_
            rintro e w21 ⟨rfl, bw⟩
            have H21 := Lib.hid (H.out.below bw)
            clear bw H 
            go_wp2_with fail
            refine (sector_any 1 _).mono ?_
            rintro e w22 ⟨rfl, bw⟩
            have H22 := Lib.hid (H21.out.below bw)
            clear bw H21 
            go_wp2_with fail
            have hc := live_write H22.out 1 (by rw [HF.out.len]; omega) 9 (secC 1) (secC_length _) (by have := (HF.out.each 1 (by omega)).2.2.2; have := HK.out; have := HN.out; omega)
            rw [write_out8 HF.out (by omega) HO.out (by omega)] at hc
            refine hc.mono ?_
            clear hc
            rintro e w23 ⟨rfl, F23, h, hf23, hb23⟩
            have H23 := Lib.hid (show Live w1 w23 p [g1, g2] S F23 from h)
            clear h hf23 hb23 H22 
            go_wp2_with fail
            refine (sector_any 1 _).mono ?_
            rintro e w24 ⟨rfl, bw⟩
            have H24 := Lib.hid (H23.out.below bw)
            clear bw H23 
            go_wp2_with fail
            have hc := live_write H24.out 1 (by rw [HF.out.len]; omega) (-1) (secC 1) (secC_length _) (by have := (HF.out.each 1 (by omega)).2.2.2; have := HK.out; have := HN.out; omega)
            rw [write_out8 HF.out (by omega) HO.out (by omega)] at hc
            refine hc.mono ?_
            clear hc
            rintro e w25 ⟨rfl, F25, h, hf25, hb25⟩
            have H25 := Lib.hid (show Live w1 w25 p [g1, g2] S F25 from h)
            clear h hf25 hb25 H24 
            go_wp2_with fail
            have hw := flush_fine HF.out (k := 1) (by omega) HO.out HS.out.1
            refine (live_flush H25.out 1 (by rw [HF.out.len]; omega)).mono ?_
            rintro e w26 ⟨rfl, F26, h, hf26, hb26⟩
            rw [hw.1]
            have H26 := Lib.hid (show Live w1 w26 p [g1, g2] (S.flush 1).2 F26 from h)
            clear h hf26 hb26 H25 
            have HW := Lib.hid hw
            clear hw
            go_wp2_with fail
            go_roundw
            case rel => exact ⟨k + 1, F26, _, by have := HLT.out; omega, by go_num, H26.out, HW.out.2.1.more (by omega), by rw [HW.out.2.2]; exact HS.out.2.1, by rw [HW.out.2.2, HS.out.2.2]; exact congrArg Int.ofNat (by omega)⟩
            case measure => (have := HLT.out; simp [intOf]; omega)
        ·
          cases r
          ·
            have d1 : ((k : Int) % 2 == 1) = true := beq_iff_eq.2 hpar
            have d2 : ((k : Int) % 3 == 2) = false := beq_eq_false_iff_ne.2 h32
            clear hpar h32
            go_wp2_with fail
            refine (sector_any 1 _).mono ?_
            rintro e w21 ⟨rfl, bw⟩
            have H21 := Lib.hid (H.out.below bw)
            clear bw H 
            go_wp2_with fail
            have hw := write_fine (s := secC 1) HF.out (k := 1) (by omega) HO.out H3.out HS.out.1
            refine (live_write H21.out 1 (by rw [HF.out.len]; omega) ((k : Int) % 3) (secC 1) (secC_length _) (by have := (HF.out.each 1 (by omega)).2.2.2; have := HK.out; have := HN.out; omega)).mono ?_
            rintro e w22 ⟨rfl, F22, h, hf22, hb22⟩
            rw [hw.1]
            have H22 := Lib.hid (show Live w1 w22 p [g1, g2] (S.write 1 ((k : Int) % 3) (secC 1)).2 F22 from h)
            clear h hf22 hb22 H21 
            have HW := Lib.hid hw
            clear hw
            go_wp2_with fail
            go_roundw
            case rel => exact ⟨k + 1, F22, _, by have := HLT.out; omega, by go_num, H22.out, HW.out.2.1, by rw [HW.out.2.2]; exact HS.out.2.1, by rw [HW.out.2.2, HS.out.2.2]; exact congrArg Int.ofNat (by omega)⟩
            case measure => (have := HLT.out; simp [intOf]; omega)
          ·
            have d1 : ((k : Int) % 2 == 1) = true := beq_iff_eq.2 hpar
            have d2 : ((k : Int) % 3 == 2) = false := beq_eq_false_iff_ne.2 h32
            clear hpar h32
            go_wp2_with fail
            refine (dread_any H.out.sys 1 (by rw [HF.out.len]; omega) 0).mono ?_
            rintro e w21 ⟨rfl, bw⟩
            have H21 := Lib.hid (H.out.below bw)
            clear bw H 
            go_wp2_with fail
            refine (sector_any 1 _).mono ?_
            rintro e w22 ⟨rfl, bw⟩
            have H22 := Lib.hid (H21.out.below bw)
            clear bw H21 
            go_wp2_with fail
            have hc := live_write H22.out 1 (by rw [HF.out.len]; omega) 9 (secC 1) (secC_length _) (by have := (HF.out.each 1 (by omega)).2.2.2; have := HK.out; have := HN.out; omega)
            rw [write_out8 HF.out (by omega) HO.out (by omega)] at hc
            refine hc.mono ?_
            clear hc
            rintro e w23 ⟨rfl, F23, h, hf23, hb23⟩
            have H23 := Lib.hid (show Live w1 w23 p [g1, g2] S F23 from h)
            clear h hf23 hb23 H22 
            go_wp2_with fail
            refine (sector_any 1 _).mono ?_
            rintro e w24 ⟨rfl, bw⟩
            have H24 := Lib.hid (H23.out.below bw)
            clear bw H23 
            go_wp2_with fail
            have hc := live_write H24.out 1 (by rw [HF.out.len]; omega) (-1) (secC 1) (secC_length _) (by have := (HF.out.each 1 (by omega)).2.2.2; have := HK.out; have := HN.out; omega)
            rw [write_out8 HF.out (by omega) HO.out (by omega)] at hc
            refine hc.mono ?_
            clear hc
            rintro e w25 ⟨rfl, F25, h, hf25, hb25⟩
            have H25 := Lib.hid (show Live w1 w25 p [g1, g2] S F25 from h)
            clear h hf25 hb25 H24 
            go_wp2_with fail
            refine (sector_any 1 _).mono ?_
            rintro e w26 ⟨rfl, bw⟩
            have H26 := Lib.hid (H25.out.below bw)
            clear bw H25 
            go_wp2_with fail
            have hw := write_fine (s := secC 1) HF.out (k := 1) (by omega) HO.out H3.out HS.out.1
            refine (live_write H26.out 1 (by rw [HF.out.len]; omega) ((k : Int) % 3) (secC 1) (secC_length _) (by have := (HF.out.each 1 (by omega)).2.2.2; have := HK.out; have := HN.out; omega)).mono ?_
            rintro e w27 ⟨rfl, F27, h, hf27, hb27⟩
            rw [hw.1]
            have H27 := Lib.hid (show Live w1 w27 p [g1, g2] (S.write 1 ((k : Int) % 3) (secC 1)).2 F27 from h)
            clear h hf27 hb27 H26 
            have HW := Lib.hid hw
            clear hw
            go_wp2_with fail
            go_roundw
            case rel => exact ⟨k + 1, F27, _, by have := HLT.out; omega, by go_num, H27.out, HW.out.2.1, by rw [HW.out.2.2]; exact HS.out.2.1, by rw [HW.out.2.2, HS.out.2.2]; exact congrArg Int.ofNat (by omega)⟩
            case measure => (have := HLT.out; simp [intOf]; omega)
      ·
        by_cases h32 : (k : Int) % 3 = 2
        ·
          cases r
          ·
            have d1 : ((k : Int) % 2 == 1) = false := beq_eq_false_iff_ne.2 hpar
            have d2 : ((k : Int) % 3 == 2) = true := beq_iff_eq.2 h32
            clear hpar h32
            go_wp2_with fail
            have hw := flush_fine HF.out (k := 0) (by omega) HO.out HS.out.1
            refine (live_flush H.out 0 (by rw [HF.out.len]; omega)).mono ?_
            rintro e w21 ⟨rfl, F21, h, hf21, hb21⟩
            rw [hw.1]
            have H21 := Lib.hid (show Live w1 w21 p [g1, g2] (S.flush 0).2 F21 from h)
            clear h hf21 hb21 H 
            have HW := Lib.hid hw
            clear hw
            go_wp2_with fail
            go_roundw
            case rel => exact ⟨k + 1, F21, _, by have := HLT.out; omega, by go_num, H21.out, HW.out.2.1.more (by omega), by rw [HW.out.2.2]; exact HS.out.2.1, by rw [HW.out.2.2, HS.out.2.2]; exact congrArg Int.ofNat (by omega)⟩
            case measure => (have := HLT.out; simp [intOf]; omega)
          ·
            have d1 : ((k : Int) % 2 == 1) = false := beq_eq_false_iff_ne.2 hpar
            have d2 : ((k : Int) % 3 == 2) = true := beq_iff_eq.2 h32
            clear hpar h32
            go_wp2_with fail
            refine (dread_any H.out.sys 0 (by rw [HF.out.len]; omega) 0).mono ?_
            rintro e w21 ⟨rfl, bw⟩
            have H21 := Lib.hid (H.out.below bw)
            clear bw H 
            go_wp2_with fail
            refine (sector_any 1 _).mono ?_
            rintro e w22 ⟨rfl, bw⟩
            have H22 := Lib.hid (H21.out.below bw)
            clear bw H21 
            go_wp2_with fail
            have hc := live_write H22.out 0 (by rw [HF.out.len]; omega) 9 (secC 1) (secC_length _) (by have := (HF.out.each 0 (by omega)).2.2.2; have := HK.out; have := HN.out; omega)
            rw [write_out8 HF.out (by omega) HO.out (by omega)] at hc
            refine hc.mono ?_
            clear hc
            rintro e w23 ⟨rfl, F23, h, hf23, hb23⟩
            have H23 := Lib.hid (show Live w1 w23 p [g1, g2] S F23 from h)
            clear h hf23 hb23 H22 
            go_wp2_with fail
            refine (sector_any 1 _).mono ?_
            rintro e w24 ⟨rfl, bw⟩
            have H24 := Lib.hid (H23.out.below bw)
            clear bw H23 
            go_wp2_with fail
            have hc := live_write H24.out 0 (by rw [HF.out.len]; omega) (-1) (secC 1) (secC_length _) (by have := (HF.out.each 0 (by omega)).2.2.2; have := HK.out; have := HN.out; omega)
            rw [write_out8 HF.out (by omega) HO.out (by omega)] at hc
            refine hc.mono ?_
            clear hc
            rintro e w25 ⟨rfl, F25, h, hf25, hb25⟩
            have H25 := Lib.hid (show Live w1 w25 p [g1, g2] S F25 from h)
            clear h hf25 hb25 H24 
            go_wp2_with fail
            have hw := flush_fine HF.out (k := 0) (by omega) HO.out HS.out.1
            refine (live_flush H25.out 0 (by rw [HF.out.len]; omega)).mono ?_
            rintro e w26 ⟨rfl, F26, h, hf26, hb26⟩
            rw [hw.1]
            have H26 := Lib.hid (show Live w1 w26 p [g1, g2] (S.flush 0).2 F26 from h)
            clear h hf26 hb26 H25 
            have HW := Lib.hid hw
            clear hw
            go_wp2_with fail
            go_roundw
            case rel => exact ⟨k + 1, F26, _, by have := HLT.out; omega, by go_num, H26.out, HW.out.2.1.more (by omega), by rw [HW.out.2.2]; exact HS.out.2.1, by rw [HW.out.2.2, HS.out.2.2]; exact congrArg Int.ofNat (by omega)⟩
            case measure => (have := HLT.out; simp [intOf]; omega)
        ·
          cases r
          ·
            have d1 : ((k : Int) % 2 == 1) = false := beq_eq_false_iff_ne.2 hpar
            have d2 : ((k : Int) % 3 == 2) = false := beq_eq_false_iff_ne.2 h32
            clear hpar h32
            go_wp2_with fail
            refine (sector_any 1 _).mono ?_
            rintro e w21 ⟨rfl, bw⟩
            have H21 := Lib.hid (H.out.below bw)
            clear bw H 
            go_wp2_with fail
            have hw := write_fine (s := secC 1) HF.out (k := 0) (by omega) HO.out H3.out HS.out.1
            refine (live_write H21.out 0 (by rw [HF.out.len]; omega) ((k : Int) % 3) (secC 1) (secC_length _) (by have := (HF.out.each 0 (by omega)).2.2.2; have := HK.out; have := HN.out; omega)).mono ?_
            rintro e w22 ⟨rfl, F22, h, hf22, hb22⟩
            rw [hw.1]
            have H22 := Lib.hid (show Live w1 w22 p [g1, g2] (S.write 0 ((k : Int) % 3) (secC 1)).2 F22 from h)
            clear h hf22 hb22 H21 
            have HW := Lib.hid hw
            clear hw
            go_wp2_with fail
            go_roundw
            case rel => exact ⟨k + 1, F22, _, by have := HLT.out; omega, by go_num, H22.out, HW.out.2.1, by rw [HW.out.2.2]; exact HS.out.2.1, by rw [HW.out.2.2, HS.out.2.2]; exact congrArg Int.ofNat (by omega)⟩
            case measure => (have := HLT.out; simp [intOf]; omega)
          ·
            have d1 : ((k : Int) % 2 == 1) = false := beq_eq_false_iff_ne.2 hpar
            have d2 : ((k : Int) % 3 == 2) = false := beq_eq_false_iff_ne.2 h32
            clear hpar h32
            go_wp2_with fail
            refine (dread_any H.out.sys 0 (by rw [HF.out.len]; omega) 0).mono ?_
            rintro e w21 ⟨rfl, bw⟩
            have H21 := Lib.hid (H.out.below bw)
            clear bw H 
            go_wp2_with fail
            refine (sector_any 1 _).mono ?_
            rintro e w22 ⟨rfl, bw⟩
            have H22 := Lib.hid (H21.out.below bw)
            clear bw H21 
            go_wp2_with fail
            have hc := live_write H22.out 0 (by rw [HF.out.len]; omega) 9 (secC 1) (secC_length _) (by have := (HF.out.each 0 (by omega)).2.2.2; have := HK.out; have := HN.out; omega)
            rw [write_out8 HF.out (by omega) HO.out (by omega)] at hc
            refine hc.mono ?_
            clear hc
            rintro e w23 ⟨rfl, F23, h, hf23, hb23⟩
            have H23 := Lib.hid (show Live w1 w23 p [g1, g2] S F23 from h)
            clear h hf23 hb23 H22 
            go_wp2_with fail
            refine (sector_any 1 _).mono ?_
            rintro e w24 ⟨rfl, bw⟩
            have H24 := Lib.hid (H23.out.below bw)
            clear bw H23 
            go_wp2_with fail
            have hc := live_write H24.out 0 (by rw [HF.out.len]; omega) (-1) (secC 1) (secC_length _) (by have := (HF.out.each 0 (by omega)).2.2.2; have := HK.out; have := HN.out; omega)
            rw [write_out8 HF.out (by omega) HO.out (by omega)] at hc
            refine hc.mono ?_
            clear hc
            rintro e w25 ⟨rfl, F25, h, hf25, hb25⟩
            have H25 := Lib.hid (show Live w1 w25 p [g1, g2] S F25 from h)
            clear h hf25 hb25 H24 
            go_wp2_with fail
            refine (sector_any 1 _).mono ?_
            rintro e w26 ⟨rfl, bw⟩
            have H26 := Lib.hid (H25.out.below bw)
            clear bw H25 
            go_wp2_with fail
            have hw := write_fine (s := secC 1) HF.out (k := 0) (by omega) HO.out H3.out HS.out.1
            refine (live_write H26.out 0 (by rw [HF.out.len]; omega) ((k : Int) % 3) (secC 1) (secC_length _) (by have := (HF.out.each 0 (by omega)).2.2.2; have := HK.out; have := HN.out; omega)).mono ?_
            rintro e w27 ⟨rfl, F27, h, hf27, hb27⟩
            rw [hw.1]
            have H27 := Lib.hid (show Live w1 w27 p [g1, g2] (S.write 0 ((k : Int) % 3) (secC 1)).2 F27 from h)
            clear h hf27 hb27 H26 
            have HW := Lib.hid hw
            clear hw
            go_wp2_with fail
            go_roundw
            case rel => exact ⟨k + 1, F27, _, by have := HLT.out; omega, by go_num, H27.out, HW.out.2.1, by rw [HW.out.2.2]; exact HS.out.2.1, by rw [HW.out.2.2, HS.out.2.2]; exact congrArg Int.ofNat (by omega)⟩
            case measure => (have := HLT.out; simp [intOf]; omega)
    · obtain rfl : k = n := by have := HK.out; omega
      have hst := step_none (P := S.p) (by rw [HL.out, Nat.sub_self]; rfl)
      have hdn : S.count.p.off = true := by rw [count_p]; exact hst.2
      have hfc := HF.out.count
      have HS := Lib.hid hst
      have HD := Lib.hid hdn
      have HC := Lib.hid hfc
      have hw1 := write_fine (s := secC 3) (i := 0) hfc.restart (k := 0) (by omega) rfl (by omega) (step_never rfl).1
      have hp1 : (S.count.restart.write 0 0 (secC 3)).2.p = S.count.restart.p := by rw [hw1.2.2]; exact (step_never rfl).2
      have hw2 := flush_fine hw1.2.1 (k := 0) (by omega) (by rw [hp1]; rfl) (by rw [hp1]; exact (step_never rfl).1)
      have hp2 : ((S.count.restart.write 0 0 (secC 3)).2.flush 0).2.p = S.count.restart.p := by rw [hw2.2.2, hp1]; exact (step_never rfl).2
      have hw3 := flush_fine hw2.2.1 (k := 1) (by omega) (by rw [hp2]; rfl) (by rw [hp2]; exact (step_never rfl).1)
      have HW1 := Lib.hid hw1
      have HW2 := Lib.hid hw2
      have HW3 := Lib.hid hw3
      clear hst hdn hfc hw1 hp1 hw2 hp2 hw3
      go_wp2_with fail
      refine (on_sys H.out.sys).mono ?_
      rintro e _ ⟨rfl, rfl⟩
      rw [HO.out]
      go_wp2_with fail
      have hc := live_flush H.out 0 (by rw [HF.out.len]; omega)
      rw [flush_fails8 HF.out (by omega) HO.out HS.out.1] at hc
      refine hc.mono ?_
      clear hc
      rintro e w61 ⟨rfl, F61, h, hf61, hb61⟩
      have H61 := Lib.hid (show Live w1 w61 p [g1, g2] S.count F61 from h)
      clear h hf61 hb61 H 
      go_wp2_with fail
      refine (on_sys H61.out.sys).mono ?_
      rintro e _ ⟨rfl, rfl⟩
      rw [HD.out]
      go_wp2_with fail
      have hc := live_flush H61.out 1 (by rw [HC.out.len]; omega)
      rw [flush_down8 HD.out] at hc
      refine hc.mono ?_
      clear hc
      rintro e w62 ⟨rfl, F62, h, hf62, hb62⟩
      have H62 := Lib.hid (show Live w1 w62 p [g1, g2] S.count F62 from h)
      clear h hf62 hb62 H61 
      go_wp2_with fail
      refine (sector_any 2 _).mono ?_
      rintro e w63 ⟨rfl, bw⟩
      have H63 := Lib.hid (H62.out.below bw)
      clear bw H62 
      go_wp2_with fail
      have hc := live_write H63.out 1 (by rw [HC.out.len]; omega) 0 (secC 2) (secC_length _) (by have := (HC.out.each 1 (by omega)).2.2.2; have := HN.out; omega)
      rw [write_down8 HD.out] at hc
      refine hc.mono ?_
      clear hc
      rintro e w64 ⟨rfl, F64, h, hf64, hb64⟩
      have H64 := Lib.hid (show Live w1 w64 p [g1, g2] S.count F64 from h)
      clear h hf64 hb64 H63 
      go_wp2_with fail
      refine (dread_any H64.out.sys 1 (by rw [HC.out.len]; omega) 0).mono ?_
      rintro e w65 ⟨rfl, bw⟩
      rw [readV_no (x := 13) (by unfold refuseN; rw [HD.out]; rfl) (by decide), ← HZ.out]
      have H65 := Lib.hid (H64.out.below bw)
      clear bw H64 
      have HB := Lib.hid (show Blk (w65.alloc (.cells (bva z) 38)) w65.heap.size (bva z) 38 from heap_alloc_new _ _)
      go_wp2_with (refine wpList_store_row rfl 38 (.tmp 11) (.tmp 87) rfl w65.heap.size (bva z) rfl rfl 38 (bva z) HB.out HI.out (by rw [bva_size]) (bva_one _) ?_)
      have HX := Lib.hid (H65.out.below (w' := (w65.alloc (.cells (bva z) 38)).setRow w65.heap.size (bva z)) (below_setRow ((Below.refl _ _).alloc (Nat.le_refl _) _) (Nat.le_refl _) _))
      refine (live_restart HX.out).mono ?_
      rintro e w66 ⟨rfl, F66, h, hf66, hb66⟩
      have H66 := Lib.hid (show Live w1 w66 p [g1, g2] S.count.restart F66 from h)
      clear h hf66 hb66 HX 
      go_wp2_with fail
      refine (on_sys H66.out.sys).mono ?_
      rintro e _ ⟨rfl, rfl⟩
      rw [show S.count.restart.p.off = false from rfl]
      go_wp2_with fail
      refine (sector_any 3 _).mono ?_
      rintro e w67 ⟨rfl, bw⟩
      have H67 := Lib.hid (H66.out.below bw)
      clear bw H66 
      go_wp2_with fail
      refine (live_write H67.out 0 (by rw [HC.out.restart.len]; omega) 0 (secC 3) (secC_length _) (by have := (HC.out.restart.each 0 (by omega)).2.2.2; have := HN.out; omega)).mono ?_
      rintro e w68 ⟨rfl, F68, h, hf68, hb68⟩
      rw [HW1.out.1]
      have H68 := Lib.hid (show Live w1 w68 p [g1, g2] (S.count.restart.write 0 0 (secC 3)).2 F68 from h)
      clear h hf68 hb68 H67 
      go_wp2_with fail
      refine (live_flush H68.out 0 (by rw [HW1.out.2.1.len]; omega)).mono ?_
      rintro e w69 ⟨rfl, F69, h, hf69, hb69⟩
      rw [HW2.out.1]
      have H69 := Lib.hid (show Live w1 w69 p [g1, g2] ((S.count.restart.write 0 0 (secC 3)).2.flush 0).2 F69 from h)
      clear h hf69 hb69 H68 
      go_wp2_with fail
      refine (live_flush H69.out 1 (by rw [HW2.out.2.1.len]; omega)).mono ?_
      rintro e w70 ⟨rfl, F70, h, hf70, hb70⟩
      rw [HW3.out.1]
      have H70 := Lib.hid (show Live w1 w70 p [g1, g2] (((S.count.restart.write 0 0 (secC 3)).2.flush 0).2.flush 1).2 F70 from h)
      clear h hf70 hb70 H69 
      go_wp2_with fail
      go_ret
      exact ⟨rfl, B1.out.trans (H70.out.bel.mono B1.out.size)⟩
theorem devicePower_own : ownKnob Try.prog.godebug = none := by kernel_rfl
theorem devicePower_laid : laidOutB Try.prog = true := by kernel_rfl

set_option maxRecDepth 100000 in
theorem devicePower_lifted (os : Os) (started : os.Started) (H : Type) (enc : TypeId × Value → H) :
    ReturnsInHanded {} Try.checked os 8 .any (Rows.devicePowerSpec.pre6 enc Try.prog Try.f8 Rows.devicePowerRow.domain false) (Rows.devicePowerSpec.post enc Try.prog Try.f8 false true false false) := by
  refine returnsInHanded_of_change (C := Try.checked) devicePower_own started (by kernel_rfl) Try.func8
    (ChangeSpec.witness6 (enc := enc) (C := Try.checked) false ⟨#[], #[.int .u8 0, .bool false], []⟩ 8 (by kernel_rfl) (by kernel_rfl) (by kernel_rfl) (by kernel_rfl)) ?_
  intro W base args ds gs before hval0 hW _ _
  have hval : ∀ (j : Nat) t v, Try.f8.params[j]? = some t → args[j]? = some v → Value.okWide Try.prog W .any base t v := hval0
  have hW' := hW
  obtain ⟨p, q, hA0, hV, rfl, hfz, hnd⟩ := hW
  have hA : DataW.TrodAll enc Try.prog W 0 (fun _ => true) true Try.f8.params.toList args.toList ds p := hA0
  rw [Try.params8] at hA hval
  obtain ⟨v0, vs0, d0, ds0, p0, q0, hargs, rfl, rfl, h0, r0⟩ := trodAll_cons hA
  obtain ⟨v1, vs1, d1, ds1, p1, q1, rfl, rfl, rfl, h1, r1⟩ := trodAll_cons r0
  obtain ⟨rfl, rfl, rfl⟩ := trodAll_nil r1
  obtain rfl : args = #[v0, v1] := by cases args; simp_all
  obtain ⟨rfl, rfl⟩ := trodVars_none hV
  obtain ⟨a0, rfl, rfl, rfl, w0⟩ := open_int Try.underlying5 (hval 0 5 v0 rfl rfl) h0
  have b0 := bounds_u8 w0
  obtain ⟨a1, rfl, rfl, rfl⟩ := open_bool Try.underlying4 (hval 1 4 v1 rfl rfl) h1
  clear hA0 hval0
  refine (devicePower_any W a0 b0 a1).mono fun e W' ⟨he, bel⟩ => ?_
  subst he
  exact ⟨_, rfl, _, _, _, [], _, [], hW', trodAll_mk1 (shut_bool Try.underlying4 _), (trodAll_cons_mk (shut_int Try.underlying5 w0) (trodAll_cons_mk (shut_bool Try.underlying4 a1) trodAll_mk0)), rfl, bel.frame _, fun h => by cases h⟩

theorem devicePower_holds : Rows.DevicePowerSaid :=
  OpenClaim.holds_of_wide 8 Try.f8 rfl rfl rfl rfl rfl rfl rfl ⟨rfl, rfl, rfl, rfl, rfl⟩ rfl rfl rfl rfl rfl (by kernel_rfl) Try.func8 (by kernel_rfl)
    (of_decide_eq_true (by kernel_rfl)) (by unfold Func.isWrapper; rw [if_neg (of_decide_eq_false (by kernel_rfl))]; exact ⟨rfl, rfl⟩)
    (fun os started H enc _ => devicePower_lifted os started H enc)

#print axioms devicePower_holds

end Go.Proofs.Ytolbffcbamfbeaa
