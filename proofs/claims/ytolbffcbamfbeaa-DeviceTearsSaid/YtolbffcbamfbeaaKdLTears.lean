/-
  The law DeviceTears holds: when power fails, of the writes that wait the first ones are there, one is torn, the others aren't; a write in flight counts as the last one. For all numbers and any truth.
-/
import Derived.Test.YtolbffcbamfbeaaKdTorn
import Derived.Test.YtolbffcbamfbeaaRows
import Derived.Test.YtolbffcbamfbeaaOpen
import Derived.Test.YtolbffcbamfbeaaOpenA
import Derived.ProofKit
import Derived.OpenShut
import Derived.ShutString
import Derived.ChangeOld
namespace Go.Proofs.Ytolbffcbamfbeaa
open Go.RowKit Go.Maps Kd Go.ChangeShapes Go.WideShapes Go.ChangeAt
attribute [local go_sem ↓] Go.wp_at_zero Go.wp_at_succ
theorem byte8 {i : Nat} (h : i < 255) : ((UInt8.ofNat (i + 1)).toNat : Int) = (i : Int) + 1 := by
  rw [UInt8.toNat_ofNat_of_lt' (by show i + 1 < 256; omega)]; rfl
set_option maxRecDepth 100000 in
set_option maxHeartbeats 12800000 in
theorem deviceTears_any (w : World) (m0 : Int) (h0 : 0 ≤ m0 ∧ m0 ≤ 255) (k0 : Int) (h1 : 0 ≤ k0 ∧ k0 ≤ 255) (b0 : Int) (h2 : 0 ≤ b0 ∧ b0 ≤ 255) (fl : Bool) : Calls Try.prog 6 #[.int .u8 m0, .int .u8 k0, .int .u8 b0, .bool fl] w (RetB (.bool true) w) := by
  obtain ⟨n, hn⟩ : ∃ n : Nat, n = (m0 % 10).toNat := ⟨_, rfl⟩
  obtain ⟨kk, hkk⟩ : ∃ n : Nat, n = (k0 % 12).toNat := ⟨_, rfl⟩
  obtain ⟨b, hb⟩ : ∃ n : Nat, n = (b0 % 130).toNat := ⟨_, rfl⟩
  have hn40 : n < 10 := by omega
  have hb130 : b < 130 := by omega
  have hk12 : kk < 12 := by omega
  have HR := Lib.hid (show (wrap64 m0).tmod 10 = (n : Int) by rw [show wrap64 m0 = m0 by unfold wrap64; omega, Int.tmod_eq_emod_of_nonneg h0.1]; omega)
  have HRk := Lib.hid (show (wrap64 k0).tmod 12 = (kk : Int) by rw [show wrap64 k0 = k0 by unfold wrap64; omega, Int.tmod_eq_emod_of_nonneg h1.1]; omega)
  have HRb := Lib.hid (show (wrap64 b0).tmod 130 = (b : Int) by rw [show wrap64 b0 = b0 by unfold wrap64; omega, Int.tmod_eq_emod_of_nonneg h2.1]; omega)
  have HN := Lib.hid hn40
  have HB130 := Lib.hid hb130
  have HK12 := Lib.hid hk12
  clear h0 h1 h2 hn hkk hb hn40 hb130 hk12
  go_enter Try.func6, Try.ntmps6
  go_wp2_with fail
  refine (kdAwake_any _).mono ?_
  rintro e w1 ⟨rfl, bw1⟩
  have B1 := Lib.hid bw1
  clear bw1
  go_wp2_with fail
  rw [HR.out, HRk.out, HRb.out]
  refine live_power.mono ?_
  rintro e w2 ⟨p, rfl, F2, h⟩
  have H2 := Lib.hid h
  clear h
  go_wp2_with fail
  refine (live_new H2.out (by decide) 12).mono ?_
  rintro e w3 ⟨g1, rfl, F3, h, hf3, hb3⟩
  have H3 := Lib.hid (show Live w1 w3 p [g1] (S0.new 12) F3 from h)
  clear h hf3 hb3 H2 
  go_wp2_with fail
  have hs0 := start8 (k := kk) (b := (b : Int)) (by omega)
  have hc := live_tear H3.out 0 (by decide) (kk : Int) (b : Int)
  rw [hs0] at hc
  refine hc.mono ?_
  clear hc
  rintro e w4 ⟨rfl, F4, h, hf4, hb4⟩
  have H4 := Lib.hid (show Live w1 w4 p [g1] (sys8 (-1) kk (min (b : Int) 128) 0) F4 from h)
  clear h hf4 hb4 H3 
  clear hs0
  go_wp2_with fail
  obtain ⟨b8, hb8⟩ : ∃ b8 : Int, b8 = min (b : Int) 128 := ⟨_, rfl⟩
  have HB8 := Lib.hid hb8
  go_loopw [14] (fun i wr => ∃ (j : Nat) (F : Nat → Prop), j ≤ n ∧ i = .int .i64 j ∧ Live w1 wr p [g1] (sys8 (-1) kk b8 j) F) (fun i _ => n - (intOf i).toNat)
  case atStart => exact ⟨0, F4, Nat.zero_le _, rfl, by rw [hb8]; exact H4.out⟩
  case round =>
    clear H4 hb8
    obtain ⟨j, FF, hk, rfl, hlive⟩ := hrel
    have H := Lib.hid hlive
    have HK := Lib.hid hk
    clear hlive hk
    by_cases hlt : j < n
    ·
      have HLT := Lib.hid hlt
      have j0 : (0 : Int) ≤ (j : Int) := by omega
      have j1 : (j : Int) < 10 := by have := HN.out; omega
      obtain ⟨c, hcc⟩ : ∃ c, c = UInt8.ofNat (j + 1) := ⟨_, rfl⟩
      have HX := Lib.hid (show ((c.toNat : Nat) : Int) = (j : Int) + 1 by rw [hcc]; exact byte8 (by omega))
      have HE := Lib.hid (show (sys8 (-1) kk b8 j).write 0 (j : Int) (secC c) = (0, sys8 (-1) kk b8 (j + 1)) by rw [hcc]; exact write8t (by omega))
      clear hlt hcc
      go_wp2_with fail
      have hs := sector_any c wr
      rw [HX.out] at hs
      refine (hs).mono ?_
      rintro e w21 ⟨rfl, bw⟩
      clear hs
      have H21 := Lib.hid (H.out.below bw)
      clear bw H 
      go_wp2_with fail
      have hc := live_write H21.out 0 (by show 0 < 1; omega) (j : Int) (secC c) (secC_length _) (by show (wr8 j).length < _; rw [wr8_length]; omega)
      rw [HE.out] at hc
      refine hc.mono ?_
      clear hc
      rintro e w22 ⟨rfl, F22, h, hf22, hb22⟩
      have H22 := Lib.hid (show Live w1 w22 p [g1] (sys8 (-1) kk b8 (j + 1)) F22 from h)
      clear h hf22 hb22 H21 
      go_wp2_with fail
      go_roundw
      case rel => exact ⟨j + 1, F22, by have := HLT.out; omega, by go_num, H22.out⟩
      case measure => (have := HLT.out; simp [intOf]; omega)
    ·
      obtain rfl : j = n := by have := HK.out; omega
      obtain ⟨c, hcc⟩ : ∃ c, c = UInt8.ofNat (j + 1) := ⟨_, rfl⟩
      have HX := Lib.hid (show ((c.toNat : Nat) : Int) = (j : Int) + 1 by rw [hcc]; exact byte8 (by have := HN.out; omega))
      have HE := Lib.hid (show (sys8 0 kk b8 j).write 0 (j : Int) (secC c) = (13, end8 kk b8 (j + 1)) by rw [hcc]; exact write80 (by have := HN.out; omega))
      have HJ := Lib.hid (show (j : Int) < 10 by have := HN.out; omega)
      have j0 : (0 : Int) ≤ (j : Int) := by omega
      have j1 : (j : Int) < 10 := by have := HN.out; omega
      clear hlt hcc
      cases fl
      ·
        go_wp2_with fail
        refine (live_fail H.out 0 (by omega)).mono ?_
        rintro e w41 ⟨rfl, F41, h, hf41, hb41⟩
        have H41 := Lib.hid (show Live w1 w41 p [g1] (sys8 0 kk b8 j) F41 from h)
        clear h hf41 hb41 H 
        go_wp2_with fail
        have hc := live_flush H41.out 0 (by show 0 < 1; omega)
        rw [flush80] at hc
        refine hc.mono ?_
        clear hc
        rintro e w42 ⟨rfl, F42, h, hf42, hb42⟩
        have H42 := Lib.hid (show Live w1 w42 p [g1] (end8 kk b8 j) F42 from h)
        clear h hf42 hb42 H41 
        go_wp2_with fail
        refine (live_dump H42.out 0 (by show 0 < 1; omega)).mono ?_
        rintro e w43 ⟨A43, n43, c43, rfl, hn43, hr43, bw⟩
        have H43 := Lib.hid (H42.out.below bw)
        have R43 := Lib.hid hr43
        have N43 := Lib.hid hn43
        clear bw hr43 hn43 H42 
        obtain rfl : 12 = n43 := (end8_len kk b8 j).symm.trans N43.out
        have hrow := R43.out.1
        obtain ⟨q, rfl⟩ : ∃ q, A43 = some ⟨q, 0, none⟩ := by
          rcases own_addr8 hrow with ⟨_, h0, _⟩ | h0
          · omega
          · exact h0
        have HRD := Lib.hid (Rd.ownN hrow)
        clear hrow N43
        go_wp2_with fail
        refine (waiting_sys H43.out.sys 0 (by show 0 < 1; omega)).mono ?_
        rintro e _ ⟨rfl, rfl⟩
        rw [show (((end8 kk b8 j).at 0).wt.length : Int) = 0 from rfl]
        go_wp2_with fail
        refine (on_sys H43.out.sys).mono ?_
        rintro e _ ⟨rfl, rfl⟩
        rw [show (end8 kk b8 j).p.off = true from rfl]
        go_wp2_with fail
        have HC := Lib.hid (show ∀ x y : Nat, x < 12 → y < 128 → w43.cell? ⟨q, x * 128 + y, none⟩ = some (.int .u8 (if x < j ∧ (x < kk ∨ x = kk ∧ (y : Int) < b8) then (x : Int) + 1 else 0)) from fun x y hx hy => by
          obtain ⟨ad, e1, _, hc⟩ := HRD.out _ _ (svs_byte (end8_secs kk b8 (by rw [HB8.out]; omega) (j)) (i := x) (j := y) (by rw [end8_len]; exact hx) hy)
          injection e1 with e1; subst e1
          rw [Addr.add_mid, Nat.zero_add, Nat.mul_comm] at hc
          rw [hc, end8_get (by have := HN.out; have := HJ.out; omega) hx hy]
          split
          · rw [byte8 (by omega)]
          · rfl)
        clear HRD R43
        go_loopw [16] (fun i wr => ∃ x : Nat, x ≤ 12 ∧ i = .int .i64 x ∧ wr = w43) (fun i _ => 12 - (intOf i).toNat)
        case atStart => exact ⟨0, by omega, rfl, rfl⟩
        case round =>
          obtain ⟨x, hx12, rfl, rfl⟩ := hrel
          obtain ⟨wo, hwo⟩ : ∃ wo, wo = wr := ⟨_, rfl⟩
          subst hwo
          have HX12 := Lib.hid hx12
          clear hx12
          by_cases hx : x < 12
          · have HX := Lib.hid hx
            have x0 : (0 : Int) ≤ (x : Int) := by omega
            have x1 : (x : Int) < 12 := by omega
            clear hx
            go_wp2_with fail
            go_loopw [17] (fun i wr => ∃ y : Nat, y ≤ 128 ∧ i = .int .i64 y ∧ wr = wo) (fun i _ => 128 - (intOf i).toNat)
            case atStart => exact ⟨0, by omega, rfl, rfl⟩
            case round =>
              obtain ⟨y, hy128, rfl, rfl⟩ := hrel
              have HY12 := Lib.hid hy128
              clear hy128
              by_cases hy : y < 128
              · have HY := Lib.hid hy
                have y0 : (0 : Int) ≤ (y : Int) := by omega
                have y1 : (y : Int) < 128 := by omega
                have hc := HC.out x y HX.out hy
                have HBB := Lib.hid (show (y : Int) < b8 ↔ y < b by rw [HB8.out]; omega)
                clear hy
                by_cases h1 : x < j
                · have d1 : (x : Int) < (j : Nat) := by omega
                  by_cases h2 : x < kk
                  · rw [if_pos ⟨h1, .inl h2⟩] at hc
                    go_wp2_with fail
                    go_roundw
                    case rel => exact ⟨y + 1, by have := HY.out; omega, by go_num, by first | rfl | trivial⟩
                    case measure => (have := HY.out; simp [intOf]; omega)
                  · by_cases h3 : x = kk
                    · subst h3
                      by_cases h4 : y < b
                      · rw [if_pos ⟨h1, .inr ⟨rfl, HBB.out.2 h4⟩⟩] at hc
                        go_wp2_with fail
                        go_roundw
                        case rel => exact ⟨y + 1, by have := HY.out; omega, by go_num, by first | rfl | trivial⟩
                        case measure => (have := HY.out; simp [intOf]; omega)
                      · rw [if_neg (by rintro ⟨_, h | ⟨_, h⟩⟩; exact h2 h; exact h4 (HBB.out.1 h))] at hc
                        go_wp2_with fail
                        go_roundw
                        case rel => exact ⟨y + 1, by have := HY.out; omega, by go_num, by first | rfl | trivial⟩
                        case measure => (have := HY.out; simp [intOf]; omega)
                    · have d3 : ¬ (x : Int) = (kk : Int) := by omega
                      rw [if_neg (by rintro ⟨_, h | ⟨h, _⟩⟩; exact h2 h; exact h3 h)] at hc
                      go_wp2_with fail
                      go_roundw
                      case rel => exact ⟨y + 1, by have := HY.out; omega, by go_num, by first | rfl | trivial⟩
                      case measure => (have := HY.out; simp [intOf]; omega)
                · have d1 : ¬ (x : Int) < (j : Nat) := by omega
                  rw [if_neg (fun h => h1 h.1)] at hc
                  go_wp2_with fail
                  go_roundw
                  case rel => exact ⟨y + 1, by have := HY.out; omega, by go_num, by first | rfl | trivial⟩
                  case measure => (have := HY.out; simp [intOf]; omega)
              · obtain rfl : y = 128 := by have := HY12.out; omega
                clear hy
                go_wp2_with fail
                go_roundw
                case rel => exact ⟨x + 1, by have := HX.out; omega, by go_num, by first | rfl | trivial⟩
                case measure => (have := HX.out; simp [intOf]; omega)
          · obtain rfl : x = 12 := by have := HX12.out; omega
            clear hx
            go_wp2_with fail
            go_ret
            exact ⟨rfl, B1.out.trans (H43.out.bel.mono B1.out.size)⟩
      ·
        go_wp2_with fail
        refine (live_fail H.out 0 (by omega)).mono ?_
        rintro e w41 ⟨rfl, F41, h, hf41, hb41⟩
        have H41 := Lib.hid (show Live w1 w41 p [g1] (sys8 0 kk b8 j) F41 from h)
        clear h hf41 hb41 H 
        go_wp2_with fail
        have hs := sector_any c w41
        rw [HX.out] at hs
        refine (hs).mono ?_
        rintro e w42 ⟨rfl, bw⟩
        clear hs
        have H42 := Lib.hid (H41.out.below bw)
        clear bw H41 
        go_wp2_with fail
        have hc := live_write H42.out 0 (by show 0 < 1; omega) (j : Int) (secC c) (secC_length _) (by show (wr8 j).length < _; rw [wr8_length]; omega)
        rw [HE.out] at hc
        refine hc.mono ?_
        clear hc
        rintro e w43 ⟨rfl, F43, h, hf43, hb43⟩
        have H43 := Lib.hid (show Live w1 w43 p [g1] (end8 kk b8 (j + 1)) F43 from h)
        clear h hf43 hb43 H42 
        go_wp2_with fail
        refine (live_dump H43.out 0 (by show 0 < 1; omega)).mono ?_
        rintro e w44 ⟨A44, n44, c44, rfl, hn44, hr44, bw⟩
        have H44 := Lib.hid (H43.out.below bw)
        have R44 := Lib.hid hr44
        have N44 := Lib.hid hn44
        clear bw hr44 hn44 H43 
        obtain rfl : 12 = n44 := (end8_len kk b8 (j + 1)).symm.trans N44.out
        have hrow := R44.out.1
        obtain ⟨q, rfl⟩ : ∃ q, A44 = some ⟨q, 0, none⟩ := by
          rcases own_addr8 hrow with ⟨_, h0, _⟩ | h0
          · omega
          · exact h0
        have HRD := Lib.hid (Rd.ownN hrow)
        clear hrow N44
        go_wp2_with fail
        refine (waiting_sys H44.out.sys 0 (by show 0 < 1; omega)).mono ?_
        rintro e _ ⟨rfl, rfl⟩
        rw [show (((end8 kk b8 (j + 1)).at 0).wt.length : Int) = 0 from rfl]
        go_wp2_with fail
        refine (on_sys H44.out.sys).mono ?_
        rintro e _ ⟨rfl, rfl⟩
        rw [show (end8 kk b8 (j + 1)).p.off = true from rfl]
        go_wp2_with fail
        have HC := Lib.hid (show ∀ x y : Nat, x < 12 → y < 128 → w44.cell? ⟨q, x * 128 + y, none⟩ = some (.int .u8 (if x < (j + 1) ∧ (x < kk ∨ x = kk ∧ (y : Int) < b8) then (x : Int) + 1 else 0)) from fun x y hx hy => by
          obtain ⟨ad, e1, _, hc⟩ := HRD.out _ _ (svs_byte (end8_secs kk b8 (by rw [HB8.out]; omega) ((j + 1))) (i := x) (j := y) (by rw [end8_len]; exact hx) hy)
          injection e1 with e1; subst e1
          rw [Addr.add_mid, Nat.zero_add, Nat.mul_comm] at hc
          rw [hc, end8_get (by have := HN.out; have := HJ.out; omega) hx hy]
          split
          · rw [byte8 (by omega)]
          · rfl)
        clear HRD R44
        go_loopw [16] (fun i wr => ∃ x : Nat, x ≤ 12 ∧ i = .int .i64 x ∧ wr = w44) (fun i _ => 12 - (intOf i).toNat)
        case atStart => exact ⟨0, by omega, rfl, rfl⟩
        case round =>
          obtain ⟨x, hx12, rfl, rfl⟩ := hrel
          obtain ⟨wo, hwo⟩ : ∃ wo, wo = wr := ⟨_, rfl⟩
          subst hwo
          have HX12 := Lib.hid hx12
          clear hx12
          by_cases hx : x < 12
          · have HX := Lib.hid hx
            have x0 : (0 : Int) ≤ (x : Int) := by omega
            have x1 : (x : Int) < 12 := by omega
            clear hx
            go_wp2_with fail
            go_loopw [17] (fun i wr => ∃ y : Nat, y ≤ 128 ∧ i = .int .i64 y ∧ wr = wo) (fun i _ => 128 - (intOf i).toNat)
            case atStart => exact ⟨0, by omega, rfl, rfl⟩
            case round =>
              obtain ⟨y, hy128, rfl, rfl⟩ := hrel
              have HY12 := Lib.hid hy128
              clear hy128
              by_cases hy : y < 128
              · have HY := Lib.hid hy
                have y0 : (0 : Int) ≤ (y : Int) := by omega
                have y1 : (y : Int) < 128 := by omega
                have hc := HC.out x y HX.out hy
                have HBB := Lib.hid (show (y : Int) < b8 ↔ y < b by rw [HB8.out]; omega)
                clear hy
                by_cases h1 : x < (j + 1)
                · have d1 : (x : Int) < ((j + 1) : Nat) := by omega
                  by_cases h2 : x < kk
                  · rw [if_pos ⟨h1, .inl h2⟩] at hc
                    go_wp2_with fail
                    go_roundw
                    case rel => exact ⟨y + 1, by have := HY.out; omega, by go_num, by first | rfl | trivial⟩
                    case measure => (have := HY.out; simp [intOf]; omega)
                  · by_cases h3 : x = kk
                    · subst h3
                      by_cases h4 : y < b
                      · rw [if_pos ⟨h1, .inr ⟨rfl, HBB.out.2 h4⟩⟩] at hc
                        go_wp2_with fail
                        go_roundw
                        case rel => exact ⟨y + 1, by have := HY.out; omega, by go_num, by first | rfl | trivial⟩
                        case measure => (have := HY.out; simp [intOf]; omega)
                      · rw [if_neg (by rintro ⟨_, h | ⟨_, h⟩⟩; exact h2 h; exact h4 (HBB.out.1 h))] at hc
                        go_wp2_with fail
                        go_roundw
                        case rel => exact ⟨y + 1, by have := HY.out; omega, by go_num, by first | rfl | trivial⟩
                        case measure => (have := HY.out; simp [intOf]; omega)
                    · have d3 : ¬ (x : Int) = (kk : Int) := by omega
                      rw [if_neg (by rintro ⟨_, h | ⟨h, _⟩⟩; exact h2 h; exact h3 h)] at hc
                      go_wp2_with fail
                      go_roundw
                      case rel => exact ⟨y + 1, by have := HY.out; omega, by go_num, by first | rfl | trivial⟩
                      case measure => (have := HY.out; simp [intOf]; omega)
                · have d1 : ¬ (x : Int) < ((j + 1) : Nat) := by omega
                  rw [if_neg (fun h => h1 h.1)] at hc
                  go_wp2_with fail
                  go_roundw
                  case rel => exact ⟨y + 1, by have := HY.out; omega, by go_num, by first | rfl | trivial⟩
                  case measure => (have := HY.out; simp [intOf]; omega)
              · obtain rfl : y = 128 := by have := HY12.out; omega
                clear hy
                go_wp2_with fail
                go_roundw
                case rel => exact ⟨x + 1, by have := HX.out; omega, by go_num, by first | rfl | trivial⟩
                case measure => (have := HX.out; simp [intOf]; omega)
          · obtain rfl : x = 12 := by have := HX12.out; omega
            clear hx
            go_wp2_with fail
            go_ret
            exact ⟨rfl, B1.out.trans (H44.out.bel.mono B1.out.size)⟩
theorem deviceTears_own : ownKnob Try.prog.godebug = none := by kernel_rfl
theorem deviceTears_laid : laidOutB Try.prog = true := by kernel_rfl

set_option maxRecDepth 100000 in
theorem deviceTears_lifted (os : Os) (started : os.Started) (H : Type) (enc : TypeId × Value → H) :
    ReturnsInHanded {} Try.checked os 6 .any (Rows.deviceTearsSpec.pre6 enc Try.prog Try.f6 Rows.deviceTearsRow.domain false) (Rows.deviceTearsSpec.post enc Try.prog Try.f6 false true false false) := by
  refine returnsInHanded_of_change (C := Try.checked) deviceTears_own started (by kernel_rfl) Try.func6
    (ChangeSpec.witness6 (enc := enc) (C := Try.checked) false ⟨#[], #[.int .u8 0, .int .u8 0, .int .u8 0, .bool false], []⟩ 8 (by kernel_rfl) (by kernel_rfl) (by kernel_rfl) (by kernel_rfl)) ?_
  intro W base args ds gs before hval0 hW _ _
  have hval : ∀ (j : Nat) t v, Try.f6.params[j]? = some t → args[j]? = some v → Value.okWide Try.prog W .any base t v := hval0
  have hW' := hW
  obtain ⟨p, q, hA0, hV, rfl, hfz, hnd⟩ := hW
  have hA : DataW.TrodAll enc Try.prog W 0 (fun _ => true) true Try.f6.params.toList args.toList ds p := hA0
  rw [Try.params6] at hA hval
  obtain ⟨v0, vs0, d0, ds0, p0, q0, hargs, rfl, rfl, h0, r0⟩ := trodAll_cons hA
  obtain ⟨v1, vs1, d1, ds1, p1, q1, rfl, rfl, rfl, h1, r1⟩ := trodAll_cons r0
  obtain ⟨v2, vs2, d2, ds2, p2, q2, rfl, rfl, rfl, h2, r2⟩ := trodAll_cons r1
  obtain ⟨v3, vs3, d3, ds3, p3, q3, rfl, rfl, rfl, h3, r3⟩ := trodAll_cons r2
  obtain ⟨rfl, rfl, rfl⟩ := trodAll_nil r3
  obtain rfl : args = #[v0, v1, v2, v3] := by cases args; simp_all
  obtain ⟨rfl, rfl⟩ := trodVars_none hV
  obtain ⟨a0, rfl, rfl, rfl, w0⟩ := open_int Try.underlying5 (hval 0 5 v0 rfl rfl) h0
  have b0 := bounds_u8 w0
  obtain ⟨a1, rfl, rfl, rfl, w1⟩ := open_int Try.underlying5 (hval 1 5 v1 rfl rfl) h1
  have b1 := bounds_u8 w1
  obtain ⟨a2, rfl, rfl, rfl, w2⟩ := open_int Try.underlying5 (hval 2 5 v2 rfl rfl) h2
  have b2 := bounds_u8 w2
  obtain ⟨a3, rfl, rfl, rfl⟩ := open_bool Try.underlying4 (hval 3 4 v3 rfl rfl) h3
  clear hA0 hval0
  refine (deviceTears_any W a0 b0 a1 b1 a2 b2 a3).mono fun e W' ⟨he, bel⟩ => ?_
  subst he
  exact ⟨_, rfl, _, _, _, [], _, [], hW', trodAll_mk1 (shut_bool Try.underlying4 _), (trodAll_cons_mk (shut_int Try.underlying5 w0) (trodAll_cons_mk (shut_int Try.underlying5 w1) (trodAll_cons_mk (shut_int Try.underlying5 w2) (trodAll_cons_mk (shut_bool Try.underlying4 a3) trodAll_mk0)))), rfl, bel.frame _, fun h => by cases h⟩

theorem deviceTears_holds : Rows.DeviceTearsSaid :=
  OpenClaim.holds_of_wide 6 Try.f6 rfl rfl rfl rfl rfl rfl rfl ⟨rfl, rfl, rfl, rfl, rfl⟩ rfl rfl rfl rfl rfl (by kernel_rfl) Try.func6 (by kernel_rfl)
    (of_decide_eq_true (by kernel_rfl)) (by unfold Func.isWrapper; rw [if_neg (of_decide_eq_false (by kernel_rfl))]; exact ⟨rfl, rfl⟩)
    (fun os started H enc _ => deviceTears_lifted os started H enc)

#print axioms deviceTears_holds

end Go.Proofs.Ytolbffcbamfbeaa
