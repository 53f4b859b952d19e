/-
  The law DeviceRots holds: a byte that rots, twice by the same mask, is as it was; all others stay; there is none elsewhere. For all numbers and bytes.
-/
import Derived.Test.YtolbffcbamfbeaaKdRotP
import Derived.Test.YtolbffcbamfbeaaKdTorn
import Derived.Test.YtolbffcbamfbeaaRows
import Derived.Test.YtolbffcbamfbeaaOpen
import Derived.Test.YtolbffcbamfbeaaOpenA
import Derived.ProofKit
import Derived.OpenShut
import Derived.ShutString
import Derived.ChangeOld
namespace Go.Proofs.Ytolbffcbamfbeaa
open Go.RowKit Go.Maps Kd Go.ChangeShapes Go.WideShapes Go.ChangeAt
attribute [local go_sem ↓] Go.wp_at_zero Go.wp_at_succ
theorem u8_of {c0 : Int} (h : 0 ≤ c0 ∧ c0 ≤ 255) : ∃ c : UInt8, c0 = (c.toNat : Int) := ⟨UInt8.ofNat c0.toNat, by rw [UInt8.toNat_ofNat_of_lt' (by show c0.toNat < 256; omega)]; omega⟩
set_option maxRecDepth 100000 in
set_option maxHeartbeats 12800000 in
theorem deviceRots_any (w : World) (n : Int) (_ : -9223372036854775808 ≤ n ∧ n ≤ 9223372036854775807) (a : Int) (_ : -9223372036854775808 ≤ a ∧ a ≤ 9223372036854775807) (m0 : Int) (hm0 : 0 ≤ m0 ∧ m0 ≤ 255) (c0 : Int) (hc0 : 0 ≤ c0 ∧ c0 ≤ 255) : Calls Try.prog 10 #[.int .i64 n, .int .i64 a, .int .u8 m0, .int .u8 c0] w (RetB (.bool true) w) := by
  obtain ⟨c, rfl⟩ := u8_of hc0
  obtain ⟨x8, rfl⟩ := u8_of hm0
  clear hc0 hm0
  go_enter Try.func10, Try.ntmps10
  go_wp2_with fail
  refine (kdAwake_any _).mono ?_
  rintro e w1 ⟨rfl, bw1⟩
  have B1 := Lib.hid bw1
  clear bw1
  go_wp2_with fail
  refine (live_new0 6).mono ?_
  rintro e w2 ⟨p, g1, rfl, F2, h⟩
  have H2 := Lib.hid h
  clear h
  go_wp2_with fail
  have HF0 := Lib.hid (show Fine 1 6 0 (S0.new 6) from (fine_zero (L := 6)).new 6 rfl)
  go_loopw [10] (fun i wr => ∃ (k : Nat) (F : Nat → Prop) (S : Sy), k ≤ 6 ∧ i = .int .i64 k ∧ Live w1 wr p [g1] S F ∧ Fine 1 6 k S ∧ S.p = ⟨false, -1⟩) (fun i _ => 6 - (intOf i).toNat)
  case atStart => exact ⟨0, F2, _, Nat.zero_le _, rfl, H2.out, HF0.out, rfl⟩
  case round =>
    clear H2 HF0
    obtain ⟨k, FF, S, hk, rfl, hlive, hfine, hpw⟩ := hrel
    have H := Lib.hid hlive
    have HF := Lib.hid hfine
    have HP := Lib.hid hpw
    have HK := Lib.hid hk
    clear hlive hfine hpw hk
    by_cases hlt : k < 6
    ·
      have HLT := Lib.hid hlt
      have k0 : (0 : Int) ≤ (k : Int) := by omega
      have k1 : (k : Int) < 6 := by omega
      have hw := write_fine (s := secC c) HF.out (k := 0) (i := (k : Int)) (by omega) (by rw [HP.out]) (by omega) (by rw [HP.out]; exact (step_never rfl).1)
      have HW := Lib.hid hw
      clear hlt hw
      go_wp2_with fail
      refine (sector_any c _).mono ?_
      rintro e w21 ⟨rfl, bw⟩
      have H21 := Lib.hid (H.out.below bw)
      clear bw H 
      go_wp2_with fail
      refine (live_write H21.out 0 (by rw [HF.out.len]; omega) (k : Int) (secC c) (secC_length _) (by have := (HF.out.each 0 (by omega)).2.2.2; have := HK.out; omega)).mono ?_
      rintro e w22 ⟨rfl, F22, h, hf22, hb22⟩
      rw [HW.out.1]
      have H22 := Lib.hid (show Live w1 w22 p [g1] (S.write 0 (k : Int) (secC c)).2 F22 from h)
      clear h hf22 hb22 H21 
      go_wp2_with fail
      go_roundw
      case rel => exact ⟨k + 1, F22, _, by have := HLT.out; omega, by go_num, H22.out, HW.out.2.1, by rw [HW.out.2.2, HP.out]; exact (step_never rfl).2⟩
      case measure => (have := HLT.out; simp [intOf]; omega)
    ·
      obtain rfl : k = 6 := by have := HK.out; omega
      have hw := flush_fine HF.out (k := 0) (by omega) (by rw [HP.out]) (by rw [HP.out]; exact (step_never rfl).1)
      obtain ⟨T, hT⟩ : ∃ T, T = (S.flush 0).2 := ⟨_, rfl⟩
      have HTE := Lib.hid hT
      have HT := Lib.hid (show Fine 1 6 6 T by rw [hT]; exact hw.2.1)
      have HW1 := Lib.hid hw.1
      have HTS := Lib.hid (show (T.at 0).st.length = 6 from (HT.out.each 0 (by omega)).2.2.1)
      clear hlt hw hT
      go_wp2_with fail
      have hc := live_flush H.out 0 (by rw [HF.out.len]; omega)
      rw [← HTE.out] at hc
      rw [HW1.out] at hc
      refine hc.mono ?_
      clear hc
      rintro e w41 ⟨rfl, F41, h, hf41, hb41⟩
      have H41 := Lib.hid (show Live w1 w41 p [g1] T F41 from h)
      clear h hf41 hb41 H 
      go_wp2_with fail
      refine (live_dump H41.out 0 (by rw [HT.out.len]; omega)).mono ?_
      rintro e w42 ⟨A42, n42, c42, rfl, hn42, hr42, bw⟩
      have H42 := Lib.hid (H41.out.below bw)
      have R42 := Lib.hid hr42
      have N42 := Lib.hid hn42
      clear bw hr42 hn42 H41 
      obtain rfl : 6 = n42 := HTS.out.symm.trans N42.out
      clear N42
      have HT3 := Lib.hid (H42.out.sys.ok (k := 0) (by rw [HT.out.len]; omega)).st
      go_wp2_with fail
      obtain ⟨ok, hok⟩ : ∃ ok, ok = hasByte 6 n a := ⟨_, rfl⟩
      have HOK := Lib.hid hok
      clear hok
      have hc := live_rot H42.out 0 (by rw [HT.out.len]; omega) n a x8
      rw [HTS.out] at hc
      rw [← HOK.out] at hc
      refine hc.mono ?_
      clear hc
      rintro e w43 ⟨rfl, F43, h, hf43, hb43⟩
      have H43 := Lib.hid (show Live w1 w43 p [g1] (T.rot 0 n a x8) F43 from h)
      have R43 := Lib.hid (R42.out.step hf43 hb43)
      clear h hf43 hb43 H42 R42
      go_upto_region 11 with fail
      go_cut [58] (fun s wx => s = .bool false ∧ wx = w43)
      case first =>
        have hb := hasByte_iff (n := 6) (i := n) (a := a)
        rw [← HOK.out] at hb
        have other : ¬ (0 ≤ n ∧ n < 6 ∧ 0 ≤ a ∧ a < 128) → ok = false := fun h => by
          cases ok
          · rfl
          · exact absurd (hb.1 rfl) h
        by_cases h1 : 0 ≤ n
        · by_cases h2 : n < 6
          · by_cases h3 : 0 ≤ a
            · by_cases h4 : a < 128
              · obtain rfl := hb.2 ⟨h1, h2, h3, h4⟩
                clear hb other HOK
                go_wp2_with fail
                all_goals (go_meet; exact ⟨rfl, rfl⟩)
              · obtain rfl := other (fun h => h4 h.2.2.2)
                clear hb other HOK
                go_wp2_with fail
                all_goals (go_meet; exact ⟨rfl, rfl⟩)
            · obtain rfl := other (fun h => h3 h.2.2.1)
              clear hb other HOK
              go_wp2_with fail
              all_goals (go_meet; exact ⟨rfl, rfl⟩)
          · obtain rfl := other (fun h => h2 h.2.1)
            clear hb other HOK
            go_wp2_with fail
            all_goals (go_meet; exact ⟨rfl, rfl⟩)
        · obtain rfl := other (fun h => h1 h.1)
          clear hb other HOK
          go_wp2_with fail
          all_goals (go_meet; exact ⟨rfl, rfl⟩)
      case rest =>
        obtain ⟨rfl, rfl⟩ := hcut
        go_wp2_with fail
        refine (live_dump H43.out 0 (by rw [rot_len, HT.out.len]; omega)).mono ?_
        rintro e w44 ⟨A44, n44, c44, rfl, hn44, hr44, bw⟩
        have H44 := Lib.hid (H43.out.below bw)
        have Q44 := Lib.hid hr44
        have N44 := Lib.hid hn44
        have R44 := Lib.hid (R43.out.below bw)
        clear bw hr44 hn44 H43 R43
        have hq6 : ((T.rot 0 n a x8).at 0).st.length = 6 := (rot_at_len (by rw [HT.out.len]; omega)).trans HTS.out
        obtain rfl : 6 = n44 := hq6.symm.trans N44.out
        have HQ3 := Lib.hid (H44.out.sys.ok (k := 0) (by rw [rot_len, HT.out.len]; omega)).st
        have HQ6 := Lib.hid hq6
        clear N44 hq6
        go_wp2_with fail
        have hrow := R44.out.1
        obtain ⟨q1, rfl⟩ : ∃ q, A42 = some ⟨q, 0, none⟩ := by
          rcases own_addr8 hrow with ⟨_, h0, _⟩ | h0
          · omega
          · exact h0
        have hrow2 := Q44.out.1
        obtain ⟨q2, rfl⟩ : ∃ q, A44 = some ⟨q, 0, none⟩ := by
          rcases own_addr8 hrow2 with ⟨_, h0, _⟩ | h0
          · omega
          · exact h0
        clear hrow hrow2
        have HC1 := Lib.hid (show ∀ x y : Nat, x < 6 → y < 128 → w44.cell? ⟨q1, x * 128 + y, none⟩ = some (.int .u8 ((((T.at 0).st.getD x zeroS).getD y 0).toNat : Int)) from fun x y hx hy => by
          obtain ⟨ad, e1, _, hc⟩ := R44.out.rd _ _ (svs_byte HT3.out (i := x) (j := y) (by rw [HTS.out]; exact hx) hy)
          injection e1 with e1; subst e1
          rw [Addr.add_mid, Nat.zero_add, Nat.mul_comm] at hc
          exact hc)
        have HC2 := Lib.hid (show ∀ x y : Nat, x < 6 → y < 128 → w44.cell? ⟨q2, x * 128 + y, none⟩ = some (.int .u8 ((if ok = true ∧ (x : Int) = n ∧ (y : Int) = a then ((T.at 0).st.getD x zeroS).getD y 0 ^^^ x8 else ((T.at 0).st.getD x zeroS).getD y 0).toNat : Int)) from fun x y hx hy => by
          obtain ⟨ad, e1, _, hc⟩ := Q44.out.rd _ _ (svs_byte HQ3.out (i := x) (j := y) (by rw [HQ6.out]; exact hx) hy)
          injection e1 with e1; subst e1
          rw [Addr.add_mid, Nat.zero_add, Nat.mul_comm, rot_byte (by rw [HT.out.len]; omega) HT3.out (by rw [HTS.out]; exact hx) hy, HTS.out, ← HOK.out] at hc
          exact hc)
        go_loopw [14] (fun i wr => ∃ x : Nat, x ≤ 6 ∧ i = .int .i64 x ∧ wr = w44) (fun i _ => 6 - (intOf i).toNat)
        case atStart => exact ⟨0, by omega, rfl, rfl⟩
        case round =>
          obtain ⟨x, hx12, rfl, rfl⟩ := hrel
          obtain ⟨wo, hwo⟩ : ∃ wo, wo = wr := ⟨_, rfl⟩
          subst hwo
          have HX12 := Lib.hid hx12
          clear hx12
          by_cases hx : x < 6
          · have HX := Lib.hid hx
            have x0 : (0 : Int) ≤ (x : Int) := by omega
            have x1 : (x : Int) < 6 := by omega
            clear hx
            go_wp2_with fail
            go_loopw [15] (fun i wr => ∃ y : Nat, y ≤ 128 ∧ i = .int .i64 y ∧ wr = wo) (fun i _ => 128 - (intOf i).toNat)
            case atStart => exact ⟨0, by omega, rfl, rfl⟩
            case round =>
              obtain ⟨y, hy128, rfl, rfl⟩ := hrel
              have HY12 := Lib.hid hy128
              clear hy128
              by_cases hy : y < 128
              · have HY := Lib.hid hy
                have y0 : (0 : Int) ≤ (y : Int) := by omega
                have y1 : (y : Int) < 128 := by omega
                have hc1 := HC1.out x y HX.out hy
                have hc2 := HC2.out x y HX.out hy
                obtain ⟨b8, hb8⟩ : ∃ b8, b8 = ((T.at 0).st.getD x zeroS).getD y 0 := ⟨_, rfl⟩
                rw [← hb8] at hc1 hc2
                clear hy hb8
                cases ok
                · rw [if_neg (fun h => by cases h.1)] at hc2
                  go_wp2_with fail
                  go_roundw
                  case rel => exact ⟨y + 1, by have := HY.out; omega, by go_num, by first | rfl | trivial⟩
                  case measure => (have := HY.out; simp [intOf]; omega)
                · by_cases h1 : (x : Int) = n
                  · subst h1
                    by_cases h2 : (y : Int) = a
                    · subst h2
                      rw [if_pos ⟨rfl, rfl, rfl⟩] at hc2
                      have HX8 := Lib.hid (bits_xor8 b8 x8)
                      go_upto_region 25 with fail
                      rw [HX8.out]
                      go_wp2_with fail
                      go_roundw
                      case rel => exact ⟨y + 1, by have := HY.out; omega, by go_num, by first | rfl | trivial⟩
                      case measure => (have := HY.out; simp [intOf]; omega)
                    · rw [if_neg (fun h => h2 h.2.2)] at hc2
                      go_wp2_with fail
                      go_roundw
                      case rel => exact ⟨y + 1, by have := HY.out; omega, by go_num, by first | rfl | trivial⟩
                      case measure => (have := HY.out; simp [intOf]; omega)
                  · rw [if_neg (fun h => h1 h.2.1)] at hc2
                    go_wp2_with fail
                    go_roundw
                    case rel => exact ⟨y + 1, by have := HY.out; omega, by go_num, by first | rfl | trivial⟩
                    case measure => (have := HY.out; simp [intOf]; omega)
              · obtain rfl : y = 128 := by have := HY12.out; omega
                clear hy
                go_wp2_with fail
                go_roundw
                case rel => exact ⟨x + 1, by have := HX.out; omega, by go_num, by first | rfl | trivial⟩
                case measure => (have := HX.out; simp [intOf]; omega)
          · obtain rfl : x = 6 := by have := HX12.out; omega
            clear hx
            clear HC1 HC2
            go_wp2_with fail
            have hc := live_rot H44.out 0 (by rw [rot_len, HT.out.len]; omega) n a x8
            rw [HQ6.out] at hc
            rw [← HOK.out] at hc
            refine hc.mono ?_
            clear hc
            rintro e w45 ⟨rfl, F45, h, hf45, hb45⟩
            have H45 := Lib.hid (show Live w1 w45 p [g1] ((T.rot 0 n a x8).rot 0 n a x8) F45 from h)
            have R45 := Lib.hid (R44.out.step hf45 hb45)
            have Q45 := Lib.hid (Q44.out.step hf45 hb45)
            clear h hf45 hb45 H44 R44 Q44
            go_wp2_with fail
            refine (live_dump H45.out 0 (by rw [rot_len, rot_len, HT.out.len]; omega)).mono ?_
            rintro e w46 ⟨A46, n46, c46, rfl, hn46, hr46, bw⟩
            have H46 := Lib.hid (H45.out.below bw)
            have P46 := Lib.hid hr46
            have N46 := Lib.hid hn46
            have R46 := Lib.hid (R45.out.below bw)
            have Q46 := Lib.hid (Q45.out.below bw)
            clear bw hr46 hn46 H45 R45 Q45
            have htw := rot_twice (S := T) (k := 0) (i := n) (a := a) (x := x8) (by rw [HT.out.len]; omega) HT3.out
            have hp6 : (((T.rot 0 n a x8).rot 0 n a x8).at 0).st.length = 6 := by rw [htw]; exact HTS.out
            obtain rfl : 6 = n46 := hp6.symm.trans N46.out
            have RA := Lib.hid (show Rd _ w46 (some ⟨q1, 0, none⟩) (svs (T.at 0).st) from R46.out.rd)
            have RB := Lib.hid (show Rd _ w46 A46 (svs (T.at 0).st) from by rw [← htw]; exact P46.out.rd)
            clear htw hp6 N46 R46 Q46 P46
            go_wp2_with fail
            refine (rsame_b A46 (some ⟨q1, 0, none⟩) 6 6 c46 c42 (T.at 0).st (T.at 0).st _ HTS.out HTS.out HT3.out HT3.out RB.out RA.out (by unfold maxLen; omega) (by unfold maxLen; omega)).mono ?_
            rintro e w47 ⟨rfl, bw⟩
            rw [same_refl]
            clear RA RB
            have H47 := Lib.hid (H46.out.below bw)
            clear bw H46 
            go_wp2_with fail
            go_ret
            exact ⟨rfl, B1.out.trans (H47.out.bel.mono B1.out.size)⟩
theorem deviceRots_own : ownKnob Try.prog.godebug = none := by kernel_rfl
theorem deviceRots_laid : laidOutB Try.prog = true := by kernel_rfl

set_option maxRecDepth 100000 in
theorem deviceRots_lifted (os : Os) (started : os.Started) (H : Type) (enc : TypeId × Value → H) :
    ReturnsInHanded {} Try.checked os 10 .any (Rows.deviceRotsSpec.pre6 enc Try.prog Try.f10 Rows.deviceRotsRow.domain false) (Rows.deviceRotsSpec.post enc Try.prog Try.f10 false true false false) := by
  refine returnsInHanded_of_change (C := Try.checked) deviceRots_own started (by kernel_rfl) Try.func10
    (ChangeSpec.witness6 (enc := enc) (C := Try.checked) false ⟨#[], #[.int .i64 0, .int .i64 0, .int .u8 0, .int .u8 0], []⟩ 8 (by kernel_rfl) (by kernel_rfl) (by kernel_rfl) (by kernel_rfl)) ?_
  intro W base args ds gs before hval0 hW _ _
  have hval : ∀ (j : Nat) t v, Try.f10.params[j]? = some t → args[j]? = some v → Value.okWide Try.prog W .any base t v := hval0
  have hW' := hW
  obtain ⟨p, q, hA0, hV, rfl, hfz, hnd⟩ := hW
  have hA : DataW.TrodAll enc Try.prog W 0 (fun _ => true) true Try.f10.params.toList args.toList ds p := hA0
  rw [Try.params10] at hA hval
  obtain ⟨v0, vs0, d0, ds0, p0, q0, hargs, rfl, rfl, h0, r0⟩ := trodAll_cons hA
  obtain ⟨v1, vs1, d1, ds1, p1, q1, rfl, rfl, rfl, h1, r1⟩ := trodAll_cons r0
  obtain ⟨v2, vs2, d2, ds2, p2, q2, rfl, rfl, rfl, h2, r2⟩ := trodAll_cons r1
  obtain ⟨v3, vs3, d3, ds3, p3, q3, rfl, rfl, rfl, h3, r3⟩ := trodAll_cons r2
  obtain ⟨rfl, rfl, rfl⟩ := trodAll_nil r3
  obtain rfl : args = #[v0, v1, v2, v3] := by cases args; simp_all
  obtain ⟨rfl, rfl⟩ := trodVars_none hV
  obtain ⟨a0, rfl, rfl, rfl, w0⟩ := open_int Try.underlying3 (hval 0 3 v0 rfl rfl) h0
  have b0 := bounds_i64 w0
  obtain ⟨a1, rfl, rfl, rfl, w1⟩ := open_int Try.underlying3 (hval 1 3 v1 rfl rfl) h1
  have b1 := bounds_i64 w1
  obtain ⟨a2, rfl, rfl, rfl, w2⟩ := open_int Try.underlying5 (hval 2 5 v2 rfl rfl) h2
  have b2 := bounds_u8 w2
  obtain ⟨a3, rfl, rfl, rfl, w3⟩ := open_int Try.underlying5 (hval 3 5 v3 rfl rfl) h3
  have b3 := bounds_u8 w3
  clear hA0 hval0
  refine (deviceRots_any W a0 b0 a1 b1 a2 b2 a3 b3).mono fun e W' ⟨he, bel⟩ => ?_
  subst he
  exact ⟨_, rfl, _, _, _, [], _, [], hW', trodAll_mk1 (shut_bool Try.underlying4 _), (trodAll_cons_mk (shut_int Try.underlying3 w0) (trodAll_cons_mk (shut_int Try.underlying3 w1) (trodAll_cons_mk (shut_int Try.underlying5 w2) (trodAll_cons_mk (shut_int Try.underlying5 w3) trodAll_mk0)))), rfl, bel.frame _, fun h => by cases h⟩

theorem deviceRots_holds : Rows.DeviceRotsSaid :=
  OpenClaim.holds_of_wide 10 Try.f10 rfl rfl rfl rfl rfl rfl rfl ⟨rfl, rfl, rfl, rfl, rfl⟩ rfl rfl rfl rfl rfl (by kernel_rfl) Try.func10 (by kernel_rfl)
    (of_decide_eq_true (by kernel_rfl)) (by unfold Func.isWrapper; rw [if_neg (of_decide_eq_false (by kernel_rfl))]; exact ⟨rfl, rfl⟩)
    (fun os started H enc _ => deviceRots_lifted os started H enc)

#print axioms deviceRots_holds

end Go.Proofs.Ytolbffcbamfbeaa
