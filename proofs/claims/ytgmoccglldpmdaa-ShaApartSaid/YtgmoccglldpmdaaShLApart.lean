/-
  ShaApart holds: of every two texts the law returns true, and its arguments read as they did.
-/
import Derived.Test.YtgmoccglldpmdaaShPadL
import Derived.Test.YtgmoccglldpmdaaShAwake
import Derived.Test.YtgmoccglldpmdaaShSame
import Derived.Test.YtgmoccglldpmdaaOpen
import Derived.Test.YtgmoccglldpmdaaOpenA
import Derived.ProofKit
import Derived.OpenShut
import Derived.ShutString
import Derived.ChangeOld
namespace Go.Proofs.Ytgmoccglldpmdaa
open Go.RowKit Go.ChangeShapes Go.WideShapes Go.ChangeAt
theorem u8_ofNat_inj {a b : Nat} (ha : a < 256) (hb : b < 256) (h : UInt8.ofNat a = UInt8.ofNat b) : a = b := by
  have h2 := congrArg UInt8.toNat h
  rw [UInt8.toNat_ofNat', UInt8.toNat_ofNat'] at h2
  omega
theorem padL_inj {a b : List UInt8} (ha : a.length ≤ 1000) (hb : b.length ≤ 1000) (h : padL a = padL b) : a = b := by
  have hl := congrArg List.length h
  rw [padL_length, padL_length] at hl
  have key : ∀ k, k < 8 → UInt8.ofNat (8 * a.length / 2 ^ (8 * (7 - k)) % 256) = UInt8.ofNat (8 * b.length / 2 ^ (8 * (7 - k)) % 256) := fun k hk => by
    have h1 := padL_tail a (m := padN a.length - 8 + k) hk rfl
    have h2 := padL_tail b (m := padN a.length - 8 + k) hk (by rw [hl])
    rw [h, h2] at h1
    injection h1 with h1
    exact h1.symm
  have k7 := u8_ofNat_inj (by omega) (by omega) (key 7 (by omega))
  have k6 := u8_ofNat_inj (by omega) (by omega) (key 6 (by omega))
  rw [show (2 : Nat) ^ (8 * (7 - 7)) = 1 from rfl, Nat.div_one, Nat.div_one] at k7
  rw [show (2 : Nat) ^ (8 * (7 - 6)) = 256 from rfl] at k6
  have hlen : a.length = b.length := by omega
  have h3 := congrArg (List.take a.length) h
  rw [padL, padP_take, padL, hlen, padP_take] at h3
  exact h3
set_option maxHeartbeats 1600000 in
theorem shaApart_any (w : World) (A : Option Addr) (n c : Nat) (l : List UInt8) (hl : l.length = n) (_ : n ≤ c) (_ : c ≤ maxLen) (hr : Rd w.heap.size w A (bv l))
    (A' : Option Addr) (n' c' : Nat) (l' : List UInt8) (hl' : l'.length = n') (_ : n' ≤ c') (_ : c' ≤ maxLen) (hr' : Rd w.heap.size w A' (bv l')) :
    Calls Try.prog 4 #[.slice A n c, .slice A' n' c'] w (RetB (.bool true) w) := by
  have HL := Lib.hid hl
  have HR := Lib.hid hr
  have HL' := Lib.hid hl'
  have HR' := Lib.hid hr'
  clear hl hr hl' hr'
  by_cases hn : n ≤ 1000
  · by_cases hn' : n' ≤ 1000
    · by_cases hll : l = l'
      · have HE := Lib.hid (decide_eq_true hll)
        clear hll
        go_enter Try.func4, Try.ntmps4
        go_wp2_with fail
        refine (awake_any _).mono ?_
        rintro e w1 ⟨rfl, bw1⟩
        have H1 := Lib.hid bw1
        clear bw1
        go_wp2_with fail
        refine (same_r (b := true) HE.out HL.out HL'.out (HR.out.below H1.out) (HR'.out.below H1.out) (by unfold maxLen; omega) (by unfold maxLen; omega)).mono ?_
        rintro e w2 ⟨rfl, bw2⟩
        have H2 := Lib.hid (H1.out.trans (bw2.mono H1.out.size))
        clear bw2 H1
        go_wp2_with fail
        go_ret
        exact ⟨rfl, H2.out⟩
      · have HE := Lib.hid (decide_eq_false hll)
        have HF : Hid (decide (padL l = padL l') = false) := decide_eq_false fun h => hll (padL_inj (by rw [HL.out]; exact hn) (by rw [HL'.out]; exact hn') h)
        clear hll
        go_enter Try.func4, Try.ntmps4
        go_wp2_with fail
        refine (awake_any _).mono ?_
        rintro e w1 ⟨rfl, bw1⟩
        have H1 := Lib.hid bw1
        clear bw1
        go_wp2_with fail
        refine (same_r (b := false) HE.out HL.out HL'.out (HR.out.below H1.out) (HR'.out.below H1.out) (by unfold maxLen; omega) (by unfold maxLen; omega)).mono ?_
        rintro e w2 ⟨rfl, bw2⟩
        have H2 := Lib.hid (H1.out.trans (bw2.mono H1.out.size))
        clear bw2 H1
        go_wp2_with fail
        refine (pad_any A n c l _ HL.out H2.out.size (HR.out.below H2.out) (by omega)).mono ?_
        rintro e w3 ⟨A3, n3, c3, rfl, ho3, bw3⟩
        have hl3 : n3 = padN n := by rw [← own_blen ho3, padL_length, HL.out]
        have O3 := Lib.hid ho3
        have H3 := Lib.hid (H2.out.trans (bw3.mono H2.out.size))
        have hp3 : (n3 : Int) % 64 = 0 := by rw [hl3]; unfold padN; omega
        have hq3 : 64 ≤ n3 := by rw [hl3]; unfold padN; omega
        clear ho3 bw3 hl3 H2
        go_wp2_with fail
        refine (pad_any A' n' c' l' _ HL'.out H3.out.size (HR'.out.below H3.out) (by omega)).mono ?_
        rintro e w4 ⟨A4, n4, c4, rfl, ho4, bw4⟩
        have hl4 : n4 = padN n' := by rw [← own_blen ho4, padL_length, HL'.out]
        have O4 := Lib.hid ho4
        have P3 := Lib.hid (own_below O3.out bw4)
        have H4 := Lib.hid (H3.out.trans (bw4.mono H3.out.size))
        have hp4 : (n4 : Int) % 64 = 0 := by rw [hl4]; unfold padN; omega
        have hq4 : 64 ≤ n4 := by rw [hl4]; unfold padN; omega
        clear ho4 bw4 hl4 H3 O3
        go_wp2_with fail
        all_goals
          refine (same_r (b := false) HF.out (own_blen P3.out) (own_blen O4.out) (Rd.own P3.out) (Rd.own O4.out) (own_max P3.out) (own_max O4.out)).mono ?_
          rintro e w5 ⟨rfl, bw5⟩
          have H5 := Lib.hid (H4.out.trans (bw5.mono H4.out.size))
          clear bw5 H4 P3 O4
          go_wp2_with fail
          go_ret
          exact ⟨rfl, H5.out⟩
    · have h1 : (n : Int) ≤ 1000 := by omega
      have h2 : ¬ (n' : Int) ≤ 1000 := by omega
      have h3 : decide (1000 < (n' : Int)) = true := by simp; omega
      have h4 : decide (1000 < (n : Int)) = false := by simp; omega
      go_enter Try.func4, Try.ntmps4
      go_wp2_with fail
      refine (awake_any _).mono ?_
      rintro e w1 ⟨rfl, bw1⟩
      have H1 := Lib.hid bw1
      clear bw1
      go_wp2_with fail
      go_ret
      exact ⟨rfl, H1.out⟩
  · have h1 : ¬ (n : Int) ≤ 1000 := by omega
    have h3 : decide (1000 < (n : Int)) = true := by simp; omega
    go_enter Try.func4, Try.ntmps4
    go_wp2_with fail
    refine (awake_any _).mono ?_
    rintro e w1 ⟨rfl, bw1⟩
    have H1 := Lib.hid bw1
    clear bw1
    go_wp2_with fail
    go_ret
    exact ⟨rfl, H1.out⟩
theorem shaApart_own : ownKnob Try.prog.godebug = none := by kernel_rfl
theorem shaApart_laid : laidOutB Try.prog = true := by kernel_rfl

set_option maxRecDepth 100000 in
theorem shaApart_lifted (os : Os) (started : os.Started) (H : Type) (enc : TypeId × Value → H) :
    ReturnsInHanded {} Try.checked os 4 .any (Rows.shaApartSpec.pre6 enc Try.prog Try.f4 Rows.shaApartRow.domain false) (Rows.shaApartSpec.post enc Try.prog Try.f4 false true false false) := by
  refine returnsInHanded_of_change (C := Try.checked) shaApart_own started (by kernel_rfl) Try.func4
    (ChangeSpec.witness6 (enc := enc) (C := Try.checked) false ⟨#[], #[.slice none 0 0, .slice none 0 0], []⟩ 8 (by kernel_rfl) (by kernel_rfl) (by kernel_rfl) (by kernel_rfl)) ?_
  intro W base args ds gs before hval0 hW _ _
  have hval : ∀ (j : Nat) t v, Try.f4.params[j]? = some t → args[j]? = some v → Value.okWide Try.prog W .any base t v := hval0
  have hW' := hW
  obtain ⟨p, q, hA0, hV, rfl, hfz, hnd⟩ := hW
  have hA : DataW.TrodAll enc Try.prog W 0 (fun _ => true) true Try.f4.params.toList args.toList ds p := hA0
  rw [Try.params4] at hA hval
  obtain ⟨v0, vs0, d0, ds0, p0, q0, hargs, rfl, rfl, h0, r0⟩ := trodAll_cons hA
  obtain ⟨v1, vs1, d1, ds1, p1, q1, rfl, rfl, rfl, h1, r1⟩ := trodAll_cons r0
  obtain ⟨rfl, rfl, rfl⟩ := trodAll_nil r1
  obtain rfl : args = #[v0, v1] := by cases args; simp_all
  obtain ⟨rfl, rfl⟩ := trodVars_none hV
  obtain ⟨a0, n0, c0, rfl⟩ := okWide_slice Try.underlying22 (hval 0 22 v0 rfl rfl)
  have lt0 : ∀ x ∈ p0, x.block < W.heap.size := by obtain ⟨m, hm⟩ := h0; exact DataW.trod_lt m _ _ _ hm
  obtain ⟨l0, hl0, hc0, hm0, hr0⟩ := open_bytes Try.underlying22 Try.underlying5 (by kernel_rfl) h0
  obtain ⟨a1, n1, c1, rfl⟩ := okWide_slice Try.underlying22 (hval 1 22 v1 rfl rfl)
  have lt1 : ∀ x ∈ p1, x.block < W.heap.size := by obtain ⟨m, hm⟩ := h1; exact DataW.trod_lt m _ _ _ hm
  obtain ⟨l1, hl1, hc1, hm1, hr1⟩ := open_bytes Try.underlying22 Try.underlying5 (by kernel_rfl) h1
  clear hA0 hval0
  refine (shaApart_any W a0 n0 c0 l0 hl0 hc0 hm0 hr0 a1 n1 c1 l1 hl1 hc1 hm1 hr1).mono fun e W' ⟨he, bel⟩ => ?_
  subst he
  exact ⟨_, rfl, _, _, _, [], _, [], hW', trodAll_mk1 (shut_bool Try.underlying4 _), (trodAll_cons_mk (Below.trod shaApart_laid (by kernel_rfl) (of_decide_eq_true (by kernel_rfl)) h0 bel lt0) (trodAll_cons_mk (Below.trod shaApart_laid (by kernel_rfl) (of_decide_eq_true (by kernel_rfl)) h1 bel lt1) trodAll_mk0)), rfl, bel.frame _, fun h => by cases h⟩

theorem shaApart_holds : Rows.ShaApartSaid :=
  OpenClaim.holds_of_wide 4 Try.f4 rfl rfl rfl rfl rfl rfl rfl ⟨rfl, rfl, rfl, rfl, rfl⟩ rfl rfl rfl rfl rfl (by kernel_rfl) Try.func4 (by kernel_rfl)
    (of_decide_eq_true (by kernel_rfl)) (by unfold Func.isWrapper; rw [if_neg (of_decide_eq_false (by kernel_rfl))]; exact ⟨rfl, rfl⟩)
    (fun os started H enc _ => shaApart_lifted os started H enc)

#print axioms shaApart_holds

end Go.Proofs.Ytgmoccglldpmdaa
