/-
  ShaBlocks holds: of every text the law returns true, and its argument reads as it did.
-/
import Derived.Test.YtgmoccglldpmdaaShPadL
import Derived.Test.YtgmoccglldpmdaaShAwake
import Derived.Test.YtgmoccglldpmdaaShSame
import Derived.Test.YtgmoccglldpmdaaOpen
import Derived.Test.YtgmoccglldpmdaaOpenA
import Derived.ProofKit
import Derived.OpenShut
import Derived.ShutString
import Derived.ChangeOld
namespace Go.Proofs.Ytgmoccglldpmdaa
open Go.RowKit Go.ChangeShapes Go.WideShapes Go.ChangeAt
theorem or_byte (Z b : Nat) (hb : b < 256) : Z * 256 ||| b = Z * 256 + b := by
  have := Nat.shiftLeft_add_eq_or_of_lt (show b < 2 ^ 8 from hb) Z
  rw [Nat.shiftLeft_eq] at this
  exact this.symm
theorem i64_or_nat (a b : Nat) (ha : a < 4611686018427387904) (hb : b < 4611686018427387904) : bits .or .i64 (a : Int) (b : Int) = ((a ||| b : Nat) : Int) := by
  have hx : a ||| b < 2 ^ 62 := Nat.or_lt_two_pow (by omega) (by omega)
  show IntKind.i64.wrap ((BitVec.ofInt 64 (a : Int) ||| BitVec.ofInt 64 (b : Int)).toNat : Int) = _
  have e : ∀ x : Nat, x < 4611686018427387904 → (BitVec.ofInt 64 (x : Int)).toNat = x := fun x hx => by
    rw [BitVec.ofInt_natCast, BitVec.toNat_ofNat]; exact Nat.mod_eq_of_lt (by omega)
  rw [BitVec.toNat_or, e a ha, e b hb, IntWalk.i64_in _ (by omega)]
theorem or_val (Z b : Nat) (hZ : Z ≤ 1000000) (hb : b < 256) : bits .or .i64 ((Z : Int) * 256) (b : Int) = ((Z * 256 + b : Nat) : Int) := by
  have e : ((Z : Int) * 256) = ((Z * 256 : Nat) : Int) := by omega
  rw [e, i64_or_nat _ _ (by omega) (by omega), or_byte Z b hb]
theorem num_step {M k Z : Nat} (hk : k < 8) (hZ : Z = M / 2 ^ (8 * (8 - k))) : Z * 256 + M / 2 ^ (8 * (7 - k)) % 256 = M / 2 ^ (8 * (8 - (k + 1))) := by
  have e : M / 2 ^ (8 * (8 - k)) = M / 2 ^ (8 * (7 - k)) / 256 := by
    rw [Nat.div_div_eq_div_mul]
    congr 1
    rw [show 8 * (8 - k) = 8 * (7 - k) + 8 by omega, Nat.pow_add]
  rw [hZ, e, show 8 - (k + 1) = 7 - k by omega]
  omega
set_option maxHeartbeats 800000 in
theorem shaBlocks_any (w : World) (A : Option Addr) (n c : Nat) (l : List UInt8) (hl : l.length = n) (_ : n ≤ c) (_ : c ≤ maxLen) (hr : Rd w.heap.size w A (bv l)) :
    Calls Try.prog 11 #[.slice A n c] w (RetB (.bool true) w) := by

  have HL := Lib.hid hl
  have HR := Lib.hid hr
  clear hl hr
  by_cases hn : n ≤ 2000
  · go_enter Try.func11, Try.ntmps11
    go_wp2_with fail
    refine (awake_any _).mono ?_
    rintro e w1 ⟨rfl, bw1⟩
    have H1 := Lib.hid bw1
    clear bw1
    go_wp2_with fail
    refine (pad_any A n c l _ HL.out H1.out.size (HR.out.below H1.out) (by omega)).mono ?_
    rintro e w2 ⟨A2, n2, c2, rfl, ho2, bw2⟩
    have hl2 : (padL l).length = n2 := own_blen ho2
    have hn2 : n2 = padN n := by rw [← hl2, padL_length, HL.out]
    have hT : n + 9 ≤ n2 ∧ n2 ≤ n + 72 := by rw [hn2]; unfold padN; omega
    obtain ⟨g, rfl, _, hnc, hcm⟩ := own_addr ho2 (by omega)
    have hr2 := Rd.own ho2
    have e1 : ((n : Int) + 9 + 63) / 64 * 64 = (n2 : Int) := by rw [hn2]; unfold padN; omega
    obtain ⟨t8, ht8⟩ : ∃ t8 : Nat, t8 = n2 - 8 := ⟨_, rfl⟩
    have et8 : (n2 : Int) - 8 = (t8 : Int) := by omega
    have t80 : (0 : Int) ≤ (t8 : Int) := by omega
    have t81 : (t8 : Int) ≤ (n2 : Int) := by omega
    have t82 : ¬ c2 = t8 := by omega
    have t83 : (t8 : Int) ≤ (c2 : Int) := by omega
    have t84 : n2 - t8 = 8 := by omega
    have H2 := Lib.hid ((HR.out.below H1.out).below (bw2.mono H1.out.size))
    have B2 := Lib.hid (H1.out.trans (bw2.mono H1.out.size))
    have R2 := Lib.hid hr2
    have HN2 := Lib.hid hn2
    have HL2 := Lib.hid hl2
    have H8 := Lib.hid ht8
    have H84 := Lib.hid t84
    clear hr2 hn2 hl2 ht8 ho2 bw2 H1 HR t84
    unfold maxLen at hcm
    go_wp2_with fail
    go_loop [4, 6, 23] (fun v _ i => ∃ k z : Nat, k ≤ 8 ∧ i = .int .i64 k ∧ v = .int .i64 (z : Int) ∧ Hid (z = 8 * n / 2 ^ (8 * (8 - k)))) (fun _ _ i => 8 - (intOf i).toNat)
    case atStart => exact ⟨0, 0, by omega, rfl, rfl, by show 0 = _; rw [Nat.div_eq_of_lt]; exact Nat.lt_of_lt_of_le (show 8 * n < 2 ^ 64 by omega) (Nat.le_refl _)⟩
    case round =>
      obtain ⟨k, z, hk, rfl, rfl, HZ⟩ := hrel
      have hz : z ≤ 16000 := by rw [HZ.out]; exact Nat.le_trans (Nat.div_le_self _ _) (by omega)
      by_cases hlt : k < 8
      · have hlt' : (k : Int) < ((n2 - t8 : Nat) : Int) := by have := H84.out; omega
        have k0 : (0 : Int) ≤ (k : Int) := by omega
        have hcell : w2.cell? ⟨g, t8 + k, none⟩ = some (.int .u8 ((UInt8.ofNat (8 * n / 2 ^ (8 * (7 - k)) % 256)).toNat : Int)) := by
          have h := padL_tail l (m := t8 + k) hlt (by rw [H8.out, HN2.out, HL.out])
          rw [HL.out] at h
          obtain ⟨ad, e, _, hc⟩ := R2.out (t8 + k) (.int .u8 ((UInt8.ofNat (8 * n / 2 ^ (8 * (7 - k)) % 256)).toNat : Int)) (by rw [bv, List.getElem?_map, h]; rfl)
          injection e with e
          subst e
          rw [add_head] at hc
          exact hc
        obtain ⟨b, hb⟩ : ∃ b : Nat, b = 8 * n / 2 ^ (8 * (7 - k)) % 256 := ⟨_, rfl⟩
        have hbb : ((UInt8.ofNat (8 * n / 2 ^ (8 * (7 - k)) % 256)).toNat : Int) = (b : Int) := by rw [hb]; simp
        rw [hbb] at hcell
        have hb2 : b < 256 := by omega
        have hor := or_val z b (by omega) hb2
        have z0 : (0 : Int) ≤ (z : Int) := by omega
        have HB := Lib.hid hb
        clear hb hbb
        go_wp2
        go_round
        case rel => exact ⟨k + 1, z * 256 + b, by omega, by go_num, rfl, by show _ = _; rw [HB.out]; exact num_step hlt HZ.out⟩
        case measure => simp [intOf]; omega
      · have hlt' : ¬ (k : Int) < ((n2 - t8 : Nat) : Int) := by have := H84.out; omega
        have hz8 : (z : Int) = 8 * (n : Int) := by
          have h := HZ.out
          rw [show 8 - k = 0 by omega, Nat.mul_zero, Nat.pow_zero, Nat.div_one] at h
          omega
        have hmark : w2.cell? ⟨g, n, none⟩ = some (.int .u8 128) := by
          have h := padP_mark l l.length
          rw [HL.out] at h
          obtain ⟨ad, e, _, hc⟩ := R2.out n (.int .u8 128) (by
            have hlen : n < (padL l).length := by rw [HL2.out]; omega
            rw [bv_get hlen]
            rw [List.getD_eq_getElem?_getD, ← HL.out, ← padL, List.getElem?_eq_getElem (by rw [HL.out]; exact hlen)] at h
            simp only [HL.out, Option.getD_some] at h
            rw [h]; rfl)
          injection e with e
          subst e
          rw [add_head] at hc
          exact hc
        have n0 : (0 : Int) ≤ (n : Int) := by omega
        have n1 : (n : Int) < (n2 : Int) := by omega
        have n3 : (n : Int) ≤ (c2 : Int) := by omega
        have RT : Hid (Rd w2.heap.size w2 (some ⟨g, 0, none⟩) (bv l)) := by
          have h := R2.out.take n
          have ht := padP_take l l.length
          rw [HL.out] at ht
          rw [padL, HL.out, ht] at h
          exact h
        go_wp2_with fail
        refine (same_r (b := true) (decide_eq_true rfl) HL.out HL.out RT.out H2.out (by unfold maxLen; omega) (by unfold maxLen; omega)).mono ?_
        rintro e w3 ⟨rfl, bw3⟩
        have hmark' : w3.cell? ⟨g, n, none⟩ = some (.int .u8 128) := by
          have hlt : g < w2.heap.size := by
            obtain ⟨ad, e, hb, _⟩ := R2.out 0 _ (List.getElem?_eq_getElem (by rw [bv_length, HL2.out]; omega))
            injection e with e
            subst e
            exact hb
          rw [bw3.cell hlt]; exact hmark
        have B3 := Lib.hid (B2.out.trans (bw3.mono B2.out.size))
        clear bw3 hmark
        go_wp2_with fail
        go_ret
        exact ⟨rfl, B3.out⟩
  · have hn' : ¬ (n : Int) ≤ 2000 := by omega
    go_enter Try.func11, Try.ntmps11
    go_wp2_with fail
    refine (awake_any _).mono ?_
    rintro e w1 ⟨rfl, bw1⟩
    have H1 := Lib.hid bw1
    clear bw1
    go_wp2_with fail
    go_ret
    exact ⟨rfl, H1.out⟩
theorem shaBlocks_own : ownKnob Try.prog.godebug = none := by kernel_rfl
theorem shaBlocks_laid : laidOutB Try.prog = true := by kernel_rfl

set_option maxRecDepth 100000 in
theorem shaBlocks_lifted (os : Os) (started : os.Started) (H : Type) (enc : TypeId × Value → H) :
    ReturnsInHanded {} Try.checked os 11 .any (Rows.shaBlocksSpec.pre6 enc Try.prog Try.f11 Rows.shaBlocksRow.domain false) (Rows.shaBlocksSpec.post enc Try.prog Try.f11 false true false false) := by
  refine returnsInHanded_of_change (C := Try.checked) shaBlocks_own started (by kernel_rfl) Try.func11
    (ChangeSpec.witness6 (enc := enc) (C := Try.checked) false ⟨#[], #[.slice none 0 0], []⟩ 8 (by kernel_rfl) (by kernel_rfl) (by kernel_rfl) (by kernel_rfl)) ?_
  intro W base args ds gs before hval0 hW _ _
  have hval : ∀ (j : Nat) t v, Try.f11.params[j]? = some t → args[j]? = some v → Value.okWide Try.prog W .any base t v := hval0
  have hW' := hW
  obtain ⟨p, q, hA0, hV, rfl, hfz, hnd⟩ := hW
  have hA : DataW.TrodAll enc Try.prog W 0 (fun _ => true) true Try.f11.params.toList args.toList ds p := hA0
  rw [Try.params11] at hA hval
  obtain ⟨v0, vs0, d0, ds0, p0, q0, hargs, rfl, rfl, h0, r0⟩ := trodAll_cons hA
  obtain ⟨rfl, rfl, rfl⟩ := trodAll_nil r0
  obtain rfl : args = #[v0] := by cases args; simp_all
  obtain ⟨rfl, rfl⟩ := trodVars_none hV
  obtain ⟨a0, n0, c0, rfl⟩ := okWide_slice Try.underlying22 (hval 0 22 v0 rfl rfl)
  have lt0 : ∀ x ∈ p0, x.block < W.heap.size := by obtain ⟨m, hm⟩ := h0; exact DataW.trod_lt m _ _ _ hm
  obtain ⟨l0, hl0, hc0, hm0, hr0⟩ := open_bytes Try.underlying22 Try.underlying5 (by kernel_rfl) h0
  clear hA0 hval0
  refine (shaBlocks_any W a0 n0 c0 l0 hl0 hc0 hm0 hr0).mono fun e W' ⟨he, bel⟩ => ?_
  subst he
  exact ⟨_, rfl, _, _, _, [], _, [], hW', trodAll_mk1 (shut_bool Try.underlying4 _), (trodAll_cons_mk (Below.trod shaBlocks_laid (by kernel_rfl) (of_decide_eq_true (by kernel_rfl)) h0 bel lt0) trodAll_mk0), rfl, bel.frame _, fun h => by cases h⟩

theorem shaBlocks_holds : Rows.ShaBlocksSaid :=
  OpenClaim.holds_of_wide 11 Try.f11 rfl rfl rfl rfl rfl rfl rfl ⟨rfl, rfl, rfl, rfl, rfl⟩ rfl rfl rfl rfl rfl (by kernel_rfl) Try.func11 (by kernel_rfl)
    (of_decide_eq_true (by kernel_rfl)) (by unfold Func.isWrapper; rw [if_neg (of_decide_eq_false (by kernel_rfl))]; exact ⟨rfl, rfl⟩)
    (fun os started H enc _ => shaBlocks_lifted os started H enc)

#print axioms shaBlocks_holds

end Go.Proofs.Ytgmoccglldpmdaa
