/-
  WireDigits holds: for every number and every two counts the law returns true and its arguments read as they did.
-/
import Derived.Test.YtafnpgjioehnjaaAwake
import Derived.Test.YtafnpgjioehnjaaGet
import Derived.Deep.RegionHeld3
import Derived.Deep.DrawnRows
import Derived.Test.YtafnpgjioehnjaaOpen
import Derived.ProofKit
import Derived.OpenShut
import Derived.ShutString
import Derived.ChangeOld
namespace Go.Proofs.Ytafnpgjioehnjaa
open Go.RowKit Go.ChangeShapes Go.WideShapes Go.ChangeAt

theorem shr_nat (N D : Nat) : (N : Int) / 2 ^ D = ((N / 2 ^ D : Nat) : Int) := by rw [Int.natCast_ediv, Int.natCast_pow]; rfl
theorem U64.div {n : Nat} (h : U64 n) (k : Nat) : U64 (n / k) := Nat.lt_of_le_of_lt (Nat.div_le_self _ _) h

theorem below_of_drew {B : Nat} {w w' : World} (h : Below B w.drew w') : Below B w w' := ⟨h.os, h.tape, h.output, h.size, h.block⟩
theorem putL_upper {N K C J D : Nat} (hJ : J = K - C) (hD : D = 8 * C) (hC : C ≤ K) : putL (N / 2 ^ D) J = (putL N K).take J := by
  apply List.ext_getElem?
  intro i
  by_cases hi : i < J
  · rw [putL_get hi, List.getElem?_take, if_pos hi, putL_get (by omega), Nat.div_div_eq_div_mul, ← Nat.pow_add]
    congr 5
    omega
  · rw [List.getElem?_eq_none (by rw [putL_length]; omega), List.getElem?_take, if_neg hi]
theorem putL_lower {N K C J : Nat} (hJ : J = K - C) (hC : C ≤ K) : putL N C = (putL N K).drop J := by
  apply List.ext_getElem?
  intro i
  rw [List.getElem?_drop]
  by_cases hi : i < C
  · rw [putL_get hi, putL_get (by omega)]
    congr 5
    omega
  · rw [List.getElem?_eq_none (by rw [putL_length]; omega), List.getElem?_eq_none (by rw [putL_length]; omega)]

theorem getL_from (b : List UInt8) : ∀ x : Nat, b.foldl (fun n c => n * 256 + c.toNat) x = x * 256 ^ b.length + getL b := by
  unfold getL
  induction b with
  | nil => intro x; simp
  | cons c b ih =>
    intro x
    rw [List.foldl_cons, List.foldl_cons, ih (x * 256 + c.toNat), ih (0 * 256 + c.toNat), List.length_cons, Nat.pow_succ, Nat.add_mul, Nat.zero_mul, Nat.zero_add, Nat.mul_assoc x, Nat.mul_comm 256, Nat.add_assoc]
theorem getL_append (a b : List UInt8) : getL (a ++ b) = getL a * 256 ^ b.length + getL b := by
  rw [getL, List.foldl_append, getL_from]; rfl
theorem get_join {l : List UInt8} {J D : Nat} (h8 : l.length ≤ 8) (hD : D = 8 * (l.length - J)) :
    ((getL l : Int) == bits BinOp.or IntKind.u64 (IntKind.u64.wrap ((getL (l.take J) : Int) * 2 ^ D)) (getL (l.drop J) : Int)) = true := by
  have hp : 256 ^ (l.drop J).length = 2 ^ D := by
    rw [hD, Nat.pow_mul, List.length_drop]
  have e : getL l = getL (l.take J) * 2 ^ D + getL (l.drop J) := by
    rw [← hp, ← getL_append, List.take_append_drop]
  have hlt : getL (l.drop J) < 2 ^ D := by rw [← hp]; exact getL_lt _
  have hs : getL l < 18446744073709551616 := by
    have h1 := getL_lt l
    have h2 : 256 ^ l.length ≤ 256 ^ 8 := Nat.pow_le_pow_right (by omega) h8
    exact Nat.lt_of_lt_of_le h1 h2
  generalize getL (l.take J) = hi at *
  generalize getL (l.drop J) = lo at *
  have hm : (hi : Int) * 2 ^ D = ((hi * 2 ^ D : Nat) : Int) := by rw [Int.natCast_mul, Int.natCast_pow]; rfl
  have h1 : hi * 2 ^ D < 18446744073709551616 := Nat.lt_of_le_of_lt (by rw [e]; exact Nat.le_add_right _ _) hs
  have h2 : lo < 18446744073709551616 := Nat.lt_of_le_of_lt (by rw [e]; exact Nat.le_add_left _ _) hs
  have hw : IntKind.u64.wrap ((hi * 2 ^ D : Nat) : Int) = ((hi * 2 ^ D : Nat) : Int) := U64.wrap h1
  rw [hm, hw, u64_or_nat _ _ h1 h2, beq_iff_eq]
  have e2 : hi * 2 ^ D ||| lo = hi * 2 ^ D + lo := by
    have e3 : hi * 2 ^ D = hi <<< D := by rw [Nat.shiftLeft_eq]
    rw [e3, ← Nat.shiftLeft_add_eq_or_of_lt hlt]
  rw [e2, ← e]

attribute [local go_sem ↓] Go.wp_at_zero Go.wp_at_succ

set_option maxHeartbeats 800000 in
theorem wireDigits_any (w : World) (n : Int) (hn : 0 ≤ n ∧ n ≤ 18446744073709551615) (size : Int) (hs : 0 ≤ size ∧ size ≤ 255) (cut : Int) (hcu : 0 ≤ cut ∧ cut ≤ 255) :
    Calls Try.prog 9 #[.int .u64 n, .int .u8 size, .int .u8 cut] w (RetB (.bool true) w) := by
  obtain ⟨N, rfl⟩ := Int.eq_ofNat_of_zero_le hn.1
  have HN : U64 N := U64.mk (by omega)
  clear hn
  obtain ⟨K, hK⟩ : ∃ K : Nat, 2 + size % 7 = (K : Int) := ⟨(2 + size % 7).toNat, by omega⟩
  have hK2 : 2 ≤ K := by omega
  have hK8 : K ≤ 8 := by omega
  obtain ⟨C, hC⟩ : ∃ C : Nat, 1 + cut % ((K : Int) - 1) = (C : Int) := ⟨(1 + cut % ((K : Int) - 1)).toNat, by have := Int.emod_nonneg cut (show (K : Int) - 1 ≠ 0 by omega); omega⟩
  have hC1 : 1 ≤ C := by have := Int.emod_nonneg cut (show (K : Int) - 1 ≠ 0 by omega); omega
  have hCK : C < K := by have := Int.emod_lt_of_pos cut (show (0 : Int) < (K : Int) - 1 by omega); omega
  obtain ⟨s0, s1⟩ := hs
  obtain ⟨u0, u1⟩ := hcu
  go_enter Try.func9, Try.ntmps9
  go_wp2_with fail
  refine (awake_any _).mono ?_
  rintro e w1 ⟨rfl, hb1⟩
  go_wp2_with fail
  refine (wput_as _ rfl rfl HN (by omega) hK8).mono ?_
  rintro e w2 ⟨A2, n2, c2, rfl, ho2, hb2⟩
  obtain rfl : K = n2 := (putL_length N K).symm.trans (own_blen ho2)
  obtain ⟨g, rfl, hg, hc2, hcm⟩ := own_addr ho2 (by omega)
  have b2 : Below w.heap.size w w2 := hb1.trans (hb2.mono hb1.size)
  unfold maxLen at hcm
  clear hb1 hb2 hK hC
  obtain ⟨J, hJ⟩ : ∃ J : Nat, J = K - C := ⟨_, rfl⟩
  obtain ⟨D, hD⟩ : ∃ D : Nat, D = 8 * C := ⟨_, rfl⟩
  have j1 : (1 : Int) ≤ (J : Int) := by omega
  have j2 : (J : Int) ≤ (K : Int) := by omega
  have j3 : (J : Int) < (c2 : Int) := by omega
  have j4 : J < c2 := by omega
  have j5 : J ≤ c2 := by omega
  have j6 : (J : Int) ≤ (c2 : Int) := by omega
  have j7 : (0 : Int) ≤ (J : Int) := by omega
  have j8 : J ≤ K := by omega
  have j9 : J < K := by omega
  have k2 : (K : Int) ≤ (c2 : Int) := by omega
  have d0 : (0 : Int) ≤ (D : Int) := by omega
  have wD : IntKind.i64.wrap (8 * (C : Int)) = (D : Int) := by rw [IntWalk.i64_in _ (by omega)]; omega
  have wJ : IntKind.i64.wrap ((K : Int) - (C : Int)) = (J : Int) := by rw [IntWalk.i64_in _ (by omega)]; omega
  have mD : min D 64 = D := by omega
  have HJm : J ≤ maxLen := by unfold maxLen; omega
  have HT1 := Lib.hid (show ((putL N K).take J).length = J by simp [putL_length]; omega)
  have HD1 := Lib.hid (putL_upper (N := N) (K := K) hJ hD (by omega))
  have HJk : K - J ≤ maxLen := by unfold maxLen; omega
  have HT2 := Lib.hid (show ((putL N K).drop J).length = K - J by simp [putL_length])
  have HD2 := Lib.hid (putL_lower (N := N) (K := K) hJ (by omega))
  have HDr := Lib.hid (show Rd w2.heap.size w2 (some ⟨g, J, none⟩) (bv ((putL N K).drop J)) by have h := (Rd.own ho2).drop J; rwa [add_head] at h)
  have HJ := Lib.hid hJ
  have HD := Lib.hid hD
  clear hJ hD
  go_wp2_with fail
  go_region_held3 (fun _ => True) (trivial) (first
    | (go_at_call 15; (with_reducible refine (wput_as (N := N / 2 ^ D) (K := J) _ ?_ rfl ?_ ?_ ?_).mono ?_); exact shr_nat N D; exact HN.div _; omega; omega; rintro e w3 ⟨A3, n3, c3, rfl, ho3, hb3'⟩; have hb3 : Below w2.heap.size w2 w3 := below_of_drew hb3'; clear hb3')
    | (go_at_call 14; (with_reducible refine (same_r (b := true) (xs := putL (N / 2 ^ D) J) (ys := (putL N K).take J) ?_ ?_ ?_ (Rd.own ho3) (((Rd.own ho2).take J).below hb3) ?_ ?_).mono ?_); exact decide_eq_true HD1.out; exact own_blen ho3; exact HT1.out; exact own_max ho3; exact HJm; rintro e w4 ⟨rfl, hb4⟩; clear ho3)
    | (go_at_call 15; (with_reducible refine (wput_as (N := N) (K := C) _ rfl rfl HN ?_ ?_).mono ?_); omega; omega; rintro e w5 ⟨A5, n5, c5, rfl, ho5, hb5⟩)
    | (go_at_call 14; (with_reducible refine (same_r (b := true) (xs := putL N C) (ys := (putL N K).drop J) ?_ ?_ ?_ (Rd.own ho5) (HDr.out.below (hb3.trans ((hb4.mono hb3.size).trans (hb5.mono (Nat.le_trans hb3.size hb4.size))))) ?_ ?_).mono ?_); exact decide_eq_true HD2.out; exact own_blen ho5; exact HT2.out; exact own_max ho5; exact HJk; rintro e w6 ⟨rfl, hb6⟩; clear ho5))
  have b6 : Below w2.heap.size w2 w6 := hb3.trans ((hb4.mono hb3.size).trans ((hb5.mono (Nat.le_trans hb3.size hb4.size)).trans (hb6.mono (Nat.le_trans hb3.size (Nat.le_trans hb4.size hb5.size)))))
  have bw : Below w.heap.size w w6 := b2.trans (b6.mono b2.size)
  clear hb3 hb4 hb5 hb6 b2
  have wJ' : (K : Int) - (C : Int) = (J : Int) := by have h := HJ.out; omega
  go_wp2_with fail
  refine (wget_in _ _ _ ((putL N K).take J) _ HT1.out (((Rd.own ho2).take J).below b6) (by omega) (by omega)).mono ?_
  rintro e w7 ⟨rfl, rfl⟩
  go_wp2_with fail
  refine (wget_in _ _ _ ((putL N K).drop J) _ HT2.out (HDr.out.below b6) (by omega) (by omega)).mono ?_
  rintro e w7 ⟨rfl, rfl⟩
  go_wp2_with fail
  refine (wget_in _ _ _ (putL N K) _ (putL_length N K) ((Rd.own ho2).below b6) (by omega) (by omega)).mono ?_
  rintro e w7 ⟨rfl, rfl⟩
  have HE := Lib.hid (get_join (l := putL N K) (J := J) (D := D) (by rw [putL_length]; exact hK8) (by rw [putL_length, HD.out, HJ.out]; omega))
  go_wp2_with fail
  go_ret
  exact ⟨ret_bool HE.out, bw⟩
theorem wireDigits_own : ownKnob Try.prog.godebug = none := by kernel_rfl
theorem wireDigits_laid : laidOutB Try.prog = true := by kernel_rfl

set_option maxRecDepth 100000 in
theorem wireDigits_lifted (os : Os) (started : os.Started) (H : Type) (enc : TypeId × Value → H) :
    ReturnsInHanded {} Try.checked os 9 .any (Rows.wireDigitsSpec.pre6 enc Try.prog Try.f9 Rows.wireDigitsRow.domain false) (Rows.wireDigitsSpec.post enc Try.prog Try.f9 false true false false) := by
  refine returnsInHanded_of_change (C := Try.checked) wireDigits_own started (by kernel_rfl) Try.func9
    (ChangeSpec.witness6 (enc := enc) (C := Try.checked) false ⟨#[], #[.int .u64 0, .int .u8 0, .int .u8 0], []⟩ 8 (by kernel_rfl) (by kernel_rfl) (by kernel_rfl) (by kernel_rfl)) ?_
  intro W base args ds gs before hval0 hW _ _
  have hval : ∀ (j : Nat) t v, Try.f9.params[j]? = some t → args[j]? = some v → Value.okWide Try.prog W .any base t v := hval0
  have hW' := hW
  obtain ⟨p, q, hA0, hV, rfl, hfz, hnd⟩ := hW
  have hA : DataW.TrodAll enc Try.prog W 0 (fun _ => true) true Try.f9.params.toList args.toList ds p := hA0
  rw [Try.params9] at hA hval
  obtain ⟨v0, vs0, d0, ds0, p0, q0, hargs, rfl, rfl, h0, r0⟩ := trodAll_cons hA
  obtain ⟨v1, vs1, d1, ds1, p1, q1, rfl, rfl, rfl, h1, r1⟩ := trodAll_cons r0
  obtain ⟨v2, vs2, d2, ds2, p2, q2, rfl, rfl, rfl, h2, r2⟩ := trodAll_cons r1
  obtain ⟨rfl, rfl, rfl⟩ := trodAll_nil r2
  obtain rfl : args = #[v0, v1, v2] := by cases args; simp_all
  obtain ⟨rfl, rfl⟩ := trodVars_none hV
  obtain ⟨a0, rfl, rfl, rfl, w0⟩ := open_int Try.underlying22 (hval 0 22 v0 rfl rfl) h0
  have b0 := bounds_u64 w0
  obtain ⟨a1, rfl, rfl, rfl, w1⟩ := open_int Try.underlying5 (hval 1 5 v1 rfl rfl) h1
  have b1 := bounds_u8 w1
  obtain ⟨a2, rfl, rfl, rfl, w2⟩ := open_int Try.underlying5 (hval 2 5 v2 rfl rfl) h2
  have b2 := bounds_u8 w2
  clear hA0 hval0
  refine (wireDigits_any W a0 b0 a1 b1 a2 b2).mono fun e W' ⟨he, bel⟩ => ?_
  subst he
  exact ⟨_, rfl, _, _, _, [], _, [], hW', trodAll_mk1 (shut_bool Try.underlying4 _), (trodAll_cons_mk (shut_int Try.underlying22 w0) (trodAll_cons_mk (shut_int Try.underlying5 w1) (trodAll_cons_mk (shut_int Try.underlying5 w2) trodAll_mk0))), rfl, bel.frame _, fun h => by cases h⟩

theorem wireDigits_holds : Rows.WireDigitsSaid :=
  OpenClaim.holds_of_wide 9 Try.f9 rfl rfl rfl rfl rfl rfl rfl ⟨rfl, rfl, rfl, rfl, rfl⟩ rfl rfl rfl rfl rfl (by kernel_rfl) Try.func9 (by kernel_rfl)
    (of_decide_eq_true (by kernel_rfl)) (by unfold Func.isWrapper; rw [if_neg (of_decide_eq_false (by kernel_rfl))]; exact ⟨rfl, rfl⟩)
    (fun os started H enc _ => wireDigits_lifted os started H enc)

#print axioms wireDigits_holds

end Go.Proofs.Ytafnpgjioehnjaa
