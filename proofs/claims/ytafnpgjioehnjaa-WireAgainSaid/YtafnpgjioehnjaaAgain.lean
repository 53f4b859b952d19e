/-
  WireAgain holds: for every two numbers and every count the law returns true and its arguments read as they did.
-/
import Derived.Test.YtafnpgjioehnjaaAwake
import Derived.Test.YtafnpgjioehnjaaGet
import Derived.Laws.IdiomStrings
import Derived.Lib.Strings
import Derived.Deep.QuietTactic
import Derived.BigQuiet
import Derived.Test.YtafnpgjioehnjaaOpen
import Derived.ProofKit
import Derived.OpenShut
import Derived.ShutString
import Derived.ChangeOld
namespace Go.Proofs.Ytafnpgjioehnjaa
open Go.RowKit Go.ChangeShapes Go.WideShapes Go.ChangeAt

theorem pow_wrap {D : Nat} (h : D < 64) : IntKind.u64.wrap (2 ^ D) = ((2 ^ D : Nat) : Int) := by
  have h1 : 2 ^ D < 2 ^ 64 := Nat.pow_lt_pow_right (by omega) h
  have h2 : U64 (2 ^ D) := h1
  rw [← h2.wrap, Int.natCast_pow]; rfl

theorem putL_cons (N k : Nat) : putL N (k + 1) = UInt8.ofNat (N / 2 ^ (8 * k) % 256) :: putL N k := by
  unfold putL
  rw [List.range_succ_eq_map, List.map_cons, List.map_map]
  congr 1
  refine List.map_congr_left fun j hj => ?_
  simp only [Function.comp]
  rw [show k + 1 - 1 - (j + 1) = k - 1 - j by omega]
theorem getL_from (b : List UInt8) : ∀ x : Nat, b.foldl (fun n c => n * 256 + c.toNat) x = x * 256 ^ b.length + getL b := by
  unfold getL
  induction b with
  | nil => intro x; simp
  | cons c b ih =>
    intro x
    rw [List.foldl_cons, List.foldl_cons, ih (x * 256 + c.toNat), ih (0 * 256 + c.toNat), List.length_cons, Nat.pow_succ, Nat.add_mul, Nat.zero_mul, Nat.zero_add, Nat.mul_assoc x, Nat.mul_comm 256, Nat.add_assoc]
theorem getL_cons (c : UInt8) (b : List UInt8) : getL (c :: b) = c.toNat * 256 ^ b.length + getL b := by
  rw [getL, List.foldl_cons, getL_from]; simp
theorem getL_putL (N : Nat) : ∀ k, getL (putL N k) = N % 2 ^ (8 * k)
  | 0 => by simp [putL, getL, Nat.mod_one]
  | k + 1 => by
    have h := getL_putL N k
    have e : 2 ^ (8 * (k + 1)) = 2 ^ (8 * k) * 256 := by rw [Nat.mul_add, Nat.pow_add]
    have e2 : 256 ^ k = 2 ^ (8 * k) := by rw [Nat.pow_mul]
    rw [putL_cons, getL_cons, h, putL_length, e2, e, Nat.mod_mul, Nat.add_comm, Nat.mul_comm (2 ^ (8 * k))]
    congr 2
    simp
theorem less_getL : ∀ (l m : List UInt8), l.length = m.length → Op.bytesLess l m = decide (getL l < getL m)
  | [], [], _ => by simp [Op.bytesLess]
  | [], _ :: _, h => by simp at h
  | _ :: _, [], h => by simp at h
  | a :: x, b :: y, h => by
    have hl : x.length = y.length := by simpa using h
    have ih := less_getL x y hl
    have h1 := getL_lt x
    have h2 := getL_lt y
    rw [hl] at h1
    rw [Op.bytesLess, ih, getL_cons, getL_cons, hl]
    generalize 256 ^ y.length = p at *
    generalize getL x = u at *
    generalize getL y = v at *
    rw [Bool.eq_iff_iff]
    simp only [Bool.or_eq_true, Bool.and_eq_true, decide_eq_true_eq, beq_iff_eq, UInt8.lt_iff_toNat_lt, ← UInt8.toNat_inj]
    generalize a.toNat = s
    generalize b.toNat = t
    rcases Nat.lt_trichotomy s t with hst | rfl | hst
    · have : (s + 1) * p ≤ t * p := Nat.mul_le_mul_right p hst
      rw [Nat.add_mul] at this
      omega
    · omega
    · have : (t + 1) * p ≤ s * p := Nat.mul_le_mul_right p hst
      rw [Nat.add_mul] at this
      omega
theorem less_put {P Q K : Nat} (hP : P < 2 ^ (8 * K)) (hQ : Q < 2 ^ (8 * K)) : Op.bytesLess (ByteArray.mk (putL P K).toArray).toList (ByteArray.mk (putL Q K).toArray).toList = decide (P < Q) := by
  rw [Lib.toList_data, Lib.toList_data, List.toList_toArray, List.toList_toArray, less_getL _ _ (by rw [putL_length, putL_length]), getL_putL, getL_putL, Nat.mod_eq_of_lt hP, Nat.mod_eq_of_lt hQ]
theorem same_put {P Q K : Nat} (hP : P < 2 ^ (8 * K)) (hQ : Q < 2 ^ (8 * K)) {S T : ByteArray} (hS : S = ⟨(putL P K).toArray⟩) (hT : T = ⟨(putL Q K).toArray⟩) : ((S.toList == T.toList) == ((P : Int) == (Q : Int))) = true := by
  have e1 : S.toList = putL P K := by rw [hS, Lib.toList_data, List.toList_toArray]
  have e2 : T.toList = putL Q K := by rw [hT, Lib.toList_data, List.toList_toArray]
  rw [e1, e2, beq_iff_eq, Bool.eq_iff_iff, beq_iff_eq, beq_iff_eq]
  constructor
  · intro h
    have h1 := congrArg getL h
    rw [getL_putL, getL_putL, Nat.mod_eq_of_lt hP, Nat.mod_eq_of_lt hQ] at h1
    omega
  · intro h
    rw [show P = Q by omega]
theorem wget_put {B : Nat} {P K : Nat} {A : Option Addr} (c : Nat) (w : World) (ha : Rd B w A (bv (putL P K))) (h1 : 1 ≤ K) (h8 : K ≤ 8) (hP : P < 2 ^ (8 * K)) :
    Calls Try.prog 12 #[.slice A K c] w fun e w' => e = .returned (.tuple #[.int .u64 (P : Int), .bool true]) ∧ w = w' := by
  have h := wget_in A K c (putL P K) w (putL_length P K) ha h1 h8
  rwa [getL_putL, Nat.mod_eq_of_lt hP] at h
theorem conv_own {w : World} {base g c K : Nat} {P : Nat} (h : w.ownsRow base 5 1 (.slice (some ⟨g, 0, none⟩) K c) K (bv (putL P K))) :
    (convert 23 9 (.slice (some ⟨g, 0, none⟩) K c)).run Try.prog w = .ok (.string ⟨(putL P K).toArray⟩) w := by
  have hr := Rd.own h
  have hc := run_convert_bytes_back (P := Try.prog) w 23 9 5 ⟨g, 0, none⟩ c (putL P K) Try.underlying23 Try.underlying5 Try.underlying9 (fun j hj => by
    obtain ⟨ad, e, _, hcell⟩ := hr.at_ hj
    injection e with e
    subst e
    exact hcell)
  rwa [putL_length] at hc

set_option maxHeartbeats 800000 in
theorem wireAgain_any (w : World) (n : Int) (hn : 0 ≤ n ∧ n ≤ 18446744073709551615) (m : Int) (hm : 0 ≤ m ∧ m ≤ 18446744073709551615) (size : Int) (hs : 0 ≤ size ∧ size ≤ 255) :
    Calls Try.prog 4 #[.int .u64 n, .int .u64 m, .int .u8 size] w (RetB (.bool true) w) := by
  obtain ⟨N, rfl⟩ := Int.eq_ofNat_of_zero_le hn.1
  obtain ⟨M, rfl⟩ := Int.eq_ofNat_of_zero_le hm.1
  have HN : U64 N := U64.mk (by omega)
  have HM : U64 M := U64.mk (by omega)
  clear hn hm
  obtain ⟨K, hK⟩ : ∃ K : Nat, 1 + size % 8 = (K : Int) := ⟨(1 + size % 8).toNat, by omega⟩
  have hK1 : 1 ≤ K := by omega
  have hK8 : K ≤ 8 := by omega
  obtain ⟨s0, s1⟩ := hs
  by_cases h8 : K < 8
  · obtain ⟨D, hD⟩ : ∃ D : Nat, D = 8 * K := ⟨_, rfl⟩
    have d0 : (0 : Int) ≤ (D : Int) := by omega
    have mD : min D 64 = D := by omega
    have wD : IntKind.i64.wrap (8 * (K : Int)) = (D : Int) := by rw [IntWalk.i64_in _ (by omega)]; omega
    obtain ⟨Z, hZ⟩ : ∃ Z : Nat, Z = 2 ^ D := ⟨_, rfl⟩
    have hZ0 : 0 < Z := by rw [hZ]; exact Nat.pow_pos (by omega)
    have z0 : (1 : Int) ≤ (Z : Int) := by omega
    have wZ : IntKind.u64.wrap (2 ^ D) = (Z : Int) := by rw [hZ]; exact pow_wrap (by omega)
    have z1 : ((Z : Int) == 0) = false := by simp; omega
    have z2 : ¬ (Z : Int) = 0 := by omega
    have z3 : ¬ Z = 0 := by omega
    obtain ⟨P, hP⟩ : ∃ P : Nat, P = N % Z := ⟨_, rfl⟩
    obtain ⟨Q, hQ⟩ : ∃ Q : Nat, Q = M % Z := ⟨_, rfl⟩
    have wP : (N : Int) % (Z : Int) = (P : Int) := by rw [hP]; exact (Int.natCast_emod _ _).symm
    have wQ : (M : Int) % (Z : Int) = (Q : Int) := by rw [hQ]; exact (Int.natCast_emod _ _).symm
    have HP : U64 P := by rw [hP]; exact Nat.lt_of_le_of_lt (Nat.mod_le _ _) HN
    have HQ : U64 Q := by rw [hQ]; exact Nat.lt_of_le_of_lt (Nat.mod_le _ _) HM
    have LP := Lib.hid (show P < 2 ^ (8 * K) by rw [hP, ← hD, ← hZ]; exact Nat.mod_lt _ hZ0)
    have LQ := Lib.hid (show Q < 2 ^ (8 * K) by rw [hQ, ← hD, ← hZ]; exact Nat.mod_lt _ hZ0)
    clear hP hQ
    have HZ := Lib.hid hZ
    have HD := Lib.hid hD
    clear hZ
    clear hD
    go_enter Try.func4, Try.ntmps4
    go_wp2_with fail
    refine (awake_any _).mono ?_
    rintro e w1 ⟨rfl, hb1⟩
    go_wp2_with fail
    go_quiet (fail)
    have b1 := below_drewN' hb1 nq
    generalize w1.drewN nq = v1 at *
    clear hb1 wD wZ mD
    go_wp2_with fail
    refine (wput_as (N := P) (K := K) _ rfl rfl HP hK1 hK8).mono ?_
    rintro e w2 ⟨A2, n2, c2, rfl, ho2, hb2⟩
    obtain rfl : K = n2 := (putL_length P K).symm.trans (own_blen ho2)
    go_wp2_with fail
    refine (wput_as (N := Q) (K := K) _ rfl rfl HQ hK1 hK8).mono ?_
    rintro e w3 ⟨A3, n3, c3, rfl, ho3, hb3⟩
    obtain rfl : K = n3 := (putL_length Q K).symm.trans (own_blen ho3)
    have b3 := (b1.trans (hb2.mono b1.size)).trans (hb3.mono (Nat.le_trans b1.size hb2.size))
    have x3 := own_below ho2 hb3
    clear ho2 hb2 hb3
    go_wp2_with fail
    refine (wget_put (P := P) _ _ (Rd.own x3) hK1 hK8 LP.out).mono ?_
    rintro e w4 ⟨rfl, rfl⟩
    go_wp2_with fail
    refine (wget_put (P := Q) _ _ (Rd.own ho3) hK1 hK8 LQ.out).mono ?_
    rintro e w4 ⟨rfl, rfl⟩
    obtain ⟨g2, rfl, _, _, _⟩ := own_addr x3 (by omega)
    obtain ⟨g3, rfl, _, _, _⟩ := own_addr ho3 (by omega)
    obtain ⟨S2, hS2⟩ : ∃ S : ByteArray, S = ⟨(putL P K).toArray⟩ := ⟨_, rfl⟩
    obtain ⟨S3, hS3⟩ : ∃ S : ByteArray, S = ⟨(putL Q K).toArray⟩ := ⟨_, rfl⟩
    have kc2 := conv_own x3
    have kc3 := conv_own ho3
    rw [← hS2] at kc2
    rw [← hS3] at kc3
    have hless : Op.bytesLess S2.toList S3.toList = decide (P < Q) := by rw [hS2, hS3]; exact less_put LP.out LQ.out
    have HS2 := Lib.hid hS2
    have HS3 := Lib.hid hS3
    clear hS2 hS3
    go_wp2_with fail
    go_ret
    exact ⟨ret_bool (same_put LP.out LQ.out HS2.out HS3.out), b3⟩
  · obtain rfl : K = 8 := by omega
    clear h8 hK1 hK8
    have hK1 : 1 ≤ 8 := by omega
    have hK8 : 8 ≤ 8 := by omega
    have LP := Lib.hid (show N < 2 ^ (8 * 8) from HN)
    have LQ := Lib.hid (show M < 2 ^ (8 * 8) from HM)
    go_enter Try.func4, Try.ntmps4
    go_wp2_with fail
    refine (awake_any _).mono ?_
    rintro e v1 ⟨rfl, b1⟩
    go_wp2_with fail
    refine (wput_as (N := N) (K := 8) _ rfl rfl HN hK1 hK8).mono ?_
    rintro e w2 ⟨A2, n2, c2, rfl, ho2, hb2⟩
    obtain rfl : 8 = n2 := (putL_length N 8).symm.trans (own_blen ho2)
    go_wp2_with fail
    refine (wput_as (N := M) (K := 8) _ rfl rfl HM hK1 hK8).mono ?_
    rintro e w3 ⟨A3, n3, c3, rfl, ho3, hb3⟩
    obtain rfl : 8 = n3 := (putL_length M 8).symm.trans (own_blen ho3)
    have b3 := (b1.trans (hb2.mono b1.size)).trans (hb3.mono (Nat.le_trans b1.size hb2.size))
    have x3 := own_below ho2 hb3
    clear ho2 hb2 hb3
    go_wp2_with fail
    refine (wget_put (P := N) _ _ (Rd.own x3) hK1 hK8 LP.out).mono ?_
    rintro e w4 ⟨rfl, rfl⟩
    go_wp2_with fail
    refine (wget_put (P := M) _ _ (Rd.own ho3) hK1 hK8 LQ.out).mono ?_
    rintro e w4 ⟨rfl, rfl⟩
    obtain ⟨g2, rfl, _, _, _⟩ := own_addr x3 (by omega)
    obtain ⟨g3, rfl, _, _, _⟩ := own_addr ho3 (by omega)
    obtain ⟨S2, hS2⟩ : ∃ S : ByteArray, S = ⟨(putL N 8).toArray⟩ := ⟨_, rfl⟩
    obtain ⟨S3, hS3⟩ : ∃ S : ByteArray, S = ⟨(putL M 8).toArray⟩ := ⟨_, rfl⟩
    have kc2 := conv_own x3
    have kc3 := conv_own ho3
    rw [← hS2] at kc2
    rw [← hS3] at kc3
    have hless : Op.bytesLess S2.toList S3.toList = decide (N < M) := by rw [hS2, hS3]; exact less_put LP.out LQ.out
    have HS2 := Lib.hid hS2
    have HS3 := Lib.hid hS3
    clear hS2 hS3
    go_wp2_with fail
    go_ret
    exact ⟨ret_bool (same_put LP.out LQ.out HS2.out HS3.out), b3⟩
theorem wireAgain_own : ownKnob Try.prog.godebug = none := by kernel_rfl
theorem wireAgain_laid : laidOutB Try.prog = true := by kernel_rfl

set_option maxRecDepth 100000 in
theorem wireAgain_lifted (os : Os) (started : os.Started) (H : Type) (enc : TypeId × Value → H) :
    ReturnsInHanded {} Try.checked os 4 .any (Rows.wireAgainSpec.pre6 enc Try.prog Try.f4 Rows.wireAgainRow.domain false) (Rows.wireAgainSpec.post enc Try.prog Try.f4 false true false false) := by
  refine returnsInHanded_of_change (C := Try.checked) wireAgain_own started (by kernel_rfl) Try.func4
    (ChangeSpec.witness6 (enc := enc) (C := Try.checked) false ⟨#[], #[.int .u64 0, .int .u64 0, .int .u8 0], []⟩ 8 (by kernel_rfl) (by kernel_rfl) (by kernel_rfl) (by kernel_rfl)) ?_
  intro W base args ds gs before hval0 hW _ _
  have hval : ∀ (j : Nat) t v, Try.f4.params[j]? = some t → args[j]? = some v → Value.okWide Try.prog W .any base t v := hval0
  have hW' := hW
  obtain ⟨p, q, hA0, hV, rfl, hfz, hnd⟩ := hW
  have hA : DataW.TrodAll enc Try.prog W 0 (fun _ => true) true Try.f4.params.toList args.toList ds p := hA0
  rw [Try.params4] at hA hval
  obtain ⟨v0, vs0, d0, ds0, p0, q0, hargs, rfl, rfl, h0, r0⟩ := trodAll_cons hA
  obtain ⟨v1, vs1, d1, ds1, p1, q1, rfl, rfl, rfl, h1, r1⟩ := trodAll_cons r0
  obtain ⟨v2, vs2, d2, ds2, p2, q2, rfl, rfl, rfl, h2, r2⟩ := trodAll_cons r1
  obtain ⟨rfl, rfl, rfl⟩ := trodAll_nil r2
  obtain rfl : args = #[v0, v1, v2] := by cases args; simp_all
  obtain ⟨rfl, rfl⟩ := trodVars_none hV
  obtain ⟨a0, rfl, rfl, rfl, w0⟩ := open_int Try.underlying22 (hval 0 22 v0 rfl rfl) h0
  have b0 := bounds_u64 w0
  obtain ⟨a1, rfl, rfl, rfl, w1⟩ := open_int Try.underlying22 (hval 1 22 v1 rfl rfl) h1
  have b1 := bounds_u64 w1
  obtain ⟨a2, rfl, rfl, rfl, w2⟩ := open_int Try.underlying5 (hval 2 5 v2 rfl rfl) h2
  have b2 := bounds_u8 w2
  clear hA0 hval0
  refine (wireAgain_any W a0 b0 a1 b1 a2 b2).mono fun e W' ⟨he, bel⟩ => ?_
  subst he
  exact ⟨_, rfl, _, _, _, [], _, [], hW', trodAll_mk1 (shut_bool Try.underlying4 _), (trodAll_cons_mk (shut_int Try.underlying22 w0) (trodAll_cons_mk (shut_int Try.underlying22 w1) (trodAll_cons_mk (shut_int Try.underlying5 w2) trodAll_mk0))), rfl, bel.frame _, fun h => by cases h⟩

theorem wireAgain_holds : Rows.WireAgainSaid :=
  OpenClaim.holds_of_wide 4 Try.f4 rfl rfl rfl rfl rfl rfl rfl ⟨rfl, rfl, rfl, rfl, rfl⟩ rfl rfl rfl rfl rfl (by kernel_rfl) Try.func4 (by kernel_rfl)
    (of_decide_eq_true (by kernel_rfl)) (by unfold Func.isWrapper; rw [if_neg (of_decide_eq_false (by kernel_rfl))]; exact ⟨rfl, rfl⟩)
    (fun os started H enc _ => wireAgain_lifted os started H enc)

#print axioms wireAgain_holds

end Go.Proofs.Ytafnpgjioehnjaa
