/-
  WireThree holds: for every three rows of bytes the law returns true and its arguments read as they did.
-/
import Derived.Test.YtafnpgjioehnjaaAwake
import Derived.Test.YtafnpgjioehnjaaXor
import Derived.Test.YtafnpgjioehnjaaOpen
import Derived.ProofKit
import Derived.OpenShut
import Derived.ShutString
import Derived.ChangeOld
namespace Go.Proofs.Ytafnpgjioehnjaa
open Go.RowKit Go.ChangeShapes Go.WideShapes Go.ChangeAt

theorem xorL_le (a b : List UInt8) : (xorL a b).length ≤ a.length ∧ (xorL a b).length ≤ b.length := by rw [xorL_length]; omega
theorem xorL_assoc : ∀ (a b c : List UInt8), xorL (xorL a b) c = xorL a (xorL b c)
  | [], _, _ => rfl
  | _ :: _, [], _ => rfl
  | _ :: _, _ :: _, [] => rfl
  | x :: a, y :: b, z :: c => by
    have h := xorL_assoc a b c
    unfold xorL at h ⊢
    simp only [List.zipWith_cons_cons, h, UInt8.xor_assoc]
theorem xorL_comm (a b : List UInt8) : xorL a b = xorL b a := by
  unfold xorL
  rw [List.zipWith_comm]
  congr 1
  funext x y
  exact UInt8.xor_comm _ _

theorem xorL_turn (a b s : List UInt8) : xorL (xorL a b) s = xorL (xorL s a) b := by
  rw [xorL_comm (xorL a b) s, xorL_assoc s a b]

set_option maxHeartbeats 400000 in
theorem wireThree_any (w : World) (A : Option Addr) (n c : Nat) (a : List UInt8) (hn : a.length = n) (hnc : n ≤ c) (hcm : c ≤ maxLen) (ha : Rd w.heap.size w A (bv a))
    (A' : Option Addr) (m d : Nat) (b : List UInt8) (hm : b.length = m) (hmd : m ≤ d) (hdm : d ≤ maxLen) (hb : Rd w.heap.size w A' (bv b))
    (A'' : Option Addr) (k e : Nat) (s : List UInt8) (hk : s.length = k) (hke : k ≤ e) (hem : e ≤ maxLen) (hs : Rd w.heap.size w A'' (bv s)) :
    Calls Try.prog 10 #[.slice A n c, .slice A' m d, .slice A'' k e] w (RetB (.bool true) w) := by
  subst hn; subst hm; subst hk
  have m1 : a.length ≤ maxLen := Nat.le_trans hnc hcm
  have m2 : b.length ≤ maxLen := Nat.le_trans hmd hdm
  have m3 : s.length ≤ maxLen := Nat.le_trans hke hem
  unfold maxLen at m1 m2 m3
  clear hnc hcm hmd hdm hke hem
  by_cases h1 : a.length ≤ 100
  · by_cases h2 : b.length ≤ 100
    · by_cases h3 : s.length ≤ 100
      · go_enter Try.func10, Try.ntmps10
        go_wp2_with fail
        refine (awake_any _).mono ?_
        rintro e w1 ⟨rfl, hb1⟩
        have z1 := hb1.size
        go_wp2_with fail
        refine (wxor_any _ _ _ _ _ _ a b _ rfl rfl z1 z1 (ha.below hb1) (hb.below hb1) (by omega) (by omega)).mono ?_
        rintro e w2 ⟨A2, n2, c2, rfl, ho2, hb2⟩
        have z2 := Nat.le_trans z1 hb2.size
        have l2 := xorL_le a b
        obtain rfl : (xorL a b).length = n2 := own_blen ho2
        go_wp2_with fail
        refine (wxor_any _ _ _ _ _ _ (xorL a b) s _ rfl rfl (Nat.le_refl _) z2 (Rd.own ho2) ((hs.below hb1).below (hb2.mono z1)) (by omega) (by omega)).mono ?_
        rintro e w3 ⟨A3, n3, c3, rfl, ho3, hb3⟩
        have z3 := Nat.le_trans z2 hb3.size
        have b3 : Below w.heap.size w w3 := (hb1.trans (hb2.mono z1)).trans (hb3.mono z2)
        obtain rfl : (xorL (xorL a b) s).length = n3 := own_blen ho3
        have l3 := xorL_le (xorL a b) s
        clear ho2 hb1 hb2 hb3 l2
        go_wp2_with fail
        refine (wxor_any _ _ _ _ _ _ b s _ rfl rfl z3 z3 (hb.below b3) (hs.below b3) (by omega) (by omega)).mono ?_
        rintro e w4 ⟨A4, n4, c4, rfl, ho4, hb4⟩
        have z4 := Nat.le_trans z3 hb4.size
        have l4 := xorL_le b s
        obtain rfl : (xorL b s).length = n4 := own_blen ho4
        go_wp2_with fail
        refine (wxor_any _ _ _ _ _ _ a (xorL b s) _ rfl rfl z4 (Nat.le_refl _) ((ha.below b3).below (hb4.mono z3)) (Rd.own ho4) (by omega) (by omega)).mono ?_
        rintro e w5 ⟨A5, n5, c5, rfl, ho5, hb5⟩
        have z5 := Nat.le_trans z4 hb5.size
        have l5 := xorL_le a (xorL b s)
        obtain rfl : (xorL a (xorL b s)).length = n5 := own_blen ho5
        have x5 := own_below (own_below ho3 hb4) hb5
        have b5 : Below w.heap.size w w5 := (b3.trans (hb4.mono z3)).trans (hb5.mono z4)
        clear ho3 b3 hb4 hb5 ho4 l4
        go_wp2_with fail
        refine (same_r (b := true) (decide_eq_true (xorL_assoc a b s)) rfl rfl (Rd.own x5) (Rd.own ho5) (own_max x5) (own_max ho5)).mono ?_
        rintro e w6 ⟨rfl, hb6⟩
        have x6 := own_below x5 hb6
        have b6 : Below w.heap.size w w6 := b5.trans (hb6.mono z5)
        have z6 := b6.size
        clear ho5 l5 x5 b5 hb6 z5
        go_wp2_with fail
        refine (wxor_any _ _ _ _ _ _ s a _ rfl rfl z6 z6 (hs.below b6) (ha.below b6) (by omega) (by omega)).mono ?_
        rintro e w7 ⟨A7, n7, c7, rfl, ho7, hb7⟩
        have l7 := xorL_le s a
        obtain rfl : (xorL s a).length = n7 := own_blen ho7
        go_wp2_with fail
        refine (wxor_any _ _ _ _ _ _ (xorL s a) b _ rfl rfl (Nat.le_refl _) (Nat.le_trans z6 hb7.size) (Rd.own ho7) ((hb.below b6).below (hb7.mono z6)) (by omega) (by omega)).mono ?_
        rintro e w8 ⟨A8, n8, c8, rfl, ho8, hb8⟩
        obtain rfl : (xorL (xorL s a) b).length = n8 := own_blen ho8
        have x8 := own_below (own_below x6 hb7) hb8
        have b8 : Below w.heap.size w w8 := (b6.trans (hb7.mono z6)).trans (hb8.mono (Nat.le_trans z6 hb7.size))
        clear x6 b6 hb7 hb8 ho7 l7
        go_wp2_with fail
        refine (same_r (b := true) (decide_eq_true (xorL_turn a b s)) rfl rfl (Rd.own x8) (Rd.own ho8) (own_max x8) (own_max ho8)).mono ?_
        rintro e w9 ⟨rfl, hb9⟩
        have b9 : Below w.heap.size w w9 := b8.trans (hb9.mono b8.size)
        clear x8 ho8 b8 hb9
        have HL3 := Lib.hid (show (xorL (xorL a b) s).length = min (min a.length b.length) s.length by rw [xorL_length, xorL_length])
        clear l3
        go_wp2_with fail
        all_goals
          go_ret
          refine ⟨ret_bool ?_, b9⟩
          rw [beq_iff_eq, HL3.out]
          by_cases hba : b.length < a.length
          · have HB := Lib.hid (show (b.length : Int) < (a.length : Int) by omega)
            simp only [hba, if_true] at *
            first | done | (have hbb := HB.out; omega) | exact absurd trivial ‹¬ True›
          · have HB := Lib.hid (show (a.length : Int) ≤ (b.length : Int) by omega)
            simp only [hba, if_false] at *
            first | done | (have hbb := HB.out; omega)
      · have h3' : (100 : Int) < (s.length : Int) := by omega
        have h1' : (a.length : Int) ≤ 100 := by omega
        have h2' : (b.length : Int) ≤ 100 := by omega
        go_enter Try.func10, Try.ntmps10
        go_wp2_with fail
        refine (awake_any _).mono ?_
        rintro e w1 ⟨rfl, hb1⟩
        go_wp2_with fail
        go_ret
        exact ⟨rfl, hb1⟩
    · have h2' : (100 : Int) < (b.length : Int) := by omega
      have h1' : (a.length : Int) ≤ 100 := by omega
      go_enter Try.func10, Try.ntmps10
      go_wp2_with fail
      refine (awake_any _).mono ?_
      rintro e w1 ⟨rfl, hb1⟩
      go_wp2_with fail
      go_ret
      exact ⟨rfl, hb1⟩
  · have h1' : (100 : Int) < (a.length : Int) := by omega
    go_enter Try.func10, Try.ntmps10
    go_wp2_with fail
    refine (awake_any _).mono ?_
    rintro e w1 ⟨rfl, hb1⟩
    go_wp2_with fail
    go_ret
    exact ⟨rfl, hb1⟩
theorem wireThree_own : ownKnob Try.prog.godebug = none := by kernel_rfl
theorem wireThree_laid : laidOutB Try.prog = true := by kernel_rfl

set_option maxRecDepth 100000 in
theorem wireThree_lifted (os : Os) (started : os.Started) (H : Type) (enc : TypeId × Value → H) :
    ReturnsInHanded {} Try.checked os 10 .any (Rows.wireThreeSpec.pre6 enc Try.prog Try.f10 Rows.wireThreeRow.domain false) (Rows.wireThreeSpec.post enc Try.prog Try.f10 false true false false) := by
  refine returnsInHanded_of_change (C := Try.checked) wireThree_own started (by kernel_rfl) Try.func10
    (ChangeSpec.witness6 (enc := enc) (C := Try.checked) false ⟨#[], #[.slice none 0 0, .slice none 0 0, .slice none 0 0], []⟩ 8 (by kernel_rfl) (by kernel_rfl) (by kernel_rfl) (by kernel_rfl)) ?_
  intro W base args ds gs before hval0 hW _ _
  have hval : ∀ (j : Nat) t v, Try.f10.params[j]? = some t → args[j]? = some v → Value.okWide Try.prog W .any base t v := hval0
  have hW' := hW
  obtain ⟨p, q, hA0, hV, rfl, hfz, hnd⟩ := hW
  have hA : DataW.TrodAll enc Try.prog W 0 (fun _ => true) true Try.f10.params.toList args.toList ds p := hA0
  rw [Try.params10] at hA hval
  obtain ⟨v0, vs0, d0, ds0, p0, q0, hargs, rfl, rfl, h0, r0⟩ := trodAll_cons hA
  obtain ⟨v1, vs1, d1, ds1, p1, q1, rfl, rfl, rfl, h1, r1⟩ := trodAll_cons r0
  obtain ⟨v2, vs2, d2, ds2, p2, q2, rfl, rfl, rfl, h2, r2⟩ := trodAll_cons r1
  obtain ⟨rfl, rfl, rfl⟩ := trodAll_nil r2
  obtain rfl : args = #[v0, v1, v2] := by cases args; simp_all
  obtain ⟨rfl, rfl⟩ := trodVars_none hV
  obtain ⟨a0, n0, c0, rfl⟩ := okWide_slice Try.underlying23 (hval 0 23 v0 rfl rfl)
  have lt0 : ∀ x ∈ p0, x.block < W.heap.size := by obtain ⟨m, hm⟩ := h0; exact DataW.trod_lt m _ _ _ hm
  obtain ⟨l0, hl0, hc0, hm0, hr0⟩ := open_bytes Try.underlying23 Try.underlying5 (by kernel_rfl) h0
  obtain ⟨a1, n1, c1, rfl⟩ := okWide_slice Try.underlying23 (hval 1 23 v1 rfl rfl)
  have lt1 : ∀ x ∈ p1, x.block < W.heap.size := by obtain ⟨m, hm⟩ := h1; exact DataW.trod_lt m _ _ _ hm
  obtain ⟨l1, hl1, hc1, hm1, hr1⟩ := open_bytes Try.underlying23 Try.underlying5 (by kernel_rfl) h1
  obtain ⟨a2, n2, c2, rfl⟩ := okWide_slice Try.underlying23 (hval 2 23 v2 rfl rfl)
  have lt2 : ∀ x ∈ p2, x.block < W.heap.size := by obtain ⟨m, hm⟩ := h2; exact DataW.trod_lt m _ _ _ hm
  obtain ⟨l2, hl2, hc2, hm2, hr2⟩ := open_bytes Try.underlying23 Try.underlying5 (by kernel_rfl) h2
  clear hA0 hval0
  refine (wireThree_any W a0 n0 c0 l0 hl0 hc0 hm0 hr0 a1 n1 c1 l1 hl1 hc1 hm1 hr1 a2 n2 c2 l2 hl2 hc2 hm2 hr2).mono fun e W' ⟨he, bel⟩ => ?_
  subst he
  exact ⟨_, rfl, _, _, _, [], _, [], hW', trodAll_mk1 (shut_bool Try.underlying4 _), (trodAll_cons_mk (Below.trod wireThree_laid (by kernel_rfl) (of_decide_eq_true (by kernel_rfl)) h0 bel lt0) (trodAll_cons_mk (Below.trod wireThree_laid (by kernel_rfl) (of_decide_eq_true (by kernel_rfl)) h1 bel lt1) (trodAll_cons_mk (Below.trod wireThree_laid (by kernel_rfl) (of_decide_eq_true (by kernel_rfl)) h2 bel lt2) trodAll_mk0))), rfl, bel.frame _, fun h => by cases h⟩

theorem wireThree_holds : Rows.WireThreeSaid :=
  OpenClaim.holds_of_wide 10 Try.f10 rfl rfl rfl rfl rfl rfl rfl ⟨rfl, rfl, rfl, rfl, rfl⟩ rfl rfl rfl rfl rfl (by kernel_rfl) Try.func10 (by kernel_rfl)
    (of_decide_eq_true (by kernel_rfl)) (by unfold Func.isWrapper; rw [if_neg (of_decide_eq_false (by kernel_rfl))]; exact ⟨rfl, rfl⟩)
    (fun os started H enc _ => wireThree_lifted os started H enc)

#print axioms wireThree_holds

end Go.Proofs.Ytafnpgjioehnjaa
