/-
  WireXors holds: for every two rows of bytes the law returns true and its arguments read as they did.
-/
import Derived.Test.YtafnpgjioehnjaaAwake
import Derived.Test.YtafnpgjioehnjaaXor
import Derived.Deep.RegionHeld3
import Derived.Deep.DrawnRows
import Derived.Test.YtafnpgjioehnjaaOpen
import Derived.ProofKit
import Derived.OpenShut
import Derived.ShutString
import Derived.ChangeOld
namespace Go.Proofs.Ytafnpgjioehnjaa
open Go.RowKit Go.ChangeShapes Go.WideShapes Go.ChangeAt

theorem xorL_le (a b : List UInt8) : (xorL a b).length ≤ a.length ∧ (xorL a b).length ≤ b.length := by rw [xorL_length]; omega
theorem xorL_comm (a b : List UInt8) : xorL a b = xorL b a := by
  unfold xorL
  rw [List.zipWith_comm]
  congr 1
  funext x y
  exact UInt8.xor_comm _ _

theorem below_of_drew {B : Nat} {w w' : World} (h : Below B w.drew w') : Below B w w' := ⟨h.os, h.tape, h.output, h.size, h.block⟩

theorem xorL_back : ∀ (a b : List UInt8), xorL (xorL a b) b = a.take (xorL a b).length
  | [], _ => rfl
  | _ :: _, [] => rfl
  | x :: a, y :: b => by
    have h := xorL_back a b
    unfold xorL at h ⊢
    simp only [List.zipWith_cons_cons, List.length_cons, List.take_succ_cons, h, UInt8.xor_assoc, UInt8.xor_self, UInt8.xor_zero]
theorem xorL_cut (a b : List UInt8) : (a.take (xorL a b).length).length = (xorL a b).length := by
  rw [List.length_take]; have := (xorL_le a b).1; omega
theorem xorL_self : ∀ a : List UInt8, xorL a a = List.replicate a.length 0
  | [] => rfl
  | x :: a => by
    have h := xorL_self a
    unfold xorL at h ⊢
    simp only [List.zipWith_cons_cons, List.length_cons, List.replicate_succ, h, UInt8.xor_self]

theorem zero_get (a : List UInt8) : ∀ j, 0 ≤ j → j < a.length → (xorL a a)[j]? = some 0 := fun j _ h => by
  rw [xorL_self, List.getElem?_replicate, if_pos h]
theorem bv_zero {l : List UInt8} {k : Nat} (h : l[k]? = some 0) : (bv l)[k]? = some (.int .u8 0) := by
  rw [bv, List.getElem?_map, h]; rfl
theorem zero_set {l : List UInt8} {k n : Nat} (h : ∀ j, k ≤ j → j < n → l[j]? = some 0) : ∀ j, k + 1 ≤ j → j < n → (l.set k 9)[j]? = some 0 := fun j h1 h2 => by
  rw [List.getElem?_set_ne (by omega)]; exact h j (by omega) h2
theorem bv_set9 {l : List UInt8} {k : Nat} : (bv l).set k (.int .u8 9) = bv (l.set k 9) := by
  simp only [bv, List.map_set]; rfl
theorem bv_set1 {l : List UInt8} {k : Nat} {x : Int} {c : UInt8} (h : x = (c.toNat : Int)) : (bv l).set k (.int .u8 x) = bv (l.set k c) := by
  simp only [bv, List.map_set, h]

theorem byte_inc (c : UInt8) : IntKind.u8.wrap ((c.toNat : Int) + 1) = ((c + 1).toNat : Int) := by
  rw [IntKind.wrap_u8, UInt8.toNat_add]; simp

attribute [local go_sem ↓] Go.wp_at_zero Go.wp_at_succ

set_option maxHeartbeats 800000 in
theorem wireXors_any (w : World) (A : Option Addr) (n c : Nat) (a : List UInt8) (hn : a.length = n) (hnc : n ≤ c) (hcm : c ≤ maxLen) (ha : Rd w.heap.size w A (bv a))
    (A' : Option Addr) (m d : Nat) (b : List UInt8) (hm : b.length = m) (hmd : m ≤ d) (hdm : d ≤ maxLen) (hb : Rd w.heap.size w A' (bv b)) :
    Calls Try.prog 7 #[.slice A n c, .slice A' m d] w (RetB (.bool true) w) := by
  subst hn; subst hm
  have m1 : a.length ≤ maxLen := Nat.le_trans hnc hcm
  have m2 : b.length ≤ maxLen := Nat.le_trans hmd hdm
  unfold maxLen at m1 m2
  clear hcm hmd hdm
  by_cases h1 : a.length ≤ 100
  · by_cases h2 : b.length ≤ 100
    · go_enter Try.func7, Try.ntmps7
      go_wp2_with fail
      refine (awake_any _).mono ?_
      rintro e w1 ⟨rfl, hb1⟩
      have z1 := hb1.size
      go_wp2_with (at_builtin; refine wpList_app _ rfl (.tmp 20) (.tmp 21) _ rfl bytesElt (base := w1.heap.size) (v := .slice (some ⟨w1.heap.size, 0, none⟩) 0 0) rfl (World.ownsRow_lit w1 #[] 0 (Nat.le_refl _) (Nat.zero_le _) rfl) (m := a.length) rfl ((ha.below hb1).below ((Below.refl _ _).alloc z1 _)) (bv_length _) (bv_one _) ?_ ?_ ?_; omega; (simp); intro A2 c2 w2 ho2' hg2 _; have ho2 : w2.ownsRow w1.heap.size 5 1 (.slice A2 a.length c2) a.length (bv a) := own_eq ho2' (by omega) rfl; have hb2 := app_below ((Below.refl w1.heap.size w1).alloc (Nat.le_refl _) _) (World.ownsRow_lit w1 #[] 0 (Nat.le_refl _) (Nat.zero_le _) rfl) hg2 (Nat.le_refl _) (by simp))
      clear hg2 ho2'
      have b2 : Below w.heap.size w w2 := hb1.trans (hb2.mono z1)
      have z2 := b2.size
      clear hb1 hb2 z1
      refine (wxor_any (B := w.heap.size) (B' := w.heap.size) _ _ _ _ _ _ a b _ rfl rfl z2 z2 (ha.below b2) (hb.below b2) (by omega) (by omega)).mono ?_
      rintro e w3 ⟨A3, n3, c3, rfl, ho3, hb3⟩
      obtain rfl : (xorL a b).length = n3 := own_blen ho3
      have l3 := xorL_le a b
      have z23 := hb3.size
      have b3 : Below w.heap.size w w3 := b2.trans (hb3.mono z2)
      have z3 := b3.size
      have k1 : ((xorL a b).length : Int) ≤ (a.length : Int) := by omega
      have k2 : (xorL a b).length ≤ a.length := by omega
      have k3 : (xorL a b).length ≤ c := by omega
      have k4 : ((xorL a b).length : Int) ≤ (c : Int) := by omega
      have k5 : (0 : Int) ≤ ((xorL a b).length : Int) := by omega
      go_wp2_with fail
      go_region_held3 (fun _ => True) (trivial) (first
        | (go_at_call 23; (with_reducible refine (rxor_any (B := w.heap.size) (B' := w.heap.size) _ _ _ _ _ _ a b _ rfl rfl ?_ ?_ ?_ ?_ ?_ ?_).mono ?_); exact z3; exact z3; exact ha.below b3.drew; exact hb.below b3.drew; omega; omega; rintro e w4 ⟨A4, n4, c4, rfl, ho4, hb4'⟩; have hb4 : Below w3.heap.size w3 w4 := below_of_drew hb4'; clear hb4')
        | (go_at_call 14; (with_reducible refine (same_r (b := true) (xs := xorL a b) (ys := xorL a b) (B := w3.heap.size) (B' := w4.heap.size) ?_ ?_ ?_ ?_ ?_ ?_ ?_).mono ?_); exact decide_eq_true rfl; rfl; exact own_blen ho4; exact (Rd.own ho3).below hb4; exact Rd.own ho4; exact own_max ho3; exact own_max ho4; rintro e w5 ⟨rfl, hb5'⟩; have b5 : Below w3.heap.size w3 w5 := hb4.trans (hb5'.mono hb4.size); clear hb4 hb5' ho4)
        | (go_at_call 22; (with_reducible refine (wxor_any (B := w.heap.size) (B' := w.heap.size) _ _ _ _ _ _ b a _ rfl rfl ?_ ?_ ?_ ?_ ?_ ?_).mono ?_); exact Nat.le_trans z3 b5.size; exact Nat.le_trans z3 b5.size; exact (hb.below b3).below (b5.mono z3); exact (ha.below b3).below (b5.mono z3); omega; omega; rintro e w6 ⟨A6, n6, c6, rfl, ho6, hb6'⟩; have b6 : Below w3.heap.size w3 w6 := b5.trans (hb6'.mono b5.size); clear hb6' b5)
        | (go_at_call 14; (with_reducible refine (same_r (b := true) (xs := xorL b a) (ys := xorL a b) (B := w6.heap.size) (B' := w3.heap.size) ?_ ?_ ?_ ?_ ?_ ?_ ?_).mono ?_); exact decide_eq_true (xorL_comm b a); exact own_blen ho6; rfl; exact Rd.own ho6; exact (Rd.own ho3).below b6; exact own_max ho6; exact own_max ho3; rintro e w7 ⟨rfl, hb7'⟩; have b7 : Below w3.heap.size w3 w7 := b6.trans (hb7'.mono b6.size); clear b6 hb7' ho6)
        | (go_at_call 22; (with_reducible refine (wxor_any (B := w3.heap.size) (B' := w.heap.size) _ _ _ _ _ _ (xorL a b) b _ rfl rfl ?_ ?_ ?_ ?_ ?_ ?_).mono ?_); exact b7.size; exact Nat.le_trans z3 b7.size; exact (Rd.own ho3).below b7; exact (hb.below b3).below (b7.mono z3); omega; omega; rintro e w8 ⟨A8, n8, c8, rfl, ho8, hb8'⟩; have b8 : Below w3.heap.size w3 w8 := b7.trans (hb8'.mono b7.size); clear hb8' b7)
        | (go_at_call 14; (with_reducible refine (same_r (b := true) (xs := xorL (xorL a b) b) (ys := a.take (xorL a b).length) (B := w8.heap.size) (B' := w.heap.size) ?_ ?_ ?_ ?_ ?_ ?_ ?_).mono ?_); exact decide_eq_true (xorL_back a b); exact own_blen ho8; exact xorL_cut a b; exact Rd.own ho8; exact ((ha.below b3).below (b8.mono z3)).take _; exact own_max ho8; exact own_max ho3; rintro e w9 ⟨rfl, hb9'⟩; have b9 : Below w3.heap.size w3 w9 := b8.trans (hb9'.mono b8.size); clear b8 hb9' ho8))
      have z9 := b9.size
      have b9w : Below w.heap.size w w9 := b3.trans (b9.mono z3)
      have z9w := b9w.size
      clear k1 k2 k3 k4 k5
      go_wp2_with fail
      refine (wxor_any (B := w.heap.size) (B' := w.heap.size) _ _ _ _ _ _ a a _ rfl rfl z9w z9w (ha.below b9w) (ha.below b9w) (by omega) (by omega)).mono ?_
      rintro e w10 ⟨A10, n10, c10, rfl, ho10, hb10⟩
      obtain rfl : a.length = n10 := (by rw [xorL_self]; simp : (xorL a a).length = a.length).symm.trans (own_blen ho10)
      have x9 := own_below ho3 b9
      have b29 : Below w2.heap.size w2 w9 := hb3.trans (b9.mono z23)
      have lb : (xorL a b).length ≤ 100 := by omega
      clear ho3 b9 hb3 b9w l3
      go_wp2_with fail
      go_loopw [8] (fun i wr => ∃ (k : Nat) (l : List UInt8), k ≤ a.length ∧ i = .int .i64 k ∧ Hid (∀ j, k ≤ j → j < a.length → l[j]? = some 0) ∧ Hid (l.length = a.length) ∧ Below w9.heap.size w9 wr ∧ wr.ownsRow w9.heap.size 5 1 (.slice A10 a.length c10) a.length (bv l)) (fun i _ => a.length - (intOf i).toNat)
      case atStart => exact ⟨0, xorL a a, Nat.zero_le _, rfl, zero_get a, by show _ = _; rw [xorL_self]; simp, hb10, ho10⟩
      case round =>
        obtain ⟨k, l, hk, rfl, HZ, HLl, hbz, hoz⟩ := hrel
        by_cases hlt : k < a.length
        · obtain ⟨g, hA, hg, _, _⟩ := own_addr hoz (by omega)
          subst hA
          have hc := hoz.cellAt k (by omega)
          have hf := hoz.frozenAt k
          rw [bv_zero (HZ.out k (Nat.le_refl _) hlt)] at hc
          have HS := Lib.hid (hoz.stored k (.int .u8 9)).1
          go_wp2_with fail
          go_roundw
          case rel => exact ⟨k + 1, l.set k 9, by omega, by go_num, zero_set HZ.out, by show _ = _; rw [List.length_set]; exact HLl.out, hbz.setCell hg _, by rw [← bv_set9]; exact HS.out⟩
          case measure => simp [intOf]; omega
        · have xz := own_below x9 hbz
          have bz2 : Below w2.heap.size w2 wr := b29.trans (hbz.mono b29.size)
          clear hoz HZ HLl x9 b29
          obtain ⟨wo, rfl⟩ : ∃ wo : World, wo = wr := ⟨_, rfl⟩
          go_wp2_with fail
          go_loopw [9] (fun i wr => ∃ (k : Nat) (l : List UInt8), k ≤ (xorL a b).length ∧ i = .int .i64 k ∧ Hid (l.length = (xorL a b).length) ∧ Below w2.heap.size w2 wr ∧ wr.ownsRow w2.heap.size 5 1 (.slice A3 (xorL a b).length c3) (xorL a b).length (bv l)) (fun i _ => (xorL a b).length - (intOf i).toNat)
          case atStart => exact ⟨0, xorL a b, Nat.zero_le _, rfl, rfl, bz2, xz⟩
          case round =>
            obtain ⟨k, l, hk, rfl, HLl, hbx, hox⟩ := hrel
            by_cases hlt : k < (xorL a b).length
            · obtain ⟨g, hA, hg, _, _⟩ := own_addr hox (by omega)
              subst hA
              have hkl : k < l.length := by rw [HLl.out]; exact hlt
              have hc := hox.cellAt k (by omega)
              have hf := hox.frozenAt k
              rw [bv_get hkl] at hc
              have HS := Lib.hid (fun u => (hox.stored k u).1)
              go_wp2_with fail
              go_roundw
              case rel => exact ⟨k + 1, l.set k (l[k] + 1), by omega, by go_num, by show _ = _; rw [List.length_set]; exact HLl.out, hbx.setCell hg _, by rw [← bv_set1 (byte_inc l[k])]; exact HS.out _⟩
              case measure => simp [intOf]; omega
            · have bw' : Below w.heap.size w wr := b2.trans (hbx.mono z2)
              have hwas := own_below ho2 hbx
              clear hox HLl
              go_wp2_with fail
              refine (same_r (b := true) (xs := a) (ys := a) (decide_eq_true rfl) rfl rfl (ha.below bw') (Rd.own hwas) (own_max ho2) (own_max ho2)).mono ?_
              rintro e w12 ⟨rfl, hb12⟩
              go_wp2_with fail
              go_ret
              exact ⟨rfl, bw'.trans (hb12.mono bw'.size)⟩
    · have h2' : (100 : Int) < (b.length : Int) := by omega
      have h1' : (a.length : Int) ≤ 100 := by omega
      go_enter Try.func7, Try.ntmps7
      go_wp2_with fail
      refine (awake_any _).mono ?_
      rintro e w1 ⟨rfl, hb1⟩
      go_wp2_with fail
      go_ret
      exact ⟨rfl, hb1⟩
  · have h1' : (100 : Int) < (a.length : Int) := by omega
    go_enter Try.func7, Try.ntmps7
    go_wp2_with fail
    refine (awake_any _).mono ?_
    rintro e w1 ⟨rfl, hb1⟩
    go_wp2_with fail
    go_ret
    exact ⟨rfl, hb1⟩
theorem wireXors_own : ownKnob Try.prog.godebug = none := by kernel_rfl
theorem wireXors_laid : laidOutB Try.prog = true := by kernel_rfl

set_option maxRecDepth 100000 in
theorem wireXors_lifted (os : Os) (started : os.Started) (H : Type) (enc : TypeId × Value → H) :
    ReturnsInHanded {} Try.checked os 7 .any (Rows.wireXorsSpec.pre6 enc Try.prog Try.f7 Rows.wireXorsRow.domain false) (Rows.wireXorsSpec.post enc Try.prog Try.f7 false true false false) := by
  refine returnsInHanded_of_change (C := Try.checked) wireXors_own started (by kernel_rfl) Try.func7
    (ChangeSpec.witness6 (enc := enc) (C := Try.checked) false ⟨#[], #[.slice none 0 0, .slice none 0 0], []⟩ 8 (by kernel_rfl) (by kernel_rfl) (by kernel_rfl) (by kernel_rfl)) ?_
  intro W base args ds gs before hval0 hW _ _
  have hval : ∀ (j : Nat) t v, Try.f7.params[j]? = some t → args[j]? = some v → Value.okWide Try.prog W .any base t v := hval0
  have hW' := hW
  obtain ⟨p, q, hA0, hV, rfl, hfz, hnd⟩ := hW
  have hA : DataW.TrodAll enc Try.prog W 0 (fun _ => true) true Try.f7.params.toList args.toList ds p := hA0
  rw [Try.params7] at hA hval
  obtain ⟨v0, vs0, d0, ds0, p0, q0, hargs, rfl, rfl, h0, r0⟩ := trodAll_cons hA
  obtain ⟨v1, vs1, d1, ds1, p1, q1, rfl, rfl, rfl, h1, r1⟩ := trodAll_cons r0
  obtain ⟨rfl, rfl, rfl⟩ := trodAll_nil r1
  obtain rfl : args = #[v0, v1] := by cases args; simp_all
  obtain ⟨rfl, rfl⟩ := trodVars_none hV
  obtain ⟨a0, n0, c0, rfl⟩ := okWide_slice Try.underlying23 (hval 0 23 v0 rfl rfl)
  have lt0 : ∀ x ∈ p0, x.block < W.heap.size := by obtain ⟨m, hm⟩ := h0; exact DataW.trod_lt m _ _ _ hm
  obtain ⟨l0, hl0, hc0, hm0, hr0⟩ := open_bytes Try.underlying23 Try.underlying5 (by kernel_rfl) h0
  obtain ⟨a1, n1, c1, rfl⟩ := okWide_slice Try.underlying23 (hval 1 23 v1 rfl rfl)
  have lt1 : ∀ x ∈ p1, x.block < W.heap.size := by obtain ⟨m, hm⟩ := h1; exact DataW.trod_lt m _ _ _ hm
  obtain ⟨l1, hl1, hc1, hm1, hr1⟩ := open_bytes Try.underlying23 Try.underlying5 (by kernel_rfl) h1
  clear hA0 hval0
  refine (wireXors_any W a0 n0 c0 l0 hl0 hc0 hm0 hr0 a1 n1 c1 l1 hl1 hc1 hm1 hr1).mono fun e W' ⟨he, bel⟩ => ?_
  subst he
  exact ⟨_, rfl, _, _, _, [], _, [], hW', trodAll_mk1 (shut_bool Try.underlying4 _), (trodAll_cons_mk (Below.trod wireXors_laid (by kernel_rfl) (of_decide_eq_true (by kernel_rfl)) h0 bel lt0) (trodAll_cons_mk (Below.trod wireXors_laid (by kernel_rfl) (of_decide_eq_true (by kernel_rfl)) h1 bel lt1) trodAll_mk0)), rfl, bel.frame _, fun h => by cases h⟩

theorem wireXors_holds : Rows.WireXorsSaid :=
  OpenClaim.holds_of_wide 7 Try.f7 rfl rfl rfl rfl rfl rfl rfl ⟨rfl, rfl, rfl, rfl, rfl⟩ rfl rfl rfl rfl rfl (by kernel_rfl) Try.func7 (by kernel_rfl)
    (of_decide_eq_true (by kernel_rfl)) (by unfold Func.isWrapper; rw [if_neg (of_decide_eq_false (by kernel_rfl))]; exact ⟨rfl, rfl⟩)
    (fun os started H enc _ => wireXors_lifted os started H enc)

#print axioms wireXors_holds

end Go.Proofs.Ytafnpgjioehnjaa
