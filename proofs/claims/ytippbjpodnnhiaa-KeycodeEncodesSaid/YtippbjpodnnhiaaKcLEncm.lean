/-
  KeycodeEncodes holds: the bytes of any nodes, or that there are none, are what the document says; the nodes stay as they are.
-/
import Derived.Test.YtippbjpodnnhiaaMh1
import Derived.Test.YtippbjpodnnhiaaRows
import Derived.ProofKit
import Derived.OpenShut
import Derived.ShutString
import Derived.ChangeOld
namespace Go.Proofs.Ytippbjpodnnhiaa
open Go.RowKit Go.ChangeShapes Go.WideShapes Go.ChangeAt
open Kg Kc
attribute [local go_sem ↓] Go.wp_at_zero Go.wp_at_succ
set_option maxRecDepth 100000 in
set_option maxHeartbeats 3200000 in
theorem keycodeEncodes_any (w : World) (A : Option Addr) (n c : Nat) (l : List Nd) (hl : l.length = n) (_hc : n ≤ c) (hm : c ≤ maxLen) (hr : Rd w.heap.size w A (nvs l))
    (hz : ∀ y ∈ l, (-9223372036854775808 ≤ y.d ∧ y.d ≤ 9223372036854775807) ∧ (0 ≤ y.a ∧ y.a ≤ 18446744073709551615) ∧ y.s.length = 32) :
    Calls Try.prog 3 #[.slice A n c] w (RetB (.bool true) w) := by
  have HL := Lib.hid hl
  have HR := Lib.hid hr
  have H3 := Lib.hid (show ∀ x ∈ l, x.s.length = 32 from fun x hx => (hz x hx).2.2)
  have HA := Lib.hid (show ∀ x ∈ l, 0 ≤ x.a from fun x hx => (hz x hx).2.1.1)
  have HD := Lib.hid (show ∀ x ∈ l, -9223372036854775808 ≤ x.d ∧ 0 ≤ x.a from fun x hx => ⟨(hz x hx).1.1, (hz x hx).2.1.1⟩)
  have HMX := Lib.hid (show n ≤ maxLen by omega)
  clear hl hm hr hz
  go_enter Try.func3, Try.ntmps3
  go_wp2_with fail
  refine (kcAwake_any _).mono ?_
  rintro e w1 ⟨rfl, bw⟩
  have B1 := Lib.hid bw
  clear bw
  by_cases h40 : (n : Int) > 40
  · have d6 : decide ((n : Int) > 40) = true := decide_eq_true h40
    go_wp2_with fail
    go_ret
    exact ⟨rfl, B1.out⟩
  · have d6 : decide ((n : Int) > 40) = false := decide_eq_false h40
    have hn : n ≤ 40 := by omega
    clear h40
    have hnl : (nvs l).length = n * 34 := by rw [nvs_length H3.out, HL.out]
    have HNL := Lib.hid hnl
    have o0 := World.ownsRow_lit (base := w.heap.size) (size := 34) (e := 61) w1 #[] 0 B1.out.size (Nat.zero_le _) rfl
    have O0 := Lib.hid o0
    have BA := Lib.hid (show Below w.heap.size w (w1.alloc (.cells #[] 61)) from B1.out.alloc B1.out.size _)
    clear hnl o0
    go_wp2_with (at_builtin
                 refine wpList_appN _ rfl (.tmp 13) (.tmp 14) 22 rfl heldsElt (base := w.heap.size) (v := .slice (some ⟨w1.heap.size, 0, none⟩) 0 0) rfl O0.out (m := n) rfl (HR.out.below BA.out) HNL.out (nvs_one _) (by omega) BA.out.size ?_
                 intro A2 c2 w2 ho hg _
                 have hb := app_belowN BA.out O0.out hg (Nat.le_refl _) BA.out.size
                 rw [List.nil_append, Nat.zero_add] at ho
                 have O2 := Lib.hid ho
                 have B2 := Lib.hid hb
                 clear ho hg hb O0 BA)
    refine (kenc_any A2 n c2 l _ HL.out H3.out HA.out (Nat.le_refl _) (Rd.ownN O2.out) (by omega)).mono ?_
    rintro e w3 ⟨bw, hk⟩
    have O3 := Lib.hid (own_belowN O2.out bw)
    have B3 := Lib.hid (B2.out.trans (bw.mono B2.out.size))
    have hs2 := B2.out.size
    have hl6 : l.length ≤ 65535 := by rw [HL.out]; omega
    clear O2 B2
    by_cases hok : okS 0 l
    · rcases hk with ⟨_, A1, m1, c1, rfl, ho⟩ | ⟨hno, _⟩ | ⟨⟨_, hno⟩, _⟩
      case inr.inl => exact absurd hok hno
      case inr.inr => omega
      have OB := Lib.hid (own_more ho hs2)
      have HOK := Lib.hid (show okS 0 l ∧ l.length ≤ 65535 from ⟨hok, hl6⟩)
      clear bw ho hok hl6 hs2
      go_wp2_with fail
      refine (plain_any A n c l _ HL.out H3.out B3.out.size (HR.out.below B3.out) (by omega)).mono ?_
      rintro e w4 ⟨A4, n4, c4, rfl, ho4, bw4⟩
      have hn4 : n4 = n := by have := ho4.1; rw [HNL.out] at this; omega
      subst hn4
      have R4 := Lib.hid (Rd.ownN ho4)
      have O4 := Lib.hid (own_belowN O3.out bw4)
      have OB4 := Lib.hid (own_below OB.out bw4)
      have B4 := Lib.hid (B3.out.trans (bw4.mono B3.out.size))
      clear ho4 bw4 O3 B3 OB
      go_wp2_with fail
      refine (renc_any A4 n4 c4 l _ HL.out H3.out HD.out (Nat.le_refl _) R4.out (by omega)).mono ?_
      rintro e w5 ⟨bw5, ⟨_, A5, m5, c5, rfl, ho5⟩ | ⟨hno, _⟩⟩
      case inr => exact absurd HOK.out hno
      have O5 := Lib.hid (own_belowN O4.out bw5)
      have OB5 := Lib.hid (own_below OB4.out bw5)
      have B5 := Lib.hid (B4.out.trans (bw5.mono B4.out.size))
      have kc1 := conv_rd (c := c1) Try.underlying24 Try.underlying5 Try.underlying9 (Rd.own OB5.out) (own_blen OB5.out)
      have kc2 := conv_rd (c := c5) Try.underlying24 Try.underlying5 Try.underlying9 (Rd.own ho5) (own_blen ho5)
      obtain ⟨S, hS⟩ : ∃ S : ByteArray, S = ⟨(encB l).toArray⟩ := ⟨_, rfl⟩
      rw [← hS] at kc1 kc2
      have HSM := Lib.hid (same_any A2 A n4 n4 c2 c l l w5 HL.out HL.out H3.out H3.out (Rd.ownN O5.out) (HR.out.below B5.out) HMX.out HMX.out)
      clear bw5 ho5 hS O4 OB4 B4
      go_wp2_with fail
      refine HSM.out.mono ?_
      rintro e w6 ⟨rfl, q, rfl⟩
      simp only [decide_true]
      go_wp2_with fail
      go_ret
      exact ⟨rfl, below_drewN' B5.out q⟩
    · rcases hk with ⟨⟨hy, _⟩, _⟩ | ⟨_, rfl⟩ | ⟨⟨hy, _⟩, _⟩
      case inl => exact absurd hy hok
      case inr.inr => exact absurd hy hok
      have HOK := Lib.hid (show ¬ (okS 0 l ∧ l.length ≤ 65535) from fun h => hok h.1)
      clear bw hok hl6 hs2
      go_wp2_with fail
      refine (plain_any A n c l _ HL.out H3.out B3.out.size (HR.out.below B3.out) (by omega)).mono ?_
      rintro e w4 ⟨A4, n4, c4, rfl, ho4, bw4⟩
      have hn4 : n4 = n := by have := ho4.1; rw [HNL.out] at this; omega
      subst hn4
      have R4 := Lib.hid (Rd.ownN ho4)
      have B4 := Lib.hid (B3.out.trans (bw4.mono B3.out.size))
      clear ho4 bw4 O3 B3
      go_wp2_with fail
      refine (renc_any A4 n4 c4 l _ HL.out H3.out HD.out (Nat.le_refl _) R4.out (by omega)).mono ?_
      rintro e w5 ⟨bw5, ⟨hy, _⟩ | ⟨_, rfl⟩⟩
      case inl => exact absurd hy HOK.out
      have B5 := Lib.hid (B4.out.trans (bw5.mono B4.out.size))
      clear bw5 B4
      go_wp2_with fail
      go_ret
      exact ⟨rfl, B5.out⟩
theorem keycodeEncodes_own : ownKnob Try.prog.godebug = none := by kernel_rfl
theorem keycodeEncodes_laid : laidOutB Try.prog = true := by kernel_rfl

set_option maxRecDepth 100000 in
theorem keycodeEncodes_lifted (os : Os) (started : os.Started) (H : Type) (enc : TypeId × Value → H) :
    ReturnsInHanded {} Try.checked os 3 .any (Rows.keycodeEncodesSpec.pre6 enc Try.prog Try.f3 Rows.keycodeEncodesRow.domain false) (Rows.keycodeEncodesSpec.post enc Try.prog Try.f3 false true false false) := by
  refine returnsInHanded_of_change (C := Try.checked) keycodeEncodes_own started (by kernel_rfl) Try.func3
    (ChangeSpec.witness6 (enc := enc) (C := Try.checked) false ⟨#[], #[.slice none 0 0], []⟩ 8 (by kernel_rfl) (by kernel_rfl) (by kernel_rfl) (by kernel_rfl)) ?_
  intro W base args ds gs before hval0 hW _ _
  have hval : ∀ (j : Nat) t v, Try.f3.params[j]? = some t → args[j]? = some v → Value.okWide Try.prog W .any base t v := hval0
  have hW' := hW
  obtain ⟨p, q, hA0, hV, rfl, hfz, hnd⟩ := hW
  have hA : DataW.TrodAll enc Try.prog W 0 (fun _ => true) true Try.f3.params.toList args.toList ds p := hA0
  rw [Try.params3] at hA hval
  obtain ⟨v0, vs0, d0, ds0, p0, q0, hargs, rfl, rfl, h0, r0⟩ := trodAll_cons hA
  obtain ⟨rfl, rfl, rfl⟩ := trodAll_nil r0
  obtain rfl : args = #[v0] := by cases args; simp_all
  obtain ⟨rfl, rfl⟩ := trodVars_none hV
  obtain ⟨a0, n0, c0, rfl⟩ := okWide_slice Try.underlying22 (hval 0 22 v0 rfl rfl)
  have lt0 : ∀ x ∈ p0, x.block < W.heap.size := by obtain ⟨m, hm⟩ := h0; exact DataW.trod_lt m _ _ _ hm
  obtain ⟨l0, hl0, hc0, hm0, hr0, hz0⟩ := Kg.H.open_nodes h0
  clear hA0 hval0
  refine (keycodeEncodes_any W a0 n0 c0 l0 hl0 hc0 hm0 hr0 hz0).mono fun e W' ⟨he, bel⟩ => ?_
  subst he
  exact ⟨_, rfl, _, _, _, [], _, [], hW', trodAll_mk1 (shut_bool Try.underlying4 _), (trodAll_cons_mk (Below.trod keycodeEncodes_laid (by kernel_rfl) (of_decide_eq_true (by kernel_rfl)) h0 bel lt0) trodAll_mk0), rfl, bel.frame _, fun h => by cases h⟩

theorem keycodeEncodes_holds : Rows.KeycodeEncodesSaid :=
  OpenClaim.holds_of_wide 3 Try.f3 rfl rfl rfl rfl rfl rfl rfl ⟨rfl, rfl, rfl, rfl, rfl⟩ rfl rfl rfl rfl rfl (by kernel_rfl) Try.func3 (by kernel_rfl)
    (of_decide_eq_true (by kernel_rfl)) (by unfold Func.isWrapper; rw [if_neg (of_decide_eq_false (by kernel_rfl))]; exact ⟨rfl, rfl⟩)
    (fun os started H enc _ => keycodeEncodes_lifted os started H enc)

#print axioms keycodeEncodes_holds

end Go.Proofs.Ytippbjpodnnhiaa
