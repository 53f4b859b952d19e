/-
  KeycodeDecodes holds: one spelling: the nodes of any bytes, or that they are none's, are what the document says, and come to the same bytes.
-/
import Derived.Test.YtippbjpodnnhiaaMi1
import Derived.BigQuiet
import Derived.Test.YtippbjpodnnhiaaRows
import Derived.ProofKit
import Derived.OpenShut
import Derived.ShutString
import Derived.ChangeOld
namespace Go.Proofs.Ytippbjpodnnhiaa
open Go.RowKit Go.ChangeShapes Go.WideShapes Go.ChangeAt
open Kg Kc
attribute [local go_sem ↓] Go.wp_at_zero Go.wp_at_succ
set_option maxRecDepth 100000 in
set_option maxHeartbeats 3200000 in
theorem keycodeDecodes_any (w : World) (A : Option Addr) (n c : Nat) (b : List UInt8) (hl : b.length = n) (hc : n ≤ c) (_hm : c ≤ maxLen) (hr : Rd w.heap.size w A (bv b)) :
    Calls Try.prog 4 #[.slice A n c] w (RetB (.bool true) w) := by
  have HL := Lib.hid hl
  have HR := Lib.hid hr
  have HC := Lib.hid hc
  clear hl _hm hr
  go_enter Try.func4, Try.ntmps4
  go_wp2_with fail
  refine (kcAwake_any _).mono ?_
  rintro e w1 ⟨rfl, bw⟩
  have B1 := Lib.hid bw
  clear bw
  by_cases h15 : (n : Int) > 1500
  · have d6 : decide ((n : Int) > 1500) = true := decide_eq_true h15
    go_wp2_with fail
    go_ret
    exact ⟨rfl, B1.out⟩
  · have d6 : decide ((n : Int) > 1500) = false := decide_eq_false h15
    have hn : n ≤ 1500 := by omega
    clear h15 hc
    go_wp2_with fail
    refine (kdec_any A n c b _ HL.out HC.out B1.out.size (HR.out.below B1.out) (by omega)).mono ?_
    rintro e w2 ⟨bw, hk⟩
    have B2 := Lib.hid (B1.out.trans (bw.mono B1.out.size))
    have hs1 := B1.out.size
    by_cases hok : okY b
    · rcases hk with ⟨_, A2, m2, c2, rfl, ho⟩ | ⟨hno, _⟩
      case inr => exact absurd hok hno
      obtain ⟨l, hll⟩ : ∃ l, l = decN (manyY b) (b.drop 2) := ⟨_, rfl⟩
      have henc := enc_decB hok
      have hokS := hok.2.2
      rw [← hll] at ho henc hokS
      have hf := okS_fits hokS
      have h3 : ∀ x ∈ l, x.s.length = 32 := fun x hx => (hf x hx).2.2.2.2
      have hm2 : l.length = m2 := by have := ho.1; rw [nvs_length h3] at this; omega
      have H3 := Lib.hid h3
      have HA := Lib.hid (show ∀ x ∈ l, 0 ≤ x.a from fun x hx => (hf x hx).2.2.1)
      have HE := Lib.hid henc
      have HS := Lib.hid hokS
      have HM := Lib.hid hm2
      have HLL := Lib.hid hll
      have HOK := Lib.hid hok
      have O2 := Lib.hid (own_moreN ho hs1)
      have hm6 : m2 ≤ 65535 := by rw [← hm2]; exact henc.2
      clear bw ho henc hokS hf h3 hm2 hok hll B1 hs1
      go_wp2_with fail
      refine (rdec_any A n c b _ HL.out B2.out.size (HR.out.below B2.out) (by omega)).mono ?_
      rintro e w3 ⟨bw, ⟨_, A3, m3, c3, rfl, ho⟩ | ⟨hno, _⟩⟩
      case inr => exact absurd HOK.out hno
      rw [← HLL.out] at ho
      have hm3 : m3 = m2 := by have := ho.1; rw [nvs_length H3.out, HM.out] at this; omega
      subst hm3
      have O3 := Lib.hid (own_belowN O2.out bw)
      have P3 := Lib.hid (own_moreN ho B2.out.size)
      have B3 := Lib.hid (B2.out.trans (bw.mono B2.out.size))
      clear bw ho O2 B2
      go_wp2_with fail
      refine (plain_any A2 m3 c2 l _ HM.out H3.out (Nat.le_refl _) (Rd.ownN O3.out) (by omega)).mono ?_
      rintro e w4 ⟨A4, m4, c4, rfl, ho, bw⟩
      have hm4 : m4 = m3 := by have := ho.1; rw [nvs_length H3.out, HM.out] at this; omega
      subst hm4
      have O4 := Lib.hid (own_belowN O3.out bw)
      have P4 := Lib.hid (own_belowN P3.out bw)
      have Q4 := Lib.hid (own_moreN ho B3.out.size)
      have B4 := Lib.hid (B3.out.trans (bw.mono B3.out.size))
      clear bw ho O3 P3 B3
      go_wp2_with fail
      have HN4 := Lib.hid (show m4 ≤ 65535 from hm6)
      go_loopw [8, 48] (fun _ i wr => ∃ k q : Nat, k ≤ m4 ∧ i = .int .i64 k ∧ wr = w4.drewN q) (fun _ i _ => m4 - (intOf i).toNat)
      case atStart => exact ⟨0, 0, Nat.zero_le _, rfl, rfl⟩
      case round =>
        obtain ⟨k, q, hk, rfl, rfl⟩ := hrel
        by_cases hlt : k < m4
        · have hkl : k < l.length := by rw [HM.out]; exact hlt
          obtain ⟨ad, hA, _, hca⟩ := rd_node (Rd.ownN Q4.out) H3.out hkl
          obtain ⟨bd, hB, _, hcb⟩ := rd_node (Rd.ownN P4.out) H3.out hkl
          subst hA
          subst hB
          have h0 : (0 : Int) ≤ (k : Int) := by omega
          have h1 : (k : Int) < (m4 : Int) := by omega
          have ek : IntKind.i64.wrap ((k : Int) + 1) = ((k + 1 : Nat) : Int) := by rw [IntWalk.i64_in _ (by omega)]; omega
          obtain ⟨x, hx⟩ : ∃ x, x = l[k] := ⟨_, rfl⟩
          have hxs : x.s.length = 32 := by rw [hx]; exact H3.out _ (List.getElem_mem hkl)
          rw [← hx] at hca hcb
          have HIX : Hid ((Try.prog.info? 41).map (·.size) = some (ndV x).length) := by rw [ndV_length hxs]; exact info_node
          have heq := eq_node x x hxs hxs
          simp only [decide_true] at heq
          clear hx hxs hkl hm6
          go_wp2_with fail
          refine wp_region_held_drew (S := fun w' => ∃ q', w' = w4.drewN q') (by kernel_rfl) ⟨q + 1, rfl⟩ (fun hh => ?_)
          have HH := Lib.hid hh
          clear hh
          refine wpAnyH_take (i := 0) (v := ?va0) rfl (by kernel_rfl) (by kernel_rfl) (by kernel_rfl) (fun _ _ _ h => h) (Or.inl ⟨by rfl, fun w' _ => ?ya0⟩) HH.out ?_
          case ya0 => (go_simp; try with_reducible rfl)
          refine wpAnyH_take (i := 1) (v := ?va1) rfl (by kernel_rfl) (by kernel_rfl) (by kernel_rfl) (fun _ _ _ h => h) (Or.inl ⟨by rfl, fun w' _ => ?ya1⟩) HH.out ?_
          case ya1 => (go_simp; try with_reducible rfl)
          try simp only [List.getElem_toArray, List.getElem_cons_succ, List.getElem_cons_zero, Act.put, List.setIfInBounds_toArray, List.set_cons_zero, List.set_cons_succ]
          refine wpAnyH_take (i := 2) (v := ?va2) rfl (by kernel_rfl) (by kernel_rfl) (by kernel_rfl) (fun _ _ _ h => h) (Or.inl ⟨by rfl, fun w' _ => ?ya2⟩) HH.out ?_
          case ya2 => (go_simp; try with_reducible rfl)
          refine wpAnyH_take (i := 3) (v := .agg (ndC x)) rfl (by kernel_rfl) (by kernel_rfl) (by kernel_rfl) (fun _ _ _ h => h) (Or.inl ⟨by rfl, fun w' hw' => ?ya3⟩) HH.out ?_
          case ya3 => (obtain ⟨q', rfl⟩ := hw'; exact exec_load_at 41 (.tmp 53) rfl (ad.add (k * 34)) rfl hca Try.underlying41 rfl HIX.out)
          refine wpAnyH_take (i := 4) (v := ?va4) rfl (by kernel_rfl) (by kernel_rfl) (by kernel_rfl) (fun _ _ _ h => h) (Or.inl ⟨by rfl, fun w' _ => ?ya4⟩) HH.out ?_
          case ya4 => (go_simp; try with_reducible rfl)
          try simp only [List.getElem_toArray, List.getElem_cons_succ, List.getElem_cons_zero, Act.put, List.setIfInBounds_toArray, List.set_cons_zero, List.set_cons_succ]
          refine wpAnyH_take (i := 5) (v := ?va5) rfl (by kernel_rfl) (by kernel_rfl) (by kernel_rfl) (fun _ _ _ h => h) (Or.inl ⟨by rfl, fun w' _ => ?ya5⟩) HH.out ?_
          case ya5 => (go_simp; try with_reducible rfl)
          refine wpAnyH_take (i := 6) (v := ?va6) rfl (by kernel_rfl) (by kernel_rfl) (by kernel_rfl) (fun _ _ _ h => h) (Or.inl ⟨by rfl, fun w' _ => ?ya6⟩) HH.out ?_
          case ya6 => (go_simp; try with_reducible rfl)
          refine wpAnyH_take (i := 7) (v := .agg (ndC x)) rfl (by kernel_rfl) (by kernel_rfl) (by kernel_rfl) (fun _ _ _ h => h) (Or.inl ⟨by rfl, fun w' hw' => ?ya7⟩) HH.out ?_
          case ya7 => (obtain ⟨q', rfl⟩ := hw'; exact exec_load_at 41 (.tmp 57) rfl (bd.add (k * 34)) rfl hcb Try.underlying41 rfl HIX.out)
          try simp only [List.getElem_toArray, List.getElem_cons_succ, List.getElem_cons_zero, Act.put, List.setIfInBounds_toArray, List.set_cons_zero, List.set_cons_succ]
          refine wpAnyH_take (i := 8) (v := ?va8) rfl (by kernel_rfl) (by kernel_rfl) (by kernel_rfl) (fun _ _ _ h => h) (Or.inl ⟨by rfl, fun w' _ => ?ya8⟩) HH.out ?_
          case ya8 => (go_simp; try with_reducible rfl)
          try simp only [List.getElem_toArray, List.getElem_cons_succ, List.getElem_cons_zero, Act.put, List.setIfInBounds_toArray, List.set_cons_zero, List.set_cons_succ]
          refine wpAnyH_done (by kernel_rfl) ?_ _
          obtain ⟨q2, hq2⟩ := HH.out
          go_wp2_with fail
          go_roundw
          case rel => exact ⟨k + 1, _, by omega, by go_num, rfl⟩
          case measure => simp [intOf]; omega
        · obtain rfl : k = m4 := by omega
          clear hm6
          go_wp2_with fail
          refine (kenc_any A2 k c2 l (w4.drewN q) HM.out H3.out HA.out (Nat.le_refl _) ((Rd.ownN O4.out).drewN q) (by have := HN4.out; omega)).mono ?_
          rintro e w5 ⟨bw, ⟨_, A5, m5, c5, rfl, ho⟩ | ⟨hno, _⟩ | ⟨⟨_, hno⟩, _⟩⟩
          case inr.inl => exact absurd HS.out hno
          case inr.inr => exact absurd hno (by rw [HM.out]; have := HN4.out; omega)
          rw [HE.out.1] at ho
          have bq := below_drewN' B4.out q
          have B5 := Lib.hid (bq.trans (bw.mono bq.size))
          have kc1 := conv_rd (c := c5) Try.underlying24 Try.underlying5 Try.underlying9 (Rd.own ho) (own_blen ho)
          have kc2 := conv_rd (c := c) Try.underlying24 Try.underlying5 Try.underlying9 (HR.out.below B5.out) HL.out
          obtain ⟨S, hS⟩ : ∃ S : ByteArray, S = ⟨b.toArray⟩ := ⟨_, rfl⟩
          rw [← hS] at kc1 kc2
          clear bw ho hS bq
          go_wp2_with fail
          go_ret
          exact ⟨rfl, B5.out⟩
    · rcases hk with ⟨hy, _⟩ | ⟨_, rfl⟩
      case inl => exact absurd hy hok
      have HOK := Lib.hid hok
      clear bw hok B1
      go_wp2_with fail
      refine (rdec_any A n c b _ HL.out B2.out.size (HR.out.below B2.out) (by omega)).mono ?_
      rintro e w3 ⟨bw, ⟨hy, _⟩ | ⟨_, rfl⟩⟩
      case inl => exact absurd hy HOK.out
      have B3 := Lib.hid (B2.out.trans (bw.mono B2.out.size))
      clear bw B2
      go_wp2_with fail
      go_ret
      exact ⟨rfl, B3.out⟩
theorem keycodeDecodes_own : ownKnob Try.prog.godebug = none := by kernel_rfl
theorem keycodeDecodes_laid : laidOutB Try.prog = true := by kernel_rfl

set_option maxRecDepth 100000 in
theorem keycodeDecodes_lifted (os : Os) (started : os.Started) (H : Type) (enc : TypeId × Value → H) :
    ReturnsInHanded {} Try.checked os 4 .any (Rows.keycodeDecodesSpec.pre6 enc Try.prog Try.f4 Rows.keycodeDecodesRow.domain false) (Rows.keycodeDecodesSpec.post enc Try.prog Try.f4 false true false false) := by
  refine returnsInHanded_of_change (C := Try.checked) keycodeDecodes_own started (by kernel_rfl) Try.func4
    (ChangeSpec.witness6 (enc := enc) (C := Try.checked) false ⟨#[], #[.slice none 0 0], []⟩ 8 (by kernel_rfl) (by kernel_rfl) (by kernel_rfl) (by kernel_rfl)) ?_
  intro W base args ds gs before hval0 hW _ _
  have hval : ∀ (j : Nat) t v, Try.f4.params[j]? = some t → args[j]? = some v → Value.okWide Try.prog W .any base t v := hval0
  have hW' := hW
  obtain ⟨p, q, hA0, hV, rfl, hfz, hnd⟩ := hW
  have hA : DataW.TrodAll enc Try.prog W 0 (fun _ => true) true Try.f4.params.toList args.toList ds p := hA0
  rw [Try.params4] at hA hval
  obtain ⟨v0, vs0, d0, ds0, p0, q0, hargs, rfl, rfl, h0, r0⟩ := trodAll_cons hA
  obtain ⟨rfl, rfl, rfl⟩ := trodAll_nil r0
  obtain rfl : args = #[v0] := by cases args; simp_all
  obtain ⟨rfl, rfl⟩ := trodVars_none hV
  obtain ⟨a0, n0, c0, rfl⟩ := okWide_slice Try.underlying24 (hval 0 24 v0 rfl rfl)
  have lt0 : ∀ x ∈ p0, x.block < W.heap.size := by obtain ⟨m, hm⟩ := h0; exact DataW.trod_lt m _ _ _ hm
  obtain ⟨l0, hl0, hc0, hm0, hr0⟩ := open_bytes Try.underlying24 Try.underlying5 (by kernel_rfl) h0
  clear hA0 hval0
  refine (keycodeDecodes_any W a0 n0 c0 l0 hl0 hc0 hm0 hr0).mono fun e W' ⟨he, bel⟩ => ?_
  subst he
  exact ⟨_, rfl, _, _, _, [], _, [], hW', trodAll_mk1 (shut_bool Try.underlying4 _), (trodAll_cons_mk (Below.trod keycodeDecodes_laid (by kernel_rfl) (of_decide_eq_true (by kernel_rfl)) h0 bel lt0) trodAll_mk0), rfl, bel.frame _, fun h => by cases h⟩

theorem keycodeDecodes_holds : Rows.KeycodeDecodesSaid :=
  OpenClaim.holds_of_wide 4 Try.f4 rfl rfl rfl rfl rfl rfl rfl ⟨rfl, rfl, rfl, rfl, rfl⟩ rfl rfl rfl rfl rfl (by kernel_rfl) Try.func4 (by kernel_rfl)
    (of_decide_eq_true (by kernel_rfl)) (by unfold Func.isWrapper; rw [if_neg (of_decide_eq_false (by kernel_rfl))]; exact ⟨rfl, rfl⟩)
    (fun os started H enc _ => keycodeDecodes_lifted os started H enc)

#print axioms keycodeDecodes_holds

end Go.Proofs.Ytippbjpodnnhiaa
