/-
  ShaPads holds: of every text the law returns true, and its argument reads as it did.
-/
import Derived.Test.YtgmoccglldpmdaaShRPad
import Derived.Test.YtgmoccglldpmdaaShAwake
import Derived.Test.YtgmoccglldpmdaaShSame
import Derived.Test.YtgmoccglldpmdaaOpen
import Derived.Test.YtgmoccglldpmdaaOpenA
import Derived.ProofKit
import Derived.OpenShut
import Derived.ShutString
import Derived.ChangeOld
namespace Go.Proofs.Ytgmoccglldpmdaa
open Go.RowKit Go.ChangeShapes Go.WideShapes Go.ChangeAt
theorem grown_trans {w w1 w2 : World} {row : Option Nat} (h : w.grownBy w1 row) (h' : w1.grownBy w2 row) : w.grownBy w2 row :=
  ⟨h'.os.trans h.os, h'.tape.trans h.tape, h'.output.trans h.output, Nat.le_trans h.size h'.size, fun k hk hne => (h'.block k (Nat.lt_of_lt_of_le hk h.size) hne).trans (h.block k hk hne)⟩
theorem rd_far {B g : Nat} {w w' : World} {A : Option Addr} {xs : List Value} (h : Rd B w A xs) (hg : w.grownBy w' (some g)) (hB : B ≤ g) : Rd B w' A xs := fun k u hu => by
  obtain ⟨ad, e, hl, hc⟩ := h k u hu
  refine ⟨ad, e, hl, hg.cell hc ?_⟩
  rw [add_block]
  intro h'
  injection h' with h'
  omega
theorem own_far {w w' : World} {base n g : Nat} {e : TypeId} {v : Value} {xs : List Value} (h : w.ownsRow base e 1 v n xs) (hg : w.grownBy w' (some g)) (hne : ∀ k, v.ownBlock = some k → k ≠ g) : w'.ownsRow base e 1 v n xs :=
  h.kept hg (by
    cases hv : v.ownBlock with
    | none => exact .inl rfl
    | some k => exact .inr (fun e => hne k hv (by injection e)))
set_option maxHeartbeats 1600000 in
theorem shaPads_any (w : World) (A : Option Addr) (n c : Nat) (l : List UInt8) (hl : l.length = n) (_ : n ≤ c) (_ : c ≤ maxLen) (hr : Rd w.heap.size w A (bv l)) :
    Calls Try.prog 3 #[.slice A n c] w (RetB (.bool true) w) := by
  have HL := Lib.hid hl
  have HR := Lib.hid hr
  clear hl hr
  by_cases hn : n ≤ 1000
  · go_enter Try.func3, Try.ntmps3
    go_wp2_with fail
    refine (awake_any _).mono ?_
    rintro e w1 ⟨rfl, bw1⟩
    have H1 := Lib.hid bw1
    clear bw1
    go_wp2_with (at_builtin
                 refine wpList_app _ rfl (.tmp 12) (.tmp 13) _ rfl bytesElt (base := w.heap.size) (v := .slice (some ⟨w1.heap.size, 0, none⟩) 0 0) rfl (World.ownsRow_lit w1 #[] 0 H1.out.size (Nat.zero_le _) rfl) (m := n) rfl ((HR.out.below H1.out).below ((Below.refl _ _).alloc H1.out.size _)) ((bv_length l).trans HL.out) (bv_one _) ?_ ?_ ?_
                 · omega
                 · simp; have := H1.out.size; omega
                 intro A2 c2 w2 ho2 hg2 _
                 have hb2 := app_below (H1.out.alloc H1.out.size _) (World.ownsRow_lit w1 #[] 0 H1.out.size (Nat.zero_le _) rfl) hg2 (Nat.le_refl _) (by simp; have := H1.out.size; omega)
                 have ho3 := own_eq ho2 (n' := n) (by omega) (xs' := bv l) rfl
                 have O2 := Lib.hid ho3
                 have B2 := Lib.hid hb2
                 clear ho2 ho3 hg2 hb2 H1
                 rw [Nat.zero_add])
    refine (pad_any A n c l _ HL.out B2.out.size (HR.out.below B2.out) (by omega)).mono ?_
    rintro e w3 ⟨A3, n3, c3, rfl, ho3, bw3⟩
    have O2' := Lib.hid (own_below O2.out bw3)
    have L2 := Lib.hid O2.out.lt
    have B3 := Lib.hid (B2.out.trans (bw3.mono B2.out.size))
    have O3 := Lib.hid ho3
    have hs3 := bw3.size
    have hs2 := B2.out.size
    clear O2 B2 bw3 ho3
    go_wp2_with fail
    refine (rpad_any A2 n c2 l _ HL.out (Nat.le_refl _) (Rd.own O2'.out) (by omega)).mono ?_
    rintro e w4 ⟨A4, n4, c4, rfl, ho4, bw4⟩
    have O2 := Lib.hid (own_below O2'.out bw4)
    have O3' := Lib.hid (own_below O3.out bw4)
    have L3 := Lib.hid O3.out.lt
    have B4 := Lib.hid (B3.out.trans (bw4.mono B3.out.size))
    have O4 := Lib.hid ho4
    have hs4 := bw4.size
    clear O2' O3 B3 bw4 ho4
    go_wp2_with fail
    refine (same_r (b := true) (decide_eq_true rfl) (own_blen O3'.out) (own_blen O4.out) (Rd.own O3'.out) (Rd.own O4.out) (own_max O3'.out) (own_max O4.out)).mono ?_
    rintro e w5 ⟨rfl, bw5⟩
    have P2 := Lib.hid (own_below O2.out bw5)
    have P3 := Lib.hid (own_below O3'.out bw5)
    have P4 := Lib.hid (own_below O4.out bw5)
    have L4 := Lib.hid O4.out.lt
    have B5 := Lib.hid (B4.out.trans (bw5.mono B4.out.size))
    have hs5 := bw5.size
    have hl3 : n3 = padN n := by rw [← own_blen O3'.out, padL_length, HL.out]
    have hp3 : n + 9 ≤ n3 ∧ n3 ≤ n + 72 := by rw [hl3]; unfold padN; omega
    clear hl3 O2 O3' O4 B4 bw5
    obtain ⟨g, rfl, hg0, hnc3, hcm3⟩ := own_addr P3.out (by omega)
    have hg1 := L3.out g rfl
    unfold maxLen at hcm3
    go_wp2_with fail
    go_loopw [6, 25] (fun _ i wr => ∃ (k : Nat) (ps : List Value), k ≤ n3 ∧ i = .int .i64 k ∧ w5.grownBy wr (some g) ∧ wr.ownsRow w2.heap.size 5 1 (.slice (some ⟨g, 0, none⟩) n3 c3) n3 ps) (fun _ i _ => n3 - (intOf i).toNat)
    case atStart => exact ⟨0, _, by omega, rfl, World.grownBy.refl _ _, P3.out⟩
    case round =>
      obtain ⟨k, ps, hk, rfl, hgr, how⟩ := hrel
      by_cases hlt : k < n3
      · have hc1 := how.cellAt k (by omega)
        have hf := how.frozenAt k
        have hlen := own_len how
        rw [List.getElem?_eq_getElem (by omega)] at hc1
        obtain ⟨v1, hv1⟩ : ∃ v, v = ps[k]'(by omega) := ⟨_, rfl⟩
        rw [← hv1] at hc1
        have k0 : (0 : Int) ≤ (k : Int) := by omega
        have HS := Lib.hid (how.stored k (.int .u8 0))
        have HG := Lib.hid hgr
        clear hgr how hlen hv1
        go_wp2
        go_roundw
        case rel => exact ⟨k + 1, _, by omega, by go_num, grown_trans HG.out HS.out.2, HS.out.1⟩
        case measure => simp [intOf]; omega
      · have Q2 := Lib.hid (own_far P2.out hgr (fun j hj => by have := L2.out j hj; omega))
        have Q4 := Lib.hid (own_far P4.out hgr (fun j hj => by have := L4.out j hj; omega))
        have QR := Lib.hid (rd_far (HR.out.below B5.out) hgr (by omega))
        have B6 := Lib.hid (B5.out.grown hgr B5.out.size (fun j hj => by injection hj with hj; omega))
        clear P2 P3 P4 B5 HR hgr how
        go_wp2_with fail
        refine (same_r (b := true) (decide_eq_true rfl) HL.out (own_blen Q2.out) QR.out (Rd.own Q2.out) (by unfold maxLen; omega) (own_max Q2.out)).mono ?_
        rintro e w7 ⟨rfl, bw7⟩
        have R4 := Lib.hid (own_below Q4.out bw7)
        have B7 := Lib.hid (B6.out.trans (bw7.mono B6.out.size))
        have RR := Lib.hid (QR.out.below (bw7.mono B6.out.size))
        clear Q2 Q4 QR B6 bw7
        go_wp2_with fail
        refine (pad_any A n c l _ HL.out B7.out.size RR.out (by omega)).mono ?_
        rintro e w8 ⟨A8, n8, c8, rfl, ho8, bw8⟩
        have O8 := Lib.hid ho8
        have S4 := Lib.hid (own_below R4.out bw8)
        have B8 := Lib.hid (B7.out.trans (bw8.mono B7.out.size))
        clear R4 B7 RR ho8 bw8
        go_wp2_with fail
        refine (same_r (b := true) (decide_eq_true rfl) (own_blen O8.out) (own_blen S4.out) (Rd.own O8.out) (Rd.own S4.out) (own_max O8.out) (own_max S4.out)).mono ?_
        rintro e w9 ⟨rfl, bw9⟩
        have B9 := Lib.hid (B8.out.trans (bw9.mono B8.out.size))
        clear B8 bw9
        go_wp2_with fail
        go_ret
        exact ⟨rfl, B9.out⟩
  · have hn' : ¬ (n : Int) ≤ 1000 := by omega
    go_enter Try.func3, Try.ntmps3
    go_wp2_with fail
    refine (awake_any _).mono ?_
    rintro e w1 ⟨rfl, bw1⟩
    have H1 := Lib.hid bw1
    clear bw1
    go_wp2_with fail
    go_ret
    exact ⟨rfl, H1.out⟩
theorem shaPads_own : ownKnob Try.prog.godebug = none := by kernel_rfl
theorem shaPads_laid : laidOutB Try.prog = true := by kernel_rfl

set_option maxRecDepth 100000 in
theorem shaPads_lifted (os : Os) (started : os.Started) (H : Type) (enc : TypeId × Value → H) :
    ReturnsInHanded {} Try.checked os 3 .any (Rows.shaPadsSpec.pre6 enc Try.prog Try.f3 Rows.shaPadsRow.domain false) (Rows.shaPadsSpec.post enc Try.prog Try.f3 false true false false) := by
  refine returnsInHanded_of_change (C := Try.checked) shaPads_own started (by kernel_rfl) Try.func3
    (ChangeSpec.witness6 (enc := enc) (C := Try.checked) false ⟨#[], #[.slice none 0 0], []⟩ 8 (by kernel_rfl) (by kernel_rfl) (by kernel_rfl) (by kernel_rfl)) ?_
  intro W base args ds gs before hval0 hW _ _
  have hval : ∀ (j : Nat) t v, Try.f3.params[j]? = some t → args[j]? = some v → Value.okWide Try.prog W .any base t v := hval0
  have hW' := hW
  obtain ⟨p, q, hA0, hV, rfl, hfz, hnd⟩ := hW
  have hA : DataW.TrodAll enc Try.prog W 0 (fun _ => true) true Try.f3.params.toList args.toList ds p := hA0
  rw [Try.params3] at hA hval
  obtain ⟨v0, vs0, d0, ds0, p0, q0, hargs, rfl, rfl, h0, r0⟩ := trodAll_cons hA
  obtain ⟨rfl, rfl, rfl⟩ := trodAll_nil r0
  obtain rfl : args = #[v0] := by cases args; simp_all
  obtain ⟨rfl, rfl⟩ := trodVars_none hV
  obtain ⟨a0, n0, c0, rfl⟩ := okWide_slice Try.underlying22 (hval 0 22 v0 rfl rfl)
  have lt0 : ∀ x ∈ p0, x.block < W.heap.size := by obtain ⟨m, hm⟩ := h0; exact DataW.trod_lt m _ _ _ hm
  obtain ⟨l0, hl0, hc0, hm0, hr0⟩ := open_bytes Try.underlying22 Try.underlying5 (by kernel_rfl) h0
  clear hA0 hval0
  refine (shaPads_any W a0 n0 c0 l0 hl0 hc0 hm0 hr0).mono fun e W' ⟨he, bel⟩ => ?_
  subst he
  exact ⟨_, rfl, _, _, _, [], _, [], hW', trodAll_mk1 (shut_bool Try.underlying4 _), (trodAll_cons_mk (Below.trod shaPads_laid (by kernel_rfl) (of_decide_eq_true (by kernel_rfl)) h0 bel lt0) trodAll_mk0), rfl, bel.frame _, fun h => by cases h⟩

theorem shaPads_holds : Rows.ShaPadsSaid :=
  OpenClaim.holds_of_wide 3 Try.f3 rfl rfl rfl rfl rfl rfl rfl ⟨rfl, rfl, rfl, rfl, rfl⟩ rfl rfl rfl rfl rfl (by kernel_rfl) Try.func3 (by kernel_rfl)
    (of_decide_eq_true (by kernel_rfl)) (by unfold Func.isWrapper; rw [if_neg (of_decide_eq_false (by kernel_rfl))]; exact ⟨rfl, rfl⟩)
    (fun os started H enc _ => shaPads_lifted os started H enc)

#print axioms shaPads_holds

end Go.Proofs.Ytgmoccglldpmdaa
