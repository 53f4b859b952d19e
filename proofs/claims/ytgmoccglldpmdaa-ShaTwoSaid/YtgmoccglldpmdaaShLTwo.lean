/-
  ShaTwo holds: of every two texts the law returns true, and its arguments read as they did.
-/
import Derived.Test.YtgmoccglldpmdaaShEq
import Derived.Test.YtgmoccglldpmdaaShAwake
import Derived.Test.YtgmoccglldpmdaaOld
import Derived.Test.YtgmoccglldpmdaaOpen
import Derived.Test.YtgmoccglldpmdaaOpenA
import Derived.ProofKit
import Derived.OpenShut
import Derived.ShutString
import Derived.ChangeOld
namespace Go.Proofs.Ytgmoccglldpmdaa
open Go.RowKit Go.ChangeShapes Go.WideShapes Go.ChangeAt
theorem bytesElt : Elt Try.prog 22 5 (.int .u8 0) 1 := ⟨Try.underlying22, by kernel_rfl, rfl, by omega⟩
/-- A hash is as it was behind a step that turns no block but one that it isn't. -/
theorem HashIs.far' {w w' : World} {g : Nat} {row : Option Nat} {t : List UInt8} (h : HashIs w g t) (hg : w.grownBy w' row) (hne : some g ≠ row) : HashIs w' g t := by
  obtain ⟨ws, rs, h1, h2, h3, h4⟩ := h
  refine ⟨ws, rs, h1, h2, h3, ?_⟩
  unfold Blk
  rw [hg.block g h4.lt hne]
  exact h4
set_option maxHeartbeats 3200000 in
theorem shaTwo_any (w : World) (A : Option Addr) (n c : Nat) (l : List UInt8) (hl : l.length = n) (hc : n ≤ c) (hm : c ≤ maxLen) (hr : Rd w.heap.size w A (bv l))
    (A' : Option Addr) (n' c' : Nat) (l' : List UInt8) (hl' : l'.length = n') (hc' : n' ≤ c') (hm' : c' ≤ maxLen) (hr' : Rd w.heap.size w A' (bv l')) :
    Calls Try.prog 9 #[.slice A n c, .slice A' n' c'] w (RetB (.bool true) w) := by
  have HL := Lib.hid hl
  have HR := Lib.hid hr
  have HL' := Lib.hid hl'
  have HR' := Lib.hid hr'
  clear hl hr hl' hr'
  by_cases hn : n ≤ 500
  · by_cases hn' : n' ≤ 500
    · have h3 : decide (500 < (n' : Int)) = false := by simp; omega
      have h4 : decide (500 < (n : Int)) = false := by simp; omega
      have heq : ∀ (t : List UInt8) (W : World), (Op.equalIn 10000 33 (.agg (bva (shaL t))) (.agg (bva (shaL t)))).run Try.prog W = .ok true W := fun t W => eq_key _ (shaL_length t) W
      have E1 := heq []
      have E2 := heq (l ++ l')
      have E3 := heq (l' ++ l)
      clear heq
      go_enter Try.func9, Try.ntmps9
      go_wp2_with fail
      refine (awake_any _).mono ?_
      rintro e w1 ⟨rfl, bw1⟩
      have H1 := Lib.hid bw1
      clear bw1
      go_wp2_with fail
      refine (new_any' _).mono ?_
      rintro e w2 ⟨g, rfl, hg1, hg2, hG, bw2⟩
      have B2 := Lib.hid (H1.out.trans (bw2.mono H1.out.size))
      have G2 := Lib.hid hG
      have hgw := Nat.le_trans H1.out.size hg1
      clear bw2 hG H1
      go_wp2_with fail
      refine (new_any' _).mono ?_
      rintro e w3 ⟨h, rfl, hh1, hh2, hH, bw3⟩
      have B3 := Lib.hid (B2.out.trans (bw3.mono B2.out.size))
      have G3 := Lib.hid (G2.out.below bw3)
      have I3 := Lib.hid hH
      have hhg : h ≠ g := by omega
      have hgh : g ≠ h := by omega
      have hhw : w.heap.size ≤ h := by omega
      clear bw3 hH B2 G2
      go_wp2_with fail
      refine (write_nil A n c _).mono ?_
      rintro e w' ⟨rfl, rfl⟩
      go_wp2_with fail
      refine (write_any g [] l A n c _ HL.out hc hm G3.out (Rf.of_rd (HR.out.below B3.out) hgw) (by show 0 + n ≤ _; omega)).mono ?_
      rintro e w4 ⟨rfl, hG, gr⟩
      have B4 := Lib.hid (B3.out.grown gr B3.out.size (fun k hk => by injection hk with hk; omega))
      have G4 := Lib.hid (show HashIs w4 g l from hG)
      have I4 := Lib.hid (I3.out.far gr hhg)
      clear hG gr G3 I3 B3
      go_wp2_with fail
      refine (write_any h [] l' A' n' c' _ HL'.out hc' hm' I4.out (Rf.of_rd (HR'.out.below B4.out) hhw) (by show 0 + n' ≤ _; omega)).mono ?_
      rintro e w5 ⟨rfl, hH, gr⟩
      have B5 := Lib.hid (B4.out.grown gr B4.out.size (fun k hk => by injection hk with hk; omega))
      have G5 := Lib.hid (G4.out.far gr hgh)
      have I5 := Lib.hid (show HashIs w5 h l' from hH)
      clear hH gr G4 I4 B4
      go_wp2_with fail
      refine (write_any g l l' A' n' c' _ HL'.out hc' hm' G5.out (Rf.of_rd (HR'.out.below B5.out) hgw) (by rw [HL.out]; omega)).mono ?_
      rintro e w6 ⟨rfl, hG, gr⟩
      have B6 := Lib.hid (B5.out.grown gr B5.out.size (fun k hk => by injection hk with hk; omega))
      have G6 := Lib.hid hG
      have I6 := Lib.hid (I5.out.far gr hhg)
      clear hG gr G5 I5 B5
      go_wp2_with fail
      refine (write_any h l' l A n c _ HL.out hc hm I6.out (Rf.of_rd (HR.out.below B6.out) hhw) (by rw [HL'.out]; omega)).mono ?_
      rintro e w7 ⟨rfl, hH, gr⟩
      have B7 := Lib.hid (B6.out.grown gr B6.out.size (fun k hk => by injection hk with hk; omega))
      have G7 := Lib.hid (G6.out.far gr hgh)
      have I7 := Lib.hid hH
      clear hH gr G6 I6 B6
      go_wp2_with fail
      refine (hsum_nil _).mono ?_
      rintro e w8 ⟨rfl, bw8⟩
      have B8 := Lib.hid (B7.out.trans (bw8.mono B7.out.size))
      have G8 := Lib.hid (G7.out.below bw8)
      have I8 := Lib.hid (I7.out.below bw8)
      clear bw8 B7 G7 I7
      go_wp2_with fail
      refine (sum_any none 0 0 [] _ rfl (Nat.le_refl _) Rd.none (by omega)).mono ?_
      rintro e w9 ⟨rfl, bw9⟩
      have B9 := Lib.hid (B8.out.trans (bw9.mono B8.out.size))
      have G9 := Lib.hid (G8.out.below bw9)
      have I9 := Lib.hid (I8.out.below bw9)
      clear bw9 B8 G8 I8
      go_wp2_with fail
      refine (hsum_any g (l ++ l') _ G9.out (by rw [List.length_append, HL.out, HL'.out]; omega)).mono ?_
      rintro e w10 ⟨rfl, bw⟩
      have C0 := Lib.hid (B9.out.trans (bw.mono B9.out.size))
      have I10 := Lib.hid (I9.out.below bw)
      clear bw B9 I9 G9
      go_wp2_with (first
        | (at_builtin
           refine wpList_app_if _ (by rfl) (.tmp 42) (.tmp 43) _ rfl bytesElt (base := w10.heap.size) (v := .slice (some ⟨w10.heap.size, 0, none⟩) 0 0) rfl (World.ownsRow_lit w10 #[] 0 (Nat.le_refl _) (Nat.zero_le _) rfl) (m := n) rfl ((HR.out.below C0.out).below ((Below.refl _ _).alloc C0.out.size _)) ((bv_length l).trans HL.out) (bv_one _) ?_ ?_ ?_
           · omega
           · simp
           intro A2 c2 wa ho2 hg2 _
           have hb2 := app_below (C0.out.alloc C0.out.size _) (World.ownsRow_lit w10 #[] 0 (Nat.le_refl _) (Nat.zero_le _) rfl) hg2 C0.out.size (by simp; have := C0.out.size; omega)
           have hsz2 : w10.heap.size ≤ wa.heap.size := by have := hg2.size; simp at this; omega
           have hszw := C0.out.size
           have ho3 := own_eq ho2 (n' := n) (by omega) (xs' := bv l) rfl
           have hIl := I10.out.lt
           have IA := Lib.hid ((I10.out.below (w' := World.alloc _ _) ((Below.refl _ _).alloc (Nat.le_refl _) _)).far' hg2 (by have := I10.out.lt; simp [Value.ownBlock]; omega))
           clear I10
           have O2 := Lib.hid ho3
           have BA := Lib.hid hb2
           clear ho2 ho3 hg2 hb2 C0
           rw [Nat.zero_add])
        | (at_builtin
           refine wpList_app_if _ (by rfl) (.tmp 44) (.tmp 45) _ rfl bytesElt (base := w10.heap.size) (v := .slice A2 n c2) rfl O2.out (m := n') rfl (HR'.out.below BA.out) ((bv_length l').trans HL'.out) (bv_one _) ?_ ?_ ?_
           · omega
           · exact hsz2
           intro A3 c3 wb ho4 hg4 _
           have hb4 := app_below BA.out O2.out hg4 hszw BA.out.size
           have IB := Lib.hid (IA.out.far' hg4 (by intro e; have h2 := O2.out.lt h e.symm; omega))
           clear IA
           have ho5 := own_eq ho4 rfl (xs' := bv (l ++ l')) (by rw [bv_append])
           have O3 := Lib.hid ho5
           have BB := Lib.hid hb4
           clear ho4 ho5 hg4 hb4 O2 BA))
      refine (sum_any A3 (n + n') c3 (l ++ l') _ (own_blen O3.out) (Nat.le_refl _) (Rd.own O3.out) (by omega)).mono ?_
      rintro e w10z ⟨rfl, bw⟩
      have B9z := Lib.hid (BB.out.trans (bw.mono BB.out.size))
      have I11 := Lib.hid (IB.out.below bw)
      clear IB
      clear bw BB O3
      go_wp2_with fail
      refine (hsum_any h (l' ++ l) _ I11.out (by rw [List.length_append, HL'.out, HL.out]; omega)).mono ?_
      rintro e w11 ⟨rfl, bw⟩
      have C0 := Lib.hid (B9z.out.trans (bw.mono B9z.out.size))
      skip
      clear bw B9z I11
      go_wp2_with (first
        | (at_builtin
           refine wpList_app_if _ (by rfl) (.tmp 53) (.tmp 54) _ rfl bytesElt (base := w11.heap.size) (v := .slice (some ⟨w11.heap.size, 0, none⟩) 0 0) rfl (World.ownsRow_lit w11 #[] 0 (Nat.le_refl _) (Nat.zero_le _) rfl) (m := n') rfl ((HR'.out.below C0.out).below ((Below.refl _ _).alloc C0.out.size _)) ((bv_length l').trans HL'.out) (bv_one _) ?_ ?_ ?_
           · omega
           · simp
           intro A2 c2 wa ho2 hg2 _
           have hb2 := app_below (C0.out.alloc C0.out.size _) (World.ownsRow_lit w11 #[] 0 (Nat.le_refl _) (Nat.zero_le _) rfl) hg2 C0.out.size (by simp; have := C0.out.size; omega)
           have hsz2 : w11.heap.size ≤ wa.heap.size := by have := hg2.size; simp at this; omega
           have hszw := C0.out.size
           have ho3 := own_eq ho2 (n' := n') (by omega) (xs' := bv l') rfl
           skip
           have O2 := Lib.hid ho3
           have BA := Lib.hid hb2
           clear ho2 ho3 hg2 hb2 C0
           rw [Nat.zero_add])
        | (at_builtin
           refine wpList_app_if _ (by rfl) (.tmp 55) (.tmp 56) _ rfl bytesElt (base := w11.heap.size) (v := .slice A2 n' c2) rfl O2.out (m := n) rfl (HR.out.below BA.out) ((bv_length l).trans HL.out) (bv_one _) ?_ ?_ ?_
           · omega
           · exact hsz2
           intro A3 c3 wb ho4 hg4 _
           have hb4 := app_below BA.out O2.out hg4 hszw BA.out.size
           skip
           have ho5 := own_eq ho4 rfl (xs' := bv (l' ++ l)) (by rw [bv_append])
           have O3 := Lib.hid ho5
           have BB := Lib.hid hb4
           clear ho4 ho5 hg4 hb4 O2 BA))
      refine (sum_any A3 (n' + n) c3 (l' ++ l) _ (own_blen O3.out) (Nat.le_refl _) (Rd.own O3.out) (by omega)).mono ?_
      rintro e w11z ⟨rfl, bw⟩
      have B9zz := Lib.hid (BB.out.trans (bw.mono BB.out.size))
      skip
      clear bw BB O3
      go_wp2_with fail
      go_ret
      exact ⟨rfl, B9zz.out⟩
    · have h1 : decide (500 < (n' : Int)) = true := by simp; omega
      have h2 : decide (500 < (n : Int)) = false := by simp; omega
      go_enter Try.func9, Try.ntmps9
      go_wp2_with fail
      refine (awake_any _).mono ?_
      rintro e w1 ⟨rfl, bw1⟩
      have H1 := Lib.hid bw1
      clear bw1
      go_wp2_with fail
      go_ret
      exact ⟨rfl, H1.out⟩
  · have h1 : decide (500 < (n : Int)) = true := by simp; omega
    go_enter Try.func9, Try.ntmps9
    go_wp2_with fail
    refine (awake_any _).mono ?_
    rintro e w1 ⟨rfl, bw1⟩
    have H1 := Lib.hid bw1
    clear bw1
    go_wp2_with fail
    go_ret
    exact ⟨rfl, H1.out⟩
theorem shaTwo_own : ownKnob Try.prog.godebug = none := by kernel_rfl
theorem shaTwo_laid : laidOutB Try.prog = true := by kernel_rfl

set_option maxRecDepth 100000 in
theorem shaTwo_lifted (os : Os) (started : os.Started) (H : Type) (enc : TypeId × Value → H) :
    ReturnsInHanded {} Try.checked os 9 .any (Rows.shaTwoSpec.pre6 enc Try.prog Try.f9 Rows.shaTwoRow.domain false) (Rows.shaTwoSpec.post enc Try.prog Try.f9 false true false false) := by
  refine returnsInHanded_of_change (C := Try.checked) shaTwo_own started (by kernel_rfl) Try.func9
    (ChangeSpec.witness6 (enc := enc) (C := Try.checked) false ⟨#[], #[.slice none 0 0, .slice none 0 0], []⟩ 8 (by kernel_rfl) (by kernel_rfl) (by kernel_rfl) (by kernel_rfl)) ?_
  intro W base args ds gs before hval0 hW _ _
  have hval : ∀ (j : Nat) t v, Try.f9.params[j]? = some t → args[j]? = some v → Value.okWide Try.prog W .any base t v := hval0
  have hW' := hW
  obtain ⟨p, q, hA0, hV, rfl, hfz, hnd⟩ := hW
  have hA : DataW.TrodAll enc Try.prog W 0 (fun _ => true) true Try.f9.params.toList args.toList ds p := hA0
  rw [Try.params9] at hA hval
  obtain ⟨v0, vs0, d0, ds0, p0, q0, hargs, rfl, rfl, h0, r0⟩ := trodAll_cons hA
  obtain ⟨v1, vs1, d1, ds1, p1, q1, rfl, rfl, rfl, h1, r1⟩ := trodAll_cons r0
  obtain ⟨rfl, rfl, rfl⟩ := trodAll_nil r1
  obtain rfl : args = #[v0, v1] := by cases args; simp_all
  obtain ⟨rfl, rfl⟩ := trodVars_none hV
  obtain ⟨a0, n0, c0, rfl⟩ := okWide_slice Try.underlying22 (hval 0 22 v0 rfl rfl)
  have lt0 : ∀ x ∈ p0, x.block < W.heap.size := by obtain ⟨m, hm⟩ := h0; exact DataW.trod_lt m _ _ _ hm
  obtain ⟨l0, hl0, hc0, hm0, hr0⟩ := open_bytes Try.underlying22 Try.underlying5 (by kernel_rfl) h0
  obtain ⟨a1, n1, c1, rfl⟩ := okWide_slice Try.underlying22 (hval 1 22 v1 rfl rfl)
  have lt1 : ∀ x ∈ p1, x.block < W.heap.size := by obtain ⟨m, hm⟩ := h1; exact DataW.trod_lt m _ _ _ hm
  obtain ⟨l1, hl1, hc1, hm1, hr1⟩ := open_bytes Try.underlying22 Try.underlying5 (by kernel_rfl) h1
  clear hA0 hval0
  refine (shaTwo_any W a0 n0 c0 l0 hl0 hc0 hm0 hr0 a1 n1 c1 l1 hl1 hc1 hm1 hr1).mono fun e W' ⟨he, bel⟩ => ?_
  subst he
  exact ⟨_, rfl, _, _, _, [], _, [], hW', trodAll_mk1 (shut_bool Try.underlying4 _), (trodAll_cons_mk (Below.trod shaTwo_laid (by kernel_rfl) (of_decide_eq_true (by kernel_rfl)) h0 bel lt0) (trodAll_cons_mk (Below.trod shaTwo_laid (by kernel_rfl) (of_decide_eq_true (by kernel_rfl)) h1 bel lt1) trodAll_mk0)), rfl, bel.frame _, fun h => by cases h⟩

theorem shaTwo_holds : Rows.ShaTwoSaid :=
  OpenClaim.holds_of_wide 9 Try.f9 rfl rfl rfl rfl rfl rfl rfl ⟨rfl, rfl, rfl, rfl, rfl⟩ rfl rfl rfl rfl rfl (by kernel_rfl) Try.func9 (by kernel_rfl)
    (of_decide_eq_true (by kernel_rfl)) (by unfold Func.isWrapper; rw [if_neg (of_decide_eq_false (by kernel_rfl))]; exact ⟨rfl, rfl⟩)
    (fun os started H enc _ => shaTwo_lifted os started H enc)

#print axioms shaTwo_holds

end Go.Proofs.Ytgmoccglldpmdaa
