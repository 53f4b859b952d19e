/-
  The law ScrubDown holds: with a device that is out nothing is scrubbed, and nothing counts; the walk goes on all the same. For any rows of pairs, whichever device.
-/
import Derived.Test.YtniamllcoemikaaMt1
import Derived.Test.YtniamllcoemikaaRows
import Derived.ProofKit
import Derived.OpenShut
import Derived.ShutString
import Derived.ChangeOld
namespace Go.Proofs.Ytniamllcoemikaa
open Go.RowKit Kd Mi Sc Go.ChangeShapes Go.WideShapes Go.ChangeAt
attribute [local go_sem ↓] Go.wp_at_zero Go.wp_at_succ
set_option maxRecDepth 100000 in
set_option maxHeartbeats 25600000 in
theorem scrubDown_any (w : World) (A : Option Addr) (N c : Nat) (l : List (UInt8 × UInt8)) (hl : l.length = N) (_ : N ≤ c) (_ : c ≤ maxLen) (hr : Rd w.heap.size w A (prs l)) (D : Option Addr) (M d : Nat) (r : List (UInt8 × UInt8)) (hl' : r.length = M) (_ : M ≤ d) (_ : d ≤ maxLen) (hr' : Rd w.heap.size w D (prs r)) (first : Bool) : Calls Try.prog 7 #[.slice A N c, .slice D M d, .bool first] w (RetB (.bool true) w) := by
  obtain ⟨z, hz0⟩ : ∃ z : List UInt8, z = zeroS := ⟨_, rfl⟩
  have hz : ∀ W, (zeroValue 37).run Try.prog W = .ok (.agg (bva z)) W := fun _ => by rw [hz0]; kernel_rfl
  have HZ3 := Lib.hid (show z.length = 128 by rw [hz0]; exact zeroS_length)
  clear hz0
  have HL := Lib.hid hl
  have HR := Lib.hid hr
  have HL' := Lib.hid hl'
  have HR' := Lib.hid hr'
  have B0 := Lib.hid (Below.refl w.heap.size w)
  clear hl hr hl' hr'
  go_enter Try.func7, Try.ntmps7
  go_wp2_with fail
  have hc := Sc.awake_any w
  refine hc.mono ?_
  clear hc
  rintro e w1 ⟨rfl, bw⟩
  have B1 := Lib.hid (B0.out.trans (bw.mono B0.out.size))
  clear bw B0
  by_cases hbig : 12 < N
  · have n1 : (12 : Int) < (N : Int) := by omega
    go_wp2_with fail
    refine (Sc.awake_any w1).mono ?_
    rintro e wz ⟨rfl, bz⟩
    go_wp2_with fail
    go_ret
    exact ⟨rfl, B1.out.trans (bz.mono B1.out.size)⟩
  by_cases hbig' : 12 < M
  · have n0 : ¬ (12 : Int) < (N : Int) := by omega
    have n1 : (12 : Int) < (M : Int) := by omega
    go_wp2_with fail
    refine (Sc.awake_any w1).mono ?_
    rintro e wz ⟨rfl, bz⟩
    go_wp2_with fail
    go_ret
    exact ⟨rfl, B1.out.trans (bz.mono B1.out.size)⟩
  have n0 : ¬ (12 : Int) < (N : Int) := by omega
  have n1 : ¬ (12 : Int) < (M : Int) := by omega
  have HNB := Lib.hid (show N ≤ 12 ∧ M ≤ 12 by omega)
  clear hbig hbig'
  obtain ⟨k, hk⟩ : ∃ k, k = min N M := ⟨_, rfl⟩
  obtain ⟨L0, hL0⟩ : ∃ L0, L0 = (l.take k).map sec2 := ⟨_, rfl⟩
  obtain ⟨L1, hL1⟩ : ∃ L1, L1 = (r.take k).map sec2 := ⟨_, rfl⟩
  have HP := Lib.hid (pair_any w1 B1.out.size (c := c) (d := d) HL.out HL'.out (HR.out.below B1.out) (HR'.out.below B1.out) HNB.out.1 HNB.out.2)
  rw [← hk, ← hL0, ← hL1] at HP
  have HKB := Lib.hid (show k ≤ 12 by have := HNB.out; omega)
  have HL0 := Lib.hid (show L0.length = k by rw [hL0, List.length_map, List.length_take, HL.out]; omega)
  have HL1 := Lib.hid (show L1.length = k by rw [hL1, List.length_map, List.length_take, HL'.out]; omega)
  have H03 := Lib.hid (show ∀ x ∈ L0, x.length = 128 by rw [hL0]; intro x hx; obtain ⟨y, _, rfl⟩ := List.mem_map.1 hx; exact sec2_length y)
  have H13 := Lib.hid (show ∀ x ∈ L1, x.length = 128 by rw [hL1]; intro x hx; obtain ⟨y, _, rfl⟩ := List.mem_map.1 hx; exact sec2_length y)
  have HFR := Lib.hid (start_fresh HL0.out HL1.out)
  clear hk hL0 hL1
  go_wp2_with fail
  have hc := HP.out
  refine hc.mono ?_
  clear hc
  rintro e w2 ⟨pw, g1, g2, g, s2, F2, U, V, cu, cv, rfl, h, hu, hv⟩
  have H2 := Lib.hid (show Mu.LM pw g1 g2 gG g w1 w2 s2 F2 (startM L0 L1 k) 0 from h)
  have RU2 := Lib.hid hu
  have RV2 := Lib.hid hv
  clear h hu hv
  clear HP
  go_wp2_with (show wpList _ _ _ ({ dst := none, op := .store 27 (.tmp 10) (.tmp 35), type := _, pos := _, after := _, guard := _ } :: _) _ _; apply Classical.byContradiction; intro hneg)
  refine hneg ?_
  clear hneg
  refine wpList_store_row rfl 27 (.tmp 10) (.tmp 35) rfl w2.heap.size #[.slice U k cu, .slice V k cv] rfl rfl 27 #[.slice none 0 0, .slice none 0 0] (heap_alloc_new _ _) secsAV_info rfl (by simp [Value.oneCell']) ?_
  obtain ⟨w3, hw3⟩ : ∃ w3, w3 = (w2.alloc (.cells #[.slice none 0 0, .slice none 0 0] 27)).setRow w2.heap.size #[.slice U k cu, .slice V k cv] := ⟨_, rfl⟩
  have bw : Below w2.heap.size w2 w3 := by rw [hw3]; exact below_setRow ((Below.refl _ _).alloc (Nat.le_refl _) _) (Nat.le_refl _) _
  have hbx : Blk w3 w2.heap.size #[.slice U k cu, .slice V k cv] 27 := by rw [hw3]; exact setRow_heap _ _ _ _ _ _ (heap_alloc_new _ _)
  rw [← hw3]
  clear hw3
  obtain ⟨b3, hb3⟩ : ∃ b3, b3 = w2.heap.size := ⟨_, rfl⟩
  rw [← hb3] at hbx
  rw [← hb3]
  have BS3 := Lib.hid (show Bx w1 w3 F2 b3 #[.slice U k cu, .slice V k cv] 27 from ⟨hbx, by rw [hb3]; exact H2.out.live.bel.size, fun hf => by have := (ML (Mu.one pw g1 g2) gG g).lt H2.out.live.at_ _ hf; omega⟩)
  clear hb3 hbx
  have RU3 := Lib.hid (RU2.out.below bw)
  have RV3 := Lib.hid (RV2.out.below bw)
  clear RU2 RV2
  have H3 := Lib.hid (H2.out.below bw)
  clear bw H2
  skip
  cases first
  case false =>
    go_wp2_with fail
    refine (Mu.lm_out1 H3.out true).mono ?_
    rintro e w4 ⟨rfl, s4, F4, h, hm4⟩
    have H4 := Lib.hid (show Mu.LM pw g1 g2 gG g w1 w4 s4 F4 ((startM L0 L1 k).out 1 true) 0 from h)
    have BS4 := Lib.hid (bx_dev BS3.out hm4.new hm4.but)
    clear h hm4 H3 BS3
    have HD := Lib.hid (show (((startM L0 L1 k).out 1 true).o0 || ((startM L0 L1 k).out 1 true).o1) = true from rfl)
    have HLN := Lib.hid (show ((startM L0 L1 k).out 1 true).a.length = k from start_len (L0 := L0) (L1 := L1))
    obtain ⟨xo, hxo⟩ : ∃ xo, xo = (startM L0 L1 k).out 1 true := ⟨_, rfl⟩
    rw [← hxo] at HD HLN H4
    clear hxo
    go_wp2_with fail
    refine (lw_new H4.out).mono ?_
    rintro e w5 ⟨q, F5, rfl, h, hn, hbw⟩
    have hb := but_below (T := F4) hbw
    have s5 := s4
    have H5 := Lib.hid (show LW pw g1 g2 gG g q w1 w5 s4 Wk.zero F5 xo 0 from h)
    have BSX5 := Lib.hid (bx_dev BS4.out hn hb)
    clear h hn hb hbw s5 H4 BS4
    have hbc : w5.cell? ⟨b3, 0, none⟩ = some (.slice U k cu) := BSX5.out.1.cell 0
    go_wp2_with fail
    clear hbc
    go_loopw [46] (fun i wr => ∃ (j : Nat) (s : Mr (Mu.one pw g1 g2)) (F : Nat → Prop), j ≤ k ∧ i = .int .i64 j ∧ LW pw g1 g2 gG g q w1 wr s ⟨j, 0, 0, 0⟩ F xo (0 + j)) (fun i _ => k - (intOf i).toNat)
    case atStart => exact ⟨0, _, _, Nat.zero_le _, rfl, H5.out⟩
    case round =>
      clear H5 BSX5
      obtain ⟨j, sj, Fj, hj, rfl, hlw⟩ := hrel
      have H := Lib.hid hlw
      have HJ := Lib.hid hj
      clear hlw hj
      by_cases hlt : j < k
      · have HLT := Lib.hid hlt
        have j1 : (j : Int) < (k : Int) := by omega
        have wj : IntKind.i64.wrap ((j : Int) + 1) = ((j + 1 : Nat) : Int) := IntWalk.i64_in _ (by have := HKB.out; omega)
        clear hlt
        go_wp2_with fail
        have hc := lw_step H.out ⟨by have := HKB.out; show j < 100000; omega, by show 0 < 100000; omega, by show 0 < 100000; omega, by show 0 < 100000; omega⟩ (by have := HKB.out; omega)
        rw [down_step HD.out (by rw [HLN.out]; exact HLT.out)] at hc
        refine hc.mono ?_
        clear hc
        rintro e wn ⟨rfl, sn, Fn, h, hn, hb⟩
        have HN := Lib.hid (show LW pw g1 g2 gG g q w1 wn sn ⟨j + 1, 0, 0, 0⟩ Fn xo (0 + (j + 1)) from h)
        clear h hn hb H
        rw [show tupS ((j : Int), true) = .tuple #[.int .i64 j, .bool true] from rfl]
        go_wp2_with fail
        go_roundw
        case rel => exact ⟨j + 1, sn, Fn, HLT.out, by go_num, HN.out⟩
        case measure => (have := HLT.out; simp [intOf]; omega)
      · obtain rfl : j = k := by have := HJ.out; omega
        have j1 : ¬ (j : Int) < (j : Int) := by omega
        clear hlt
        go_wp2_with fail
        have hc := lw_all H.out (by rw [HLN.out]; have := HKB.out; omega) (by have := HKB.out; omega)
        rw [HLN.out, down_run HD.out j (by rw [HLN.out]; exact Nat.le_refl _), show (⟨j, 0, 0, 0⟩ : Wk).rep = #[.int .i64 0, .int .i64 0, .int .i64 0] from rfl] at hc
        refine hc.mono ?_
        clear hc
        rintro e wn ⟨rfl, sn, Fn, h, hn, hb⟩
        have HN := Lib.hid h
        clear h hn hb H
        go_wp2_with fail
        have hc := is_any wn 0 0 0 0 0 0
        rw [if_pos ⟨rfl, rfl, rfl⟩] at hc
        refine hc.mono ?_
        clear hc
        rintro e wi ⟨rfl, bw⟩
        have HI := Lib.hid (HN.out.below bw)
        clear bw HN
        go_wp2_with fail
        have hc := lw_report HI.out
        rw [show (⟨j, 0, 0, 0⟩ : Wk).rep = #[.int .i64 0, .int .i64 0, .int .i64 0] from rfl] at hc
        refine hc.mono ?_
        clear hc
        rintro e wp ⟨rfl, bw⟩
        have HP := Lib.hid (HI.out.below bw)
        clear bw HI
        go_wp2_with fail
        have hc := is_any wp 0 0 0 0 0 0
        rw [if_pos ⟨rfl, rfl, rfl⟩] at hc
        refine hc.mono ?_
        clear hc
        rintro e wl ⟨rfl, bw⟩
        have HE := Lib.hid (HP.out.below bw)
        clear bw HP
        go_wp2_with fail
        go_ret
        exact ⟨rfl, B1.out.trans (HE.out.live.bel.mono B1.out.size)⟩
  case true =>
    go_wp2_with fail
    refine (Mu.lm_out0 H3.out true).mono ?_
    rintro e w4 ⟨rfl, s4, F4, h, hm4⟩
    have H4 := Lib.hid (show Mu.LM pw g1 g2 gG g w1 w4 s4 F4 ((startM L0 L1 k).out 0 true) 0 from h)
    have BS4 := Lib.hid (bx_dev BS3.out hm4.new hm4.but)
    clear h hm4 H3 BS3
    have HD := Lib.hid (show (((startM L0 L1 k).out 0 true).o0 || ((startM L0 L1 k).out 0 true).o1) = true from rfl)
    have HLN := Lib.hid (show ((startM L0 L1 k).out 0 true).a.length = k from start_len (L0 := L0) (L1 := L1))
    obtain ⟨xo, hxo⟩ : ∃ xo, xo = (startM L0 L1 k).out 0 true := ⟨_, rfl⟩
    rw [← hxo] at HD HLN H4
    clear hxo
    go_wp2_with fail
    refine (lw_new H4.out).mono ?_
    rintro e w5 ⟨q, F5, rfl, h, hn, hbw⟩
    have hb := but_below (T := F4) hbw
    have s5 := s4
    have H5 := Lib.hid (show LW pw g1 g2 gG g q w1 w5 s4 Wk.zero F5 xo 0 from h)
    have BSX5 := Lib.hid (bx_dev BS4.out hn hb)
    clear h hn hb hbw s5 H4 BS4
    have hbc : w5.cell? ⟨b3, 0, none⟩ = some (.slice U k cu) := BSX5.out.1.cell 0
    go_wp2_with fail
    clear hbc
    go_loopw [46] (fun i wr => ∃ (j : Nat) (s : Mr (Mu.one pw g1 g2)) (F : Nat → Prop), j ≤ k ∧ i = .int .i64 j ∧ LW pw g1 g2 gG g q w1 wr s ⟨j, 0, 0, 0⟩ F xo (0 + j)) (fun i _ => k - (intOf i).toNat)
    case atStart => exact ⟨0, _, _, Nat.zero_le _, rfl, H5.out⟩
    case round =>
      clear H5 BSX5
      obtain ⟨j, sj, Fj, hj, rfl, hlw⟩ := hrel
      have H := Lib.hid hlw
      have HJ := Lib.hid hj
      clear hlw hj
      by_cases hlt : j < k
      · have HLT := Lib.hid hlt
        have j1 : (j : Int) < (k : Int) := by omega
        have wj : IntKind.i64.wrap ((j : Int) + 1) = ((j + 1 : Nat) : Int) := IntWalk.i64_in _ (by have := HKB.out; omega)
        clear hlt
        go_wp2_with fail
        have hc := lw_step H.out ⟨by have := HKB.out; show j < 100000; omega, by show 0 < 100000; omega, by show 0 < 100000; omega, by show 0 < 100000; omega⟩ (by have := HKB.out; omega)
        rw [down_step HD.out (by rw [HLN.out]; exact HLT.out)] at hc
        refine hc.mono ?_
        clear hc
        rintro e wn ⟨rfl, sn, Fn, h, hn, hb⟩
        have HN := Lib.hid (show LW pw g1 g2 gG g q w1 wn sn ⟨j + 1, 0, 0, 0⟩ Fn xo (0 + (j + 1)) from h)
        clear h hn hb H
        rw [show tupS ((j : Int), true) = .tuple #[.int .i64 j, .bool true] from rfl]
        go_wp2_with fail
        go_roundw
        case rel => exact ⟨j + 1, sn, Fn, HLT.out, by go_num, HN.out⟩
        case measure => (have := HLT.out; simp [intOf]; omega)
      · obtain rfl : j = k := by have := HJ.out; omega
        have j1 : ¬ (j : Int) < (j : Int) := by omega
        clear hlt
        go_wp2_with fail
        have hc := lw_all H.out (by rw [HLN.out]; have := HKB.out; omega) (by have := HKB.out; omega)
        rw [HLN.out, down_run HD.out j (by rw [HLN.out]; exact Nat.le_refl _), show (⟨j, 0, 0, 0⟩ : Wk).rep = #[.int .i64 0, .int .i64 0, .int .i64 0] from rfl] at hc
        refine hc.mono ?_
        clear hc
        rintro e wn ⟨rfl, sn, Fn, h, hn, hb⟩
        have HN := Lib.hid h
        clear h hn hb H
        go_wp2_with fail
        have hc := is_any wn 0 0 0 0 0 0
        rw [if_pos ⟨rfl, rfl, rfl⟩] at hc
        refine hc.mono ?_
        clear hc
        rintro e wi ⟨rfl, bw⟩
        have HI := Lib.hid (HN.out.below bw)
        clear bw HN
        go_wp2_with fail
        have hc := lw_report HI.out
        rw [show (⟨j, 0, 0, 0⟩ : Wk).rep = #[.int .i64 0, .int .i64 0, .int .i64 0] from rfl] at hc
        refine hc.mono ?_
        clear hc
        rintro e wp ⟨rfl, bw⟩
        have HP := Lib.hid (HI.out.below bw)
        clear bw HI
        go_wp2_with fail
        have hc := is_any wp 0 0 0 0 0 0
        rw [if_pos ⟨rfl, rfl, rfl⟩] at hc
        refine hc.mono ?_
        clear hc
        rintro e wl ⟨rfl, bw⟩
        have HE := Lib.hid (HP.out.below bw)
        clear bw HP
        go_wp2_with fail
        go_ret
        exact ⟨rfl, B1.out.trans (HE.out.live.bel.mono B1.out.size)⟩
theorem scrubDown_own : ownKnob Try.prog.godebug = none := by kernel_rfl
theorem scrubDown_laid : laidOutB Try.prog = true := by kernel_rfl

set_option maxRecDepth 100000 in
theorem scrubDown_lifted (os : Os) (started : os.Started) (H : Type) (enc : TypeId × Value → H) :
    ReturnsInHanded {} Try.checked os 7 .any (Rows.scrubDownSpec.pre6 enc Try.prog Try.f7 Rows.scrubDownRow.domain false) (Rows.scrubDownSpec.post enc Try.prog Try.f7 false true false false) := by
  refine returnsInHanded_of_change (C := Try.checked) scrubDown_own started (by kernel_rfl) Try.func7
    (ChangeSpec.witness6 (enc := enc) (C := Try.checked) false ⟨#[], #[.slice none 0 0, .slice none 0 0, .bool false], []⟩ 8 (by kernel_rfl) (by kernel_rfl) (by kernel_rfl) (by kernel_rfl)) ?_
  intro W base args ds gs before hval0 hW _ _
  have hval : ∀ (j : Nat) t v, Try.f7.params[j]? = some t → args[j]? = some v → Value.okWide Try.prog W .any base t v := hval0
  have hW' := hW
  obtain ⟨p, q, hA0, hV, rfl, hfz, hnd⟩ := hW
  have hA : DataW.TrodAll enc Try.prog W 0 (fun _ => true) true Try.f7.params.toList args.toList ds p := hA0
  rw [Try.params7] at hA hval
  obtain ⟨v0, vs0, d0, ds0, p0, q0, hargs, rfl, rfl, h0, r0⟩ := trodAll_cons hA
  obtain ⟨v1, vs1, d1, ds1, p1, q1, rfl, rfl, rfl, h1, r1⟩ := trodAll_cons r0
  obtain ⟨v2, vs2, d2, ds2, p2, q2, rfl, rfl, rfl, h2, r2⟩ := trodAll_cons r1
  obtain ⟨rfl, rfl, rfl⟩ := trodAll_nil r2
  obtain rfl : args = #[v0, v1, v2] := by cases args; simp_all
  obtain ⟨rfl, rfl⟩ := trodVars_none hV
  obtain ⟨a0, n0, c0, rfl⟩ := okWide_slice Try.underlying22 (hval 0 22 v0 rfl rfl)
  have lt0 : ∀ x ∈ p0, x.block < W.heap.size := by obtain ⟨m, hm⟩ := h0; exact DataW.trod_lt m _ _ _ hm
  obtain ⟨l0, hl0, hc0, hm0, hr0⟩ := Sc.open_pairs h0
  obtain ⟨a1, n1, c1, rfl⟩ := okWide_slice Try.underlying22 (hval 1 22 v1 rfl rfl)
  have lt1 : ∀ x ∈ p1, x.block < W.heap.size := by obtain ⟨m, hm⟩ := h1; exact DataW.trod_lt m _ _ _ hm
  obtain ⟨l1, hl1, hc1, hm1, hr1⟩ := Sc.open_pairs h1
  obtain ⟨a2, rfl, rfl, rfl⟩ := open_bool Try.underlying4 (hval 2 4 v2 rfl rfl) h2
  clear hA0 hval0
  refine (scrubDown_any W a0 n0 c0 l0 hl0 hc0 hm0 hr0 a1 n1 c1 l1 hl1 hc1 hm1 hr1 a2).mono fun e W' ⟨he, bel⟩ => ?_
  subst he
  exact ⟨_, rfl, _, _, _, [], _, [], hW', trodAll_mk1 (shut_bool Try.underlying4 _), (trodAll_cons_mk (Below.trod scrubDown_laid (by kernel_rfl) (of_decide_eq_true (by kernel_rfl)) h0 bel lt0) (trodAll_cons_mk (Below.trod scrubDown_laid (by kernel_rfl) (of_decide_eq_true (by kernel_rfl)) h1 bel lt1) (trodAll_cons_mk (shut_bool Try.underlying4 a2) trodAll_mk0))), rfl, bel.frame _, fun h => by cases h⟩

theorem scrubDown_holds : Rows.ScrubDownSaid :=
  OpenClaim.holds_of_wide 7 Try.f7 rfl rfl rfl rfl rfl rfl rfl ⟨rfl, rfl, rfl, rfl, rfl⟩ rfl rfl rfl rfl rfl (by kernel_rfl) Try.func7 (by kernel_rfl)
    (of_decide_eq_true (by kernel_rfl)) (by unfold Func.isWrapper; rw [if_neg (of_decide_eq_false (by kernel_rfl))]; exact ⟨rfl, rfl⟩)
    (fun os started H enc _ => scrubDown_lifted os started H enc)

#print axioms scrubDown_holds

end Go.Proofs.Ytniamllcoemikaa
