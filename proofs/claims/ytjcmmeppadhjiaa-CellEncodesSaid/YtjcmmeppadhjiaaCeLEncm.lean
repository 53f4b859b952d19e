/-
  CellEncodes holds: of every cell the law returns true, and its argument reads as it did.
-/
import Derived.Test.YtjcmmeppadhjiaaCa4
import Derived.Deep.Cut
import Derived.Deep.RegionHeld
import Derived.Test.YtjcmmeppadhjiaaRows
import Derived.ProofKit
import Derived.OpenShut
import Derived.ShutString
import Derived.ChangeOld
namespace Go.Proofs.Ytjcmmeppadhjiaa
open Go.RowKit Ce Go.ChangeShapes Go.WideShapes Go.ChangeAt
attribute [local go_sem ↓] Go.wp_at_zero Go.wp_at_succ
set_option maxRecDepth 100000 in
set_option maxHeartbeats 12800000 in
theorem cellEncodes_any (w : World) (x : Cl) (A : Option Addr) (c : Nat) (_ : x.okB) (_ : x.body.length ≤ c) (_ : c ≤ maxLen) (hr : Rd w.heap.size w A (bv x.body)) : Calls Try.prog 4 #[.agg (clA x A c)] w (RetB (.bool true) w) := by
  obtain ⟨cs, hcs⟩ : ∃ cs, cs = clA x A c := ⟨_, rfl⟩
  rw [← hcs]
  obtain ⟨w0, hw0⟩ : ∃ v, v = (w.alloc (.cells cs 27)) := ⟨_, rfl⟩
  have BW := Lib.hid (show Below w.heap.size w w0 from by rw [hw0]; exact bel1 _ _)
  have X := Lib.hid (show Blk w0 (w.heap.size) cs 27 from by rw [hw0]; exact heap_alloc_new _ _)
  have HEN := Lib.hid (show ∀ W, Below w0.heap.size w0 W → Calls Try.prog 18 #[.agg cs] W (RetRowE (bv (encX x)) (errX x) W) from fun W hW => by rw [hcs]; exact encode_any x A c W ((hr.below BW.out).below (hW.mono BW.out.size)) (Nat.le_trans BW.out.size hW.size))
  have HRT := Lib.hid (show ∀ W, Calls Try.prog 15 #[.agg cs] W (RetB (.bool (decide (okCl x))) W) from fun W => by rw [hcs]; exact right_any x A c W)
  have HCR := Lib.hid (show ∀ W, Below w0.heap.size w0 W → Calls Try.prog 13 #[.agg cs] W (RetB (.bool (decide (okCl x))) W) from fun W hW => by rw [hcs]; exact cright_any x A c W ((hr.below BW.out).below (hW.mono BW.out.size)) (Nat.le_trans BW.out.size hW.size))
  have HSZ := Lib.hid (show ∀ W, Calls Try.prog 16 #[.agg cs] W (RetB (.int .i64 (if okCl x then ((encCl x).length : Int) else 0)) W) from fun W => by rw [hcs]; exact size_any x A c W)
  have HCE := Lib.hid (show okCl x → ∀ W, Below w0.heap.size w0 W → Calls Try.prog 14 #[.agg cs] W (RetRow 5 (bv (encCl x)) W) from fun ok W hW => by rw [hcs]; exact cencode_yes x ok A c W ((hr.below BW.out).below (hW.mono BW.out.size)) (Nat.le_trans BW.out.size hW.size))
  have HMO := Lib.hid (show ∀ W, Calls Try.prog 17 #[.agg cs] W (RetB (.bool (decide (x.kind = 1 ∨ x.kind = 2 ∨ x.kind = 3))) W) from fun W => by rw [hcs]; exact moment_cl x A c W)
  have HC := Lib.hid (show cs[0]? = some (.int .i64 x.kind) ∧ cs[10]? = some (.slice A x.body.length c) from by rw [hcs]; exact ⟨rfl, rfl⟩)
  have HI := Lib.hid (show (Try.prog.info? 27).map (·.size) = some cs.size from by rw [hcs]; kernel_rfl)
  have HO := Lib.hid (show cs.all (·.oneCell') = true from by rw [hcs]; simp [clA, Value.oneCell'])
  have HCS := Lib.hid hcs
  have HRD := Lib.hid (hr.below BW.out)
  obtain ⟨n, hn⟩ : ∃ n, n = x.body.length := ⟨_, rfl⟩
  rw [← hn] at HC
  have HN := Lib.hid hn
  have B := Lib.hid (Below.refl w0.heap.size w0)
  clear hcs hn hr
  go_enter Try.func4, Try.ntmps4
  go_upto_region 1 with fail
  rw [← hw0]
  clear hw0
  go_wp2_with fail
  refine (ceAwake_any _).mono ?_
  rintro e w1 ⟨rfl, bw⟩
  have B' := Lib.hid (B.out.trans (bw.mono B.out.size))
  clear bw B 
  have B := Lib.hid B'.out
  clear B' 
  have c10 := ((Blk.below X.out B.out).cell 10).trans HC.out.2
  by_cases hbig : 100 < n
  · have n1 : (100 : Int) < (n : Int) := by omega
    go_wp2_with fail
    go_ret
    exact ⟨rfl, BW.out.trans (B.out.mono BW.out.size)⟩
  · have n1 : ¬ (100 : Int) < (n : Int) := by omega
    go_wp2_with (first
      | (refine wpList_execgC (v := .agg cs) (w' := w1) rfl ?hl ?_; case hl => exact exec_load 27 (.tmp 1) rfl rfl (Blk.below X.out B.out) Try.underlying27 rfl HI.out))
    clear c10 hbig
    refine (HEN.out _ B.out).mono ?_
    rintro e w2 ⟨AQ, nQ, cQ, rfl, ho, bw⟩
    have B' := Lib.hid (B.out.trans (bw.mono B.out.size))
    have Q := Lib.hid (own_more ho B.out.size)
    clear ho bw B 
    have B := Lib.hid B'.out
    clear B' 
    have LQ := Lib.hid (show nQ = (encX x).length from (own_blen Q.out).symm)
    go_wp2_with (first
      | (refine wpList_execgC (v := .agg cs) (w' := w2) rfl ?hl ?_; case hl => exact exec_load 27 (.tmp 1) rfl rfl (Blk.below X.out B.out) Try.underlying27 rfl HI.out))
    refine (HCR.out _ B.out).mono ?_
    rintro e w3 ⟨rfl, bw⟩
    have B' := Lib.hid (B.out.trans (bw.mono B.out.size))
    have Q' := Lib.hid (own_below Q.out bw)
    clear bw B Q
    have B := Lib.hid B'.out
    have Q := Lib.hid Q'.out
    clear B' Q'
    by_cases ok : okCl x
    · have OK := Lib.hid ok
      rw [decide_eq_true ok, show errX x = 0 from if_pos ok]
      have hq := Q.out
      rw [show encX x = encCl x from if_pos ok] at hq
      have QE := Lib.hid hq
      have LE := Lib.hid (own_blen hq)
      clear hq ok
      go_upto_region 8 with fail
      obtain ⟨Z, hZ⟩ : ∃ Z : ByteArray, Z = ⟨(encCl x).toArray⟩ := ⟨_, rfl⟩
      have HZ := Lib.hid hZ
      have HSS := Lib.hid (str_same hZ hZ)
      clear hZ
      obtain ⟨WQ, hWQ⟩ : ∃ W, W = w3 := ⟨_, rfl⟩
      have RQ := Lib.hid (show Rd WQ.heap.size w3 AQ (bv (encCl x)) from by rw [hWQ]; exact Rd.own QE.out)
      have EQ := Lib.hid hWQ
      clear hWQ
      refine wp_region_held_drew (S := (fun w' => Below w0.heap.size w0 w' ∧ Rd WQ.heap.size w' AQ (bv (encCl x)))) (by kernel_rfl) ⟨B.out.drew, RQ.out.drewN 1⟩ (fun hh => ?_)
      have HH := Lib.hid hh
      clear hh
      refine wpAnyH_take (i := 0) (v := ?vE0) rfl (by kernel_rfl) (by kernel_rfl) (by kernel_rfl) (fun _ _ _ h => h) (Or.inl ⟨by rfl, fun w' _ => ?yE0⟩) HH.out ?_
      case yE0 => (go_simp; try with_reducible rfl)
      refine wpAnyH_take (i := 1) (v := ?vE1) rfl (by kernel_rfl) (by kernel_rfl) (by kernel_rfl) (fun _ _ _ h => h) (Or.inl ⟨by rfl, fun w' _ => ?yE1⟩) HH.out ?_
      case yE1 => (go_simp; try with_reducible rfl)
      try simp only [List.getElem_toArray, List.getElem_cons_succ, List.getElem_cons_zero, Act.put, List.setIfInBounds_toArray, List.set_cons_zero, List.set_cons_succ]
      refine wpAnyH_take (i := 2) (v := ?vE2) rfl (by kernel_rfl) (by kernel_rfl) (by kernel_rfl) (fun _ _ _ h => h) (Or.inl ⟨by rfl, fun w' _ => ?yE2⟩) HH.out ?_
      case yE2 => (go_simp; try with_reducible rfl)
      try simp only [List.getElem_toArray, List.getElem_cons_succ, List.getElem_cons_zero, Act.put, List.setIfInBounds_toArray, List.set_cons_zero, List.set_cons_succ]
      refine wpAnyH_take (i := 3) (v := ?vE3) rfl (by kernel_rfl) (by kernel_rfl) (by kernel_rfl) (fun _ _ _ h => h) (Or.inl ⟨by rfl, fun w' _ => ?yE3⟩) HH.out ?_
      case yE3 => (go_simp; try with_reducible rfl)
      try simp only [List.getElem_toArray, List.getElem_cons_succ, List.getElem_cons_zero, Act.put, List.setIfInBounds_toArray, List.set_cons_zero, List.set_cons_succ]
      refine wpAnyH_take (i := 5) (v := .agg cs) rfl (by kernel_rfl) (by kernel_rfl) (by kernel_rfl) (fun _ _ _ h => h) (Or.inl ⟨by rfl, fun w' hw' => ?yE5⟩) HH.out ?_
      case yE5 => exact exec_load 27 (.tmp 1) rfl rfl (Blk.below X.out hw'.1) Try.underlying27 rfl HI.out
      try simp only [List.getElem_toArray, List.getElem_cons_succ, List.getElem_cons_zero, Act.put, List.setIfInBounds_toArray, List.set_cons_zero, List.set_cons_succ]
      try simp only [List.getElem_toArray, List.getElem_cons_succ, List.getElem_cons_zero, Act.put, List.setIfInBounds_toArray, List.set_cons_zero, List.set_cons_succ]
      refine wpAnyH_take (i := 4) (v := .string Z) rfl (by kernel_rfl) (by kernel_rfl) (by kernel_rfl) (fun _ _ _ h => h) (Or.inl ⟨by rfl, fun w' hw' => ?yE4⟩) HH.out ?_
      case yE4 => (have kc := conv_rd (c := cQ) Try.underlying25 Try.underlying5 Try.underlying9 hw'.2 LE.out; rw [← HZ.out] at kc; go_simp; try with_reducible rfl)
      try simp only [List.getElem_toArray, List.getElem_cons_succ, List.getElem_cons_zero, Act.put, List.setIfInBounds_toArray, List.set_cons_zero, List.set_cons_succ]
      refine wpAnyH_ready (rs := [6]) (by kernel_rfl) (by simp) (AllReadyH.cons rfl (fun K hK => ?_) AllReadyH.nil)
      go_simp
      refine (HCE.out OK.out _ HH.out.1).mono ?_
      rintro e wE ⟨A2, n2, c2, rfl, ho, bw⟩
      have hb := HH.out.1.trans (bw.mono HH.out.1.size)
      have R2 := Lib.hid (Rd.own ho)
      have L2 := Lib.hid (own_blen ho)
      have hq := Rd.below HH.out.2 (bw.mono (by rw [EQ.out]; exact Nat.le_refl _))
      have SZ := Lib.hid bw.size
      go_simp
      refine hK.out _ _ ⟨hb, hq⟩ (fun hh => ?_)
      have HH' := Lib.hid hh
      clear hh hK K HH ho bw
      have HH := Lib.hid HH'.out
      clear HH'
      have k7 := conv_rd (c := c2) Try.underlying25 Try.underlying5 Try.underlying9 R2.out L2.out
      rw [← HZ.out] at k7
      try simp only [List.getElem_toArray, List.getElem_cons_succ, List.getElem_cons_zero, Act.put, List.setIfInBounds_toArray, List.set_cons_zero, List.set_cons_succ]
      try simp only [List.getElem_toArray, List.getElem_cons_succ, List.getElem_cons_zero, Act.put, List.setIfInBounds_toArray, List.set_cons_zero, List.set_cons_succ]
      refine wpAnyH_ready (rs := [7]) (by kernel_rfl) (by simp) (AllReadyH.cons rfl (fun K hK => ?_) AllReadyH.nil)
      go_simp
      refine hK.out _ _ HH.out (fun hh => ?_)
      have HH' := Lib.hid hh
      clear hh hK K HH k7
      have HH := Lib.hid HH'.out
      clear HH'
      have hss := HSS.out
      rw [decide_eq_true rfl] at hss
      try simp only [List.getElem_toArray, List.getElem_cons_succ, List.getElem_cons_zero, Act.put, List.setIfInBounds_toArray, List.set_cons_zero, List.set_cons_succ]
      refine wpAnyH_take (i := 8) (v := ?vE8) rfl (by kernel_rfl) (by kernel_rfl) (by kernel_rfl) (fun _ _ _ h => h) (Or.inl ⟨by rfl, fun w' _ => ?yE8⟩) HH.out ?_
      case yE8 => (go_simp; try with_reducible rfl)
      refine wpAnyH_take (i := 9) (v := ?vE9) rfl (by kernel_rfl) (by kernel_rfl) (by kernel_rfl) (fun _ _ _ h => h) (Or.inl ⟨by rfl, fun w' _ => ?yE9⟩) HH.out ?_
      case yE9 => (go_simp; try with_reducible rfl)
      try simp only [List.getElem_toArray, List.getElem_cons_succ, List.getElem_cons_zero, Act.put, List.setIfInBounds_toArray, List.set_cons_zero, List.set_cons_succ]
      refine wpAnyH_take (i := 10) (v := ?vE10) rfl (by kernel_rfl) (by kernel_rfl) (by kernel_rfl) (fun _ _ _ h => h) (Or.inl ⟨by rfl, fun w' _ => ?yE10⟩) HH.out ?_
      case yE10 => (go_simp; try with_reducible rfl)
      try simp only [List.getElem_toArray, List.getElem_cons_succ, List.getElem_cons_zero, Act.put, List.setIfInBounds_toArray, List.set_cons_zero, List.set_cons_succ]
      refine wpAnyH_done (by kernel_rfl) ?_ _
      go_wp2_with fail
      go_ret
      exact ⟨rfl, BW.out.trans (HH.out.1.mono BW.out.size)⟩
    · have no := Lib.hid ok
      rw [decide_eq_false ok, show errX x = 3 from if_neg ok]
      have lq := LQ.out
      rw [show encX x = [] from if_neg ok] at lq
      obtain rfl : nQ = 0 := lq
      clear ok
      go_wp2_with fail
      go_ret
      exact ⟨rfl, BW.out.trans (B.out.mono BW.out.size)⟩
theorem cellEncodes_own : ownKnob Try.prog.godebug = none := by kernel_rfl
theorem cellEncodes_laid : laidOutB Try.prog = true := by kernel_rfl

set_option maxRecDepth 100000 in
theorem cellEncodes_lifted (os : Os) (started : os.Started) (H : Type) (enc : TypeId × Value → H) :
    ReturnsInHanded {} Try.checked os 4 .any (Rows.cellEncodesSpec.pre6 enc Try.prog Try.f4 Rows.cellEncodesRow.domain false) (Rows.cellEncodesSpec.post enc Try.prog Try.f4 false true false false) := by
  refine returnsInHanded_of_change (C := Try.checked) cellEncodes_own started (by kernel_rfl) Try.func4
    (ChangeSpec.witness6 (enc := enc) (C := Try.checked) false ⟨#[], #[.agg #[.int .i64 0, .int .u64 0, .int .i64 0, .int .i64 0, .int .i64 0, .int .i64 0, .int .u64 0, .int .i64 0, .int .i64 0, .int .i64 0, .slice none 0 0]], []⟩ 8 (by kernel_rfl) (by kernel_rfl) (by kernel_rfl) (by kernel_rfl)) ?_
  intro W base args ds gs before hval0 hW _ _
  have hval : ∀ (j : Nat) t v, Try.f4.params[j]? = some t → args[j]? = some v → Value.okWide Try.prog W .any base t v := hval0
  have hW' := hW
  obtain ⟨p, q, hA0, hV, rfl, hfz, hnd⟩ := hW
  have hA : DataW.TrodAll enc Try.prog W 0 (fun _ => true) true Try.f4.params.toList args.toList ds p := hA0
  rw [Try.params4] at hA hval
  obtain ⟨v0, vs0, d0, ds0, p0, q0, hargs, rfl, rfl, h0, r0⟩ := trodAll_cons hA
  obtain ⟨rfl, rfl, rfl⟩ := trodAll_nil r0
  obtain rfl : args = #[v0] := by cases args; simp_all
  obtain ⟨rfl, rfl⟩ := trodVars_none hV
  have lt0 : ∀ x ∈ p0, x.block < W.heap.size := by obtain ⟨m, hm⟩ := h0; exact DataW.trod_lt m _ _ _ hm
  obtain ⟨y0, a0, c0, rfl, hb0, hc0, hm0, hr0⟩ := Ce.open_cellA (hval 0 27 v0 rfl rfl) h0
  clear hA0 hval0
  refine (cellEncodes_any W y0 a0 c0 hb0 hc0 hm0 hr0).mono fun e W' ⟨he, bel⟩ => ?_
  subst he
  exact ⟨_, rfl, _, _, _, [], _, [], hW', trodAll_mk1 (shut_bool Try.underlying4 _), (trodAll_cons_mk (Below.trod cellEncodes_laid (by kernel_rfl) (of_decide_eq_true (by kernel_rfl)) h0 bel lt0) trodAll_mk0), rfl, bel.frame _, fun h => by cases h⟩

theorem cellEncodes_holds : Rows.CellEncodesSaid :=
  OpenClaim.holds_of_wide 4 Try.f4 rfl rfl rfl rfl rfl rfl rfl ⟨rfl, rfl, rfl, rfl, rfl⟩ rfl rfl rfl rfl rfl (by kernel_rfl) Try.func4 (by kernel_rfl)
    (of_decide_eq_true (by kernel_rfl)) (by unfold Func.isWrapper; rw [if_neg (of_decide_eq_false (by kernel_rfl))]; exact ⟨rfl, rfl⟩)
    (fun os started H enc _ => cellEncodes_lifted os started H enc)

#print axioms cellEncodes_holds

end Go.Proofs.Ytjcmmeppadhjiaa
