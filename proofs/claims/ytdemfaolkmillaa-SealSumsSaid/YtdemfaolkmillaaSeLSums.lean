/-
  SealSums holds: of every key, bytes and sum the law returns true, and its arguments read as they did.
-/
import Derived.Test.YtdemfaolkmillaaSeRef2
import Derived.Test.YtdemfaolkmillaaOpen
import Derived.Test.YtdemfaolkmillaaOpenA
import Derived.ProofKit
import Derived.OpenShut
import Derived.ShutString
import Derived.ChangeOld
namespace Go.Proofs.Ytdemfaolkmillaa
open Go.RowKit Go.ChangeShapes Go.WideShapes Go.ChangeAt
attribute [local go_sem ↓] Go.wp_at_zero Go.wp_at_succ
set_option maxHeartbeats 3200000 in
theorem sealSums_any (w : World) (k : List UInt8) (hk : k.length = 32) (A : Option Addr) (n c : Nat) (l : List UInt8) (hl : l.length = n) (hc : n ≤ c) (hm : c ≤ maxLen) (hr : Rd w.heap.size w A (bv l)) (s : List UInt8) (hs : s.length = 16) :
    Calls Try.prog 5 #[.agg (bva k), .slice A n c, .agg (bva s)] w (RetB (.bool true) w) := by
  have HL := Lib.hid hl
  have HR := Lib.hid hr
  have HS := Lib.hid hs
  have HK := Lib.hid hk
  have HI : Hid ((Try.prog.info? 30).map (·.size) = some (bva k).size) := by rw [bva_size, hk]; exact info33
  have HJ : Hid ((Try.prog.info? 34).map (·.size) = some (bva s).size) := by rw [bva_size, hs]; exact info_sum
  have hb : Below w.heap.size w ((w.alloc (.cells (bva k) 30)).alloc (.cells (bva s) 34)) := ((Below.refl _ _).alloc (Nat.le_refl _) _).alloc (by simp) _
  obtain ⟨b1, b2⟩ : Blk ((w.alloc (.cells (bva k) 30)).alloc (.cells (bva s) 34)) w.heap.size (bva k) 30 ∧ Blk ((w.alloc (.cells (bva k) 30)).alloc (.cells (bva s) 34)) (w.heap.size + 1) (bva s) 34 := ⟨heap_alloc2_old _ _ _, heap_alloc2_new _ _ _⟩
  have hz : ∀ W, (zeroValue 34).run Try.prog W = .ok (.agg (bva zeroSum)) W := fun _ => by kernel_rfl
  obtain ⟨x, hx⟩ : ∃ x, x = sealL k l := ⟨_, rfl⟩
  have hx16 : x.length = 16 := by rw [hx]; exact sealL_length k l
  have heq := eq_sum x hx16
  have heq2 := eq_sums s x hs hx16
  have heqc : decide (s = x) = decide (x = s) := by rw [Bool.eq_iff_iff, decide_eq_true_iff, decide_eq_true_iff]; exact eq_comm
  rw [heqc] at heq2
  have HX16 := Lib.hid hx16
  have HXI : Hid ((Try.prog.info? 34).map (·.size) = some (bva x).size) := by rw [bva_size, hx16]; exact info_sum
  have HX := Lib.hid hx
  have B1 := Lib.hid b1
  have B2 := Lib.hid b2
  have BB := Lib.hid hb
  clear hl hr hs hk b1 b2 hb hx hx16 heqc
  by_cases hn : n ≤ 200
  · have hn' : decide (200 < (n : Int)) = false := by simp; omega
    go_enter Try.func5, Try.ntmps5
    go_wp2_with fail
    refine (seAwake_any _).mono ?_
    rintro e w1 ⟨rfl, bw⟩
    have C1 := Lib.hid (B1.out.below bw)
    have C2 := Lib.hid (B2.out.below bw)
    have CB := Lib.hid (BB.out.trans (bw.mono BB.out.size))
    clear bw B1 B2 BB
    go_wp2_with (refine wpList_load_row rfl 30 (.tmp 3) rfl w.heap.size rfl 30 (bva k) (0, 0) _ C1.out Try.underlying30 rfl HI.out ?_)
    refine (seal_any k HK.out A n c l _ HL.out hc hm ((HR.out.below CB.out).more CB.out.size) (by omega)).mono ?_
    rintro e w2 ⟨rfl, bw⟩
    rw [← HX.out]
    have D1 := Lib.hid (C1.out.below bw)
    have D2 := Lib.hid (C2.out.below bw)
    have DB := Lib.hid (CB.out.trans (bw.mono CB.out.size))
    clear bw C1 C2 CB
    go_wp2_with (refine wpList_store_row rfl 34 (.tmp 7) (.tmp 15) rfl w2.heap.size (bva x) rfl rfl 34 (bva zeroSum) (heap_alloc_new _ _) HXI.out (by rw [bva_size, bva_size, HX16.out]; rfl) (bva_one _) ?_
                 generalize hwa : World.setRow _ _ _ = wa
                 have d1 : Blk wa w.heap.size (bva k) 30 := by rw [← hwa]; exact blk_past D1.out
                 have d2 : Blk wa (w.heap.size + 1) (bva s) 34 := by rw [← hwa]; exact blk_past D2.out
                 have d3 : Blk wa w2.heap.size (bva x) 34 := by rw [← hwa]; exact blk_new _
                 have d4 : Below w.heap.size w wa := by rw [← hwa]; exact below_new DB.out DB.out.size
                 have HS0 := Lib.hid (show Blk wa.drew w.heap.size (bva k) 30 ∧ Blk wa.drew (w.heap.size + 1) (bva s) 34 ∧ Blk wa.drew w2.heap.size (bva x) 34 ∧ Below w.heap.size w wa.drew from ⟨d1, d2, d3, d4.drew⟩)
                 clear d1 d2 d3 d4 hwa D1 D2 DB)
    refine wp_region_held_drew (S := fun w' => Blk w' w.heap.size (bva k) 30 ∧ Blk w' (w.heap.size + 1) (bva s) 34 ∧ Blk w' w2.heap.size (bva x) 34 ∧ Below w.heap.size w w') (by kernel_rfl) HS0.out (fun hh => ?_)
    have HH := Lib.hid hh
    clear hh
    refine wpAnyH_take (i := 0) (v := .agg (bva x)) rfl (by kernel_rfl) (by kernel_rfl) (by kernel_rfl) (fun _ _ _ h => h) (Or.inl ⟨by rfl, fun w' hw' => ?ya0⟩) HH.out ?_
    case ya0 => exact exec_load 34 (.tmp 7) rfl rfl hw'.2.2.1 Try.underlying34 rfl HXI.out
    refine wpAnyH_take (i := 1) (v := .agg (bva k)) rfl (by kernel_rfl) (by kernel_rfl) (by kernel_rfl) (fun _ _ _ h => h) (Or.inl ⟨by rfl, fun w' hw' => ?ya1⟩) HH.out ?_
    case ya1 => exact exec_load 30 (.tmp 3) rfl rfl hw'.1 Try.underlying30 rfl HI.out
    try simp only [List.getElem_toArray, List.getElem_cons_succ, List.getElem_cons_zero, Act.put, List.setIfInBounds_toArray, List.set_cons_zero, List.set_cons_succ]
    refine wpAnyH_take (i := 2) (v := ?va2) rfl (by kernel_rfl) (by kernel_rfl) (by kernel_rfl) (fun _ _ _ h => h) (Or.inl ⟨by rfl, fun w' _ => ?ya2⟩) HH.out ?_
    case ya2 => (go_simp; try with_reducible rfl)
    try simp only [List.getElem_toArray, List.getElem_cons_succ, List.getElem_cons_zero, Act.put, List.setIfInBounds_toArray, List.set_cons_zero, List.set_cons_succ]
    refine wpAnyH_ready (rs := [3]) (by kernel_rfl) (by simp) (AllReadyH.cons rfl (fun K hK => ?_) AllReadyH.nil)
    go_simp
    refine (rseal_any k HK.out A n c l _ HL.out ((HR.out.below HH.out.2.2.2).more HH.out.2.2.2.size) (by omega)).mono ?_
    rintro e w3 ⟨rfl, bw⟩
    rw [← HX.out]
    go_simp
    refine hK.out _ _ ⟨HH.out.1.below bw, HH.out.2.1.below bw, HH.out.2.2.1.below bw, HH.out.2.2.2.trans (bw.mono HH.out.2.2.2.size)⟩ (fun hh => ?_)
    have HH' := Lib.hid hh
    clear hh hK K HH bw
    have HH := Lib.hid HH'.out
    clear HH'
    try simp only [List.getElem_toArray, List.getElem_cons_succ, List.getElem_cons_zero, Act.put, List.setIfInBounds_toArray, List.set_cons_zero, List.set_cons_succ]
    refine wpAnyH_take (i := 4) (v := ?va4) rfl (by kernel_rfl) (by kernel_rfl) (by kernel_rfl) (fun _ _ _ h => h) (Or.inl ⟨by rfl, fun w' _ => ?ya4⟩) HH.out ?_
    case ya4 => (go_simp; try with_reducible rfl)
    try simp only [List.getElem_toArray, List.getElem_cons_succ, List.getElem_cons_zero, Act.put, List.setIfInBounds_toArray, List.set_cons_zero, List.set_cons_succ]
    refine wpAnyH_take (i := 5) (v := ?va5) rfl (by kernel_rfl) (by kernel_rfl) (by kernel_rfl) (fun _ _ _ h => h) (Or.inl ⟨by rfl, fun w' _ => ?ya5⟩) HH.out ?_
    case ya5 => (go_simp; try with_reducible rfl)
    try simp only [List.getElem_toArray, List.getElem_cons_succ, List.getElem_cons_zero, Act.put, List.setIfInBounds_toArray, List.set_cons_zero, List.set_cons_succ]
    refine wpAnyH_take (i := 6) (v := .agg (bva k)) rfl (by kernel_rfl) (by kernel_rfl) (by kernel_rfl) (fun _ _ _ h => h) (Or.inl ⟨by rfl, fun w' hw' => ?ya6⟩) HH.out ?_
    case ya6 => exact exec_load 30 (.tmp 3) rfl rfl hw'.1 Try.underlying30 rfl HI.out
    try simp only [List.getElem_toArray, List.getElem_cons_succ, List.getElem_cons_zero, Act.put, List.setIfInBounds_toArray, List.set_cons_zero, List.set_cons_succ]
    refine wpAnyH_take (i := 7) (v := ?va7) rfl (by kernel_rfl) (by kernel_rfl) (by kernel_rfl) (fun _ _ _ h => h) (Or.inl ⟨by rfl, fun w' _ => ?ya7⟩) HH.out ?_
    case ya7 => (go_simp; try with_reducible rfl)
    try simp only [List.getElem_toArray, List.getElem_cons_succ, List.getElem_cons_zero, Act.put, List.setIfInBounds_toArray, List.set_cons_zero, List.set_cons_succ]
    refine wpAnyH_take (i := 8) (v := .agg (bva x)) rfl (by kernel_rfl) (by kernel_rfl) (by kernel_rfl) (fun _ _ _ h => h) (Or.inl ⟨by rfl, fun w' hw' => ?ya8⟩) HH.out ?_
    case ya8 => exact exec_load 34 (.tmp 7) rfl rfl hw'.2.2.1 Try.underlying34 rfl HXI.out
    try simp only [List.getElem_toArray, List.getElem_cons_succ, List.getElem_cons_zero, Act.put, List.setIfInBounds_toArray, List.set_cons_zero, List.set_cons_succ]
    refine wpAnyH_ready (rs := [9]) (by kernel_rfl) (by simp) (AllReadyH.cons rfl (fun K hK => ?_) AllReadyH.nil)
    go_simp
    refine (right_any k x HK.out HX16.out A n c l _ HL.out hc hm ((HR.out.below HH.out.2.2.2).more HH.out.2.2.2.size) (by omega)).mono ?_
    rintro e w4 ⟨rfl, bw⟩
    rw [← HX.out, decide_eq_true (rfl : x = x)]
    go_simp
    refine hK.out _ _ ⟨HH.out.1.below bw, HH.out.2.1.below bw, HH.out.2.2.1.below bw, HH.out.2.2.2.trans (bw.mono HH.out.2.2.2.size)⟩ (fun hh => ?_)
    have HH' := Lib.hid hh
    clear hh hK K HH bw
    have HH := Lib.hid HH'.out
    clear HH'
    try simp only [List.getElem_toArray, List.getElem_cons_succ, List.getElem_cons_zero, Act.put, List.setIfInBounds_toArray, List.set_cons_zero, List.set_cons_succ]
    refine wpAnyH_take (i := 10) (v := ?va10) rfl (by kernel_rfl) (by kernel_rfl) (by kernel_rfl) (fun _ _ _ h => h) (Or.inl ⟨by rfl, fun w' _ => ?ya10⟩) HH.out ?_
    case ya10 => (go_simp; try with_reducible rfl)
    try simp only [List.getElem_toArray, List.getElem_cons_succ, List.getElem_cons_zero, Act.put, List.setIfInBounds_toArray, List.set_cons_zero, List.set_cons_succ]
    refine wpAnyH_take (i := 11) (v := ?va11) rfl (by kernel_rfl) (by kernel_rfl) (by kernel_rfl) (fun _ _ _ h => h) (Or.inl ⟨by rfl, fun w' _ => ?ya11⟩) HH.out ?_
    case ya11 => (go_simp; try with_reducible rfl)
    try simp only [List.getElem_toArray, List.getElem_cons_succ, List.getElem_cons_zero, Act.put, List.setIfInBounds_toArray, List.set_cons_zero, List.set_cons_succ]
    try simp only [List.getElem_toArray, List.getElem_cons_succ, List.getElem_cons_zero, Act.put, List.setIfInBounds_toArray, List.set_cons_zero, List.set_cons_succ]
    refine wpAnyH_take (i := 12) (v := .agg (bva k)) rfl (by kernel_rfl) (by kernel_rfl) (by kernel_rfl) (fun _ _ _ h => h) (Or.inl ⟨by rfl, fun w' hw' => ?ya12⟩) HH.out ?_
    case ya12 => exact exec_load 30 (.tmp 3) rfl rfl hw'.1 Try.underlying30 rfl HI.out
    try simp only [List.getElem_toArray, List.getElem_cons_succ, List.getElem_cons_zero, Act.put, List.setIfInBounds_toArray, List.set_cons_zero, List.set_cons_succ]
    refine wpAnyH_take (i := 13) (v := ?va13) rfl (by kernel_rfl) (by kernel_rfl) (by kernel_rfl) (fun _ _ _ h => h) (Or.inl ⟨by rfl, fun w' _ => ?ya13⟩) HH.out ?_
    case ya13 => (go_simp; try with_reducible rfl)
    try simp only [List.getElem_toArray, List.getElem_cons_succ, List.getElem_cons_zero, Act.put, List.setIfInBounds_toArray, List.set_cons_zero, List.set_cons_succ]
    try simp only [List.getElem_toArray, List.getElem_cons_succ, List.getElem_cons_zero, Act.put, List.setIfInBounds_toArray, List.set_cons_zero, List.set_cons_succ]
    refine wpAnyH_take (i := 14) (v := .agg (bva s)) rfl (by kernel_rfl) (by kernel_rfl) (by kernel_rfl) (fun _ _ _ h => h) (Or.inl ⟨by rfl, fun w' hw' => ?ya14⟩) HH.out ?_
    case ya14 => exact exec_load 34 (.tmp 5) rfl rfl hw'.2.1 Try.underlying34 rfl HJ.out
    try simp only [List.getElem_toArray, List.getElem_cons_succ, List.getElem_cons_zero, Act.put, List.setIfInBounds_toArray, List.set_cons_zero, List.set_cons_succ]
    try simp only [List.getElem_toArray, List.getElem_cons_succ, List.getElem_cons_zero, Act.put, List.setIfInBounds_toArray, List.set_cons_zero, List.set_cons_succ]
    refine wpAnyH_take (i := 16) (v := .agg (bva s)) rfl (by kernel_rfl) (by kernel_rfl) (by kernel_rfl) (fun _ _ _ h => h) (Or.inl ⟨by rfl, fun w' hw' => ?ya16⟩) HH.out ?_
    case ya16 => exact exec_load 34 (.tmp 5) rfl rfl hw'.2.1 Try.underlying34 rfl HJ.out
    try simp only [List.getElem_toArray, List.getElem_cons_succ, List.getElem_cons_zero, Act.put, List.setIfInBounds_toArray, List.set_cons_zero, List.set_cons_succ]
    refine wpAnyH_take (i := 17) (v := .agg (bva x)) rfl (by kernel_rfl) (by kernel_rfl) (by kernel_rfl) (fun _ _ _ h => h) (Or.inl ⟨by rfl, fun w' hw' => ?ya17⟩) HH.out ?_
    case ya17 => exact exec_load 34 (.tmp 7) rfl rfl hw'.2.2.1 Try.underlying34 rfl HXI.out
    try simp only [List.getElem_toArray, List.getElem_cons_succ, List.getElem_cons_zero, Act.put, List.setIfInBounds_toArray, List.set_cons_zero, List.set_cons_succ]
    refine wpAnyH_take (i := 18) (v := ?va18) rfl (by kernel_rfl) (by kernel_rfl) (by kernel_rfl) (fun _ _ _ h => h) (Or.inl ⟨by rfl, fun w' _ => ?ya18⟩) HH.out ?_
    case ya18 => (go_simp; try with_reducible rfl)
    try simp only [List.getElem_toArray, List.getElem_cons_succ, List.getElem_cons_zero, Act.put, List.setIfInBounds_toArray, List.set_cons_zero, List.set_cons_succ]
    refine wpAnyH_ready (rs := [15]) (by kernel_rfl) (by simp) (AllReadyH.cons rfl (fun K hK => ?_) AllReadyH.nil)
    go_simp
    refine (right_any k s HK.out HS.out A n c l _ HL.out hc hm ((HR.out.below HH.out.2.2.2).more HH.out.2.2.2.size) (by omega)).mono ?_
    rintro e w5 ⟨rfl, bw⟩
    rw [← HX.out]
    go_simp
    refine hK.out _ _ ⟨HH.out.1.below bw, HH.out.2.1.below bw, HH.out.2.2.1.below bw, HH.out.2.2.2.trans (bw.mono HH.out.2.2.2.size)⟩ (fun hh => ?_)
    have HH' := Lib.hid hh
    clear hh hK K HH bw
    have HH := Lib.hid HH'.out
    clear HH'
    try simp only [List.getElem_toArray, List.getElem_cons_succ, List.getElem_cons_zero, Act.put, List.setIfInBounds_toArray, List.set_cons_zero, List.set_cons_succ]
    refine wpAnyH_take (i := 19) (v := ?va19) rfl (by kernel_rfl) (by kernel_rfl) (by kernel_rfl) (fun _ _ _ h => h) (Or.inl ⟨by rfl, fun w' _ => ?ya19⟩) HH.out ?_
    case ya19 => (go_simp; try with_reducible rfl)
    try simp only [List.getElem_toArray, List.getElem_cons_succ, List.getElem_cons_zero, Act.put, List.setIfInBounds_toArray, List.set_cons_zero, List.set_cons_succ]
    refine wpAnyH_take (i := 20) (v := ?va20) rfl (by kernel_rfl) (by kernel_rfl) (by kernel_rfl) (fun _ _ _ h => h) (Or.inl ⟨by rfl, fun w' _ => ?ya20⟩) HH.out ?_
    case ya20 => (go_simp; try with_reducible rfl)
    try simp only [List.getElem_toArray, List.getElem_cons_succ, List.getElem_cons_zero, Act.put, List.setIfInBounds_toArray, List.set_cons_zero, List.set_cons_succ]
    refine wpAnyH_take (i := 21) (v := ?va21) rfl (by kernel_rfl) (by kernel_rfl) (by kernel_rfl) (fun _ _ _ h => h) (Or.inl ⟨by rfl, fun w' _ => ?ya21⟩) HH.out ?_
    case ya21 => (go_simp; try with_reducible rfl)
    try simp only [List.getElem_toArray, List.getElem_cons_succ, List.getElem_cons_zero, Act.put, List.setIfInBounds_toArray, List.set_cons_zero, List.set_cons_succ]
    refine wpAnyH_done (by kernel_rfl) ?_ _
    go_wp2_with fail
    go_ret
    exact ⟨ret_bool rfl, HH.out.2.2.2⟩
  · have hn' : decide (200 < (n : Int)) = true := by simp; omega
    go_enter Try.func5, Try.ntmps5
    go_wp2_with fail
    refine (seAwake_any _).mono ?_
    rintro e w1 ⟨rfl, bw⟩
    have CB := Lib.hid (BB.out.trans (bw.mono BB.out.size))
    clear bw B1 B2 BB
    go_wp2_with fail
    go_ret
    exact ⟨rfl, CB.out⟩
theorem sealSums_own : ownKnob Try.prog.godebug = none := by kernel_rfl
theorem sealSums_laid : laidOutB Try.prog = true := by kernel_rfl

set_option maxRecDepth 100000 in
theorem sealSums_lifted (os : Os) (started : os.Started) (H : Type) (enc : TypeId × Value → H) :
    ReturnsInHanded {} Try.checked os 5 .any (Rows.sealSumsSpec.pre6 enc Try.prog Try.f5 Rows.sealSumsRow.domain false) (Rows.sealSumsSpec.post enc Try.prog Try.f5 false true false false) := by
  refine returnsInHanded_of_change (C := Try.checked) sealSums_own started (by kernel_rfl) Try.func5
    (ChangeSpec.witness6 (enc := enc) (C := Try.checked) false ⟨#[], #[.agg #[.int .u8 0, .int .u8 0, .int .u8 0, .int .u8 0, .int .u8 0, .int .u8 0, .int .u8 0, .int .u8 0, .int .u8 0, .int .u8 0, .int .u8 0, .int .u8 0, .int .u8 0, .int .u8 0, .int .u8 0, .int .u8 0, .int .u8 0, .int .u8 0, .int .u8 0, .int .u8 0, .int .u8 0, .int .u8 0, .int .u8 0, .int .u8 0, .int .u8 0, .int .u8 0, .int .u8 0, .int .u8 0, .int .u8 0, .int .u8 0, .int .u8 0, .int .u8 0], .slice none 0 0, .agg #[.int .u8 0, .int .u8 0, .int .u8 0, .int .u8 0, .int .u8 0, .int .u8 0, .int .u8 0, .int .u8 0, .int .u8 0, .int .u8 0, .int .u8 0, .int .u8 0, .int .u8 0, .int .u8 0, .int .u8 0, .int .u8 0]], []⟩ 8 (by kernel_rfl) (by kernel_rfl) (by kernel_rfl) (by kernel_rfl)) ?_
  intro W base args ds gs before hval0 hW _ _
  have hval : ∀ (j : Nat) t v, Try.f5.params[j]? = some t → args[j]? = some v → Value.okWide Try.prog W .any base t v := hval0
  have hW' := hW
  obtain ⟨p, q, hA0, hV, rfl, hfz, hnd⟩ := hW
  have hA : DataW.TrodAll enc Try.prog W 0 (fun _ => true) true Try.f5.params.toList args.toList ds p := hA0
  rw [Try.params5] at hA hval
  obtain ⟨v0, vs0, d0, ds0, p0, q0, hargs, rfl, rfl, h0, r0⟩ := trodAll_cons hA
  obtain ⟨v1, vs1, d1, ds1, p1, q1, rfl, rfl, rfl, h1, r1⟩ := trodAll_cons r0
  obtain ⟨v2, vs2, d2, ds2, p2, q2, rfl, rfl, rfl, h2, r2⟩ := trodAll_cons r1
  obtain ⟨rfl, rfl, rfl⟩ := trodAll_nil r2
  obtain rfl : args = #[v0, v1, v2] := by cases args; simp_all
  obtain ⟨rfl, rfl⟩ := trodVars_none hV
  have lt0 : ∀ x ∈ p0, x.block < W.heap.size := by obtain ⟨m, hm⟩ := h0; exact DataW.trod_lt m _ _ _ hm
  obtain ⟨l0, hl0, rfl⟩ := open_u8s Try.underlying30 Try.underlying5 (by kernel_rfl) (by kernel_rfl) (hval 0 30 v0 rfl rfl) h0
  obtain ⟨a1, n1, c1, rfl⟩ := okWide_slice Try.underlying28 (hval 1 28 v1 rfl rfl)
  have lt1 : ∀ x ∈ p1, x.block < W.heap.size := by obtain ⟨m, hm⟩ := h1; exact DataW.trod_lt m _ _ _ hm
  obtain ⟨l1, hl1, hc1, hm1, hr1⟩ := open_bytes Try.underlying28 Try.underlying5 (by kernel_rfl) h1
  have lt2 : ∀ x ∈ p2, x.block < W.heap.size := by obtain ⟨m, hm⟩ := h2; exact DataW.trod_lt m _ _ _ hm
  obtain ⟨l2, hl2, rfl⟩ := open_u8s Try.underlying34 Try.underlying5 (by kernel_rfl) (by kernel_rfl) (hval 2 34 v2 rfl rfl) h2
  clear hA0 hval0
  refine (sealSums_any W l0 hl0 a1 n1 c1 l1 hl1 hc1 hm1 hr1 l2 hl2).mono fun e W' ⟨he, bel⟩ => ?_
  subst he
  exact ⟨_, rfl, _, _, _, [], _, [], hW', trodAll_mk1 (shut_bool Try.underlying4 _), (trodAll_cons_mk (Below.trod sealSums_laid (by kernel_rfl) (of_decide_eq_true (by kernel_rfl)) h0 bel lt0) (trodAll_cons_mk (Below.trod sealSums_laid (by kernel_rfl) (of_decide_eq_true (by kernel_rfl)) h1 bel lt1) (trodAll_cons_mk (Below.trod sealSums_laid (by kernel_rfl) (of_decide_eq_true (by kernel_rfl)) h2 bel lt2) trodAll_mk0))), rfl, bel.frame _, fun h => by cases h⟩

theorem sealSums_holds : Rows.SealSumsSaid :=
  OpenClaim.holds_of_wide 5 Try.f5 rfl rfl rfl rfl rfl rfl rfl ⟨rfl, rfl, rfl, rfl, rfl⟩ rfl rfl rfl rfl rfl (by kernel_rfl) Try.func5 (by kernel_rfl)
    (of_decide_eq_true (by kernel_rfl)) (by unfold Func.isWrapper; rw [if_neg (of_decide_eq_false (by kernel_rfl))]; exact ⟨rfl, rfl⟩)
    (fun os started H enc _ => sealSums_lifted os started H enc)

#print axioms sealSums_holds

end Go.Proofs.Ytdemfaolkmillaa
