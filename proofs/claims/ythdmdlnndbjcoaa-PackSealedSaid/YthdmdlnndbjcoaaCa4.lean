/-
  Texts of this seat, one behind the other: CeCDecB, CeCDecC, CeTop, CeLaw, CeRows, Same, ListSame, OpenA, BuildN, ShMid, FillL.
-/
import Derived.Test.YthdmdlnndbjcoaaRows
import Derived.Deep.QuietTactic
import Derived.BigQuiet
import Derived.OpenShut
import Derived.ProofKit
import Derived.Laws.Tables
import Derived.Great.FillDense
import Derived.Great.BuildSlice
import Derived.Deep.Upon
import Derived.Lib.SliceRun
import Derived.Test.YthdmdlnndbjcoaaCa3
/-
  Decode, as the document's answer tells it: other kinds.
-/
namespace Go.Proofs.Ythdmdlnndbjcoaa.Ce
open Go.RowKit
attribute [local go_sem ↓] Go.wp_at_zero Go.wp_at_succ

set_option maxRecDepth 100000 in
set_option maxHeartbeats 12800000 in
theorem cdec_wn {B : Nat} (k : Int) (hk : k = 2 ∨ k = 4) (ad : Addr) (n c : Nat) (l : List UInt8) (w : World) (hn : l.length = n) (hcap : n ≤ c ∧ c ≤ maxLen) (hr0 : Rd B w (some ad) (bv l)) (hB : B ≤ w.heap.size) (h0 : ((l.getD 0 0).toNat : Int) = k) (hl0 : 0 < n) (hm : n ≤ 1000000) :
    Calls Try.prog 45 #[.slice (some ad) n c] w (RetCD (some ad) (decCl l).1 ((decCl l).2.1 : Int) ((decCl l).2.2 : Int) w) := by
  have hr := hr0.more hB
  clear hr0 hB
  obtain ⟨Y, hY⟩ : ∃ Y, Y = (decCl l).1 := ⟨_, rfl⟩
  obtain ⟨MM, hMM⟩ : ∃ R, R = (decCl l).2.1 := ⟨_, rfl⟩
  obtain ⟨KK, hKK⟩ : ∃ K, K = (decCl l).2.2 := ⟨_, rfl⟩
  rw [← hY, ← hMM, ← hKK]
  have HIZ := Lib.hid (show (Try.prog.info? 44).map (·.size) = some (clA zeroCl none 0).size from by kernel_rfl)
  have HOZ := Lib.hid (show (clA zeroCl none 0).all (·.oneCell') = true from by simp [clA, Value.oneCell'])
  have hi1 : isKind k = true := by simp [isKind]; omega
  have hhd : headN k = 13 := by unfold headN; rw [show hasP k = true from decide_eq_true (by omega), show hasR k = true from decide_eq_true (by omega), show hasS k = false from decide_eq_false (by omega), show hasB k = false from decide_eq_false (by omega)]; rfl
  obtain ⟨ad', hA', had, hc0⟩ := hr.at_ (k := 0) (by omega)
  injection hA' with hA'
  subst hA'
  have hx0 : ((l[0]).toNat : Int) = k := by rw [← h0, List.getD_eq_getElem?_getD, List.getElem?_eq_getElem (by omega)]; rfl
  rw [hx0] at hc0
  have hc00 := hc0
  rw [add_zero] at hc0
  have hbyte : ∀ i (h : i < l.length), ∀ W, Below w.heap.size w W → W.cell? (ad.add i) = some (.int .u8 ((l[i]).toNat : Int)) := fun i h W hb => by
    obtain ⟨a2, e, _, h2⟩ := (hr.below hb).at_ h
    injection e with e; subst e; exact h2
  have HBY := Lib.hid hbyte
  have HPO := Lib.hid (show ∀ W, Calls Try.prog 78 #[.int .i64 k] W (RetS (.tuple #[.bool true, .bool true, .bool false, .bool false]) W) from fun W => by
    have h := chas_any k W
    rw [show hasP k = true from decide_eq_true (by omega), show hasR k = true from decide_eq_true (by omega), show hasS k = false from decide_eq_false (by omega), show hasB k = false from decide_eq_false (by omega)] at h
    exact h)
  have hsz : sizeCl l = if n < 13 then (0, 14) else if n < 13 + cntCl k l then (0, 14) else (13 + cntCl k l, 0) := by
    obtain ⟨x, t, rfl, _⟩ := cons_of (n := 0) (l := l) (by omega)
    have hxk : (x.toNat : Int) = k := by rw [← h0]; rfl
    simp only [sizeCl, hxk, hi1, if_true, hhd]
    rw [show t.length + 1 = n from by rw [← hn]; rfl]
  have HRD := Lib.hid hr
  have HYthdmdlnndbjcoaa := Lib.hid hn
  have HCAP := Lib.hid hcap
  have HMM := Lib.hid hm
  have HK := Lib.hid hk
  have n0 : ((n : Int) == 0) = false := by simp; omega
  have n1 : (0 : Int) < (n : Int) := by omega
  have k0 : (0 : Int) ≤ k := by omega
  have k1 : k ≤ 255 := by omega
  have wk : IntKind.i64.wrap k = k := IntWalk.i64_in _ (by omega)
  have d1 : decide (k < 1) = false := decide_eq_false (by omega)
  have d2 : decide ((8 : Int) < k) = false := decide_eq_false (by omega)
  by_cases hlt : n < 13
  · have hs : decCl l = (zeroCl, 0, 14) := by unfold decCl; rw [hsz, if_pos hlt]; rfl
    have E1 := Lib.hid (show Y = zeroCl from by rw [hY, hs])
    have E2 := Lib.hid (show MM = 0 from by rw [hMM, hs])
    have E3 := Lib.hid (show KK = 14 from by rw [hKK, hs])
    have d3 : decide ((n : Int) < 13) = true := decide_eq_true (by omega)
    have d4 : decide (n < 13) = true := decide_eq_true hlt
    clear hs hY hMM hKK hi1 hhd hx0 hbyte hsz hr hn hcap hm hk h0
    obtain ⟨w1, hw1⟩ : ∃ v, v = w.alloc (.cells (clA zeroCl none 0) 44) := ⟨_, rfl⟩
    have BL1 := Lib.hid (show Below w.heap.size w w1 from by rw [hw1]; exact bel1 _ _)
    have RZ1 := Lib.hid (show Blk w1 w.heap.size (clA zeroCl none 0) 44 from by rw [hw1]; exact heap_alloc_new _ _)
    have HS1 := Lib.hid (show w1.heap.size = w.heap.size + 1 from by rw [hw1]; simp)
    have q0 : w1.cell? ad = some (.int .u8 k) := by rw [← hc0]; exact BL1.out.cell had
    have q00 : w1.cell? (ad.add 0) = some (.int .u8 k) := by rw [add_zero]; exact q0
    unfold clA zeroCl at hw1
    simp only [List.length_nil] at hw1
    clear hc0 hc00 had
    go_enter Try.func45, Try.ntmps45
    go_upto_region 1 with fail
    have e1 := hw1
    simp at e1
    first | rw [← hw1] | rw [← e1]
    clear hw1 e1
    go_wp2_with fail
    refine (HPO.out _).mono ?_
    rintro e wh ⟨rfl, rfl⟩
    go_upto_region 16 with fail
    obtain ⟨w2, hw2⟩ : ∃ v, v = w1.alloc (.cells (rA k 0 0 0 0 0 0 0 0 0 (.slice none 0 0)) 44) := ⟨_, rfl⟩
    have BL := Lib.hid (BL1.out.trans ((show Below w1.heap.size w1 w2 from by rw [hw2]; exact bel1 _ _).mono BL1.out.size))
    have RZ := Lib.hid (Blk.below RZ1.out (show Below w1.heap.size w1 w2 from by rw [hw2]; exact bel1 _ _))
    obtain ⟨g5, hg5⟩ : ∃ g, g = w1.heap.size := ⟨_, rfl⟩
    have C := Lib.hid (show Blk w2 g5 (rA k 0 0 0 0 0 0 0 0 0 (.slice none 0 0)) 44 from by rw [hw2, hg5]; exact heap_alloc_new _ _)
    have HG := Lib.hid (show g5 = w.heap.size + 1 from by rw [hg5]; exact HS1.out)
    have e2 : w2 = w1.alloc (.cells #[.int .i64 k, .int .u64 0, .int .i64 0, .int .i64 0, .int .i64 0, .int .i64 0, .int .u64 0, .int .i64 0, .int .i64 0, .int .i64 0, .slice none 0 0] 44) := hw2
    rw [← e2, ← hg5]
    clear hw2 e2 BL1 RZ1 HS1 hg5 q0 q00
    go_wp2_with (first
      | (refine wpList_store_row rfl 44 (.tmp 2) (.tmp 55) rfl w.heap.size (clA zeroCl none 0) rfl rfl 44 (clA zeroCl none 0) RZ.out HIZ.out rfl HOZ.out ?_))
    refine bodyPost_ret (v := .tuple #[.agg (clA zeroCl none 0), .int .i64 0, .int .i64 14]) (results_ctD Try.results45 _ _ w.heap.size 44 (clA zeroCl none 0) _ rfl (setRow_heap _ _ _ _ _ _ RZ.out) Try.underlying44 rfl HIZ.out) rfl ?_
    rw [E1.out, E2.out, E3.out]
    exact retCD_zero (by rfl) (below_setRow BL.out (Nat.le_refl _) _)
  ·
    have hlen : 13 ≤ l.length := by omega
    obtain ⟨V1, hV1⟩ : ∃ V, V = Wi.getL (part l 1 2) := ⟨_, rfl⟩
    have bV1 : V1 < 65536 := by rw [hV1]; exact part_lt 1 2
    obtain ⟨V3, hV3⟩ : ∃ V, V = Wi.getL (part l 3 4) := ⟨_, rfl⟩
    have bV3 : V3 < 4294967296 := by rw [hV3]; exact part_lt 3 4
    have wV3 : IntKind.i64.wrap (V3 : Int) = (V3 : Int) := IntWalk.i64_in _ (by omega)
    obtain ⟨V7, hV7⟩ : ∃ V, V = Wi.getL (part l 7 1) := ⟨_, rfl⟩
    have bV7 : V7 < 256 := by rw [hV7]; exact part_lt 7 1
    have wV7 : IntKind.i64.wrap (V7 : Int) = (V7 : Int) := IntWalk.i64_in _ (by omega)
    have zV7 : (0 : Int) ≤ (V7 : Int) := by omega
    have yV7 : (V7 : Int) ≤ 255 := by omega
    have xV7 : ((l[7]'(Nat.lt_of_lt_of_le (by decide : 7 < 13) hlen)).toNat : Int) = (V7 : Int) := by rw [hV7, part_byte (by omega)]
    obtain ⟨V8, hV8⟩ : ∃ V, V = Wi.getL (part l 8 1) := ⟨_, rfl⟩
    have bV8 : V8 < 256 := by rw [hV8]; exact part_lt 8 1
    have wV8 : IntKind.i64.wrap (V8 : Int) = (V8 : Int) := IntWalk.i64_in _ (by omega)
    have zV8 : (0 : Int) ≤ (V8 : Int) := by omega
    have yV8 : (V8 : Int) ≤ 255 := by omega
    have xV8 : ((l[8]'(Nat.lt_of_lt_of_le (by decide : 8 < 13) hlen)).toNat : Int) = (V8 : Int) := by rw [hV8, part_byte (by omega)]
    obtain ⟨V9, hV9⟩ : ∃ V, V = Wi.getL (part l 9 2) := ⟨_, rfl⟩
    have bV9 : V9 < 65536 := by rw [hV9]; exact part_lt 9 2
    have wV9 : IntKind.i64.wrap (V9 : Int) = (V9 : Int) := IntWalk.i64_in _ (by omega)
    obtain ⟨VR, hVR⟩ : ∃ V, V = Wi.getL (part l 11 2) := ⟨_, rfl⟩
    have bVR : VR < 65536 := by rw [hVR]; exact part_lt 11 2
    have d3 : decide ((n : Int) < 13) = false := decide_eq_false (by omega)
    have d4 : decide (n < 13) = false := decide_eq_false hlt
    have c13 : (13 : Int) ≤ (c : Int) := by omega
    have cn : (13 : Int) ≤ (n : Int) := by omega
    have nc : (n : Int) ≤ (c : Int) := by omega
    have i7 : (7 : Int) < (n : Int) := by omega
    have i8 : (8 : Int) < (n : Int) := by omega
    have ne1 : ¬ c = 1 := by omega
    have le1 : (1 : Int) ≤ (c : Int) := by omega
    have ne3 : ¬ c = 3 := by omega
    have le3 : (3 : Int) ≤ (c : Int) := by omega
    have ne9 : ¬ c = 9 := by omega
    have le9 : (9 : Int) ≤ (c : Int) := by omega
    have ne11 : ¬ c = 11 := by omega
    have le11 : (11 : Int) ≤ (c : Int) := by omega
    have he7 : (7 : Int) ≤ (c : Int) := by omega
    have he13 : (13 : Int) ≤ (c : Int) := by omega
    have hs0 : sizeCl l = (13, 0) := by rw [hsz, if_neg hlt, show cntCl k l = 0 from by unfold cntCl; rw [show hasB k = false from decide_eq_false (by omega)]; rfl, Nat.add_zero, if_neg hlt]
    have hrd : readCl ((l.getD 0 0).toNat : Int) (l.take 13) = ⟨k, V1, V3, V7, V8, V9, VR, 0, 0, 0, []⟩ := by
      rw [h0]
      unfold readCl
      have hpt : ∀ i j, i + j ≤ 13 → part (l.take 13) i j = part l i j := fun i j h => by unfold part; rw [List.drop_take, List.take_take]; congr 1; omega
      rw [show hasP k = true from decide_eq_true (by omega), show hasR k = true from decide_eq_true (by omega), show hasS k = false from decide_eq_false (by omega), show hasB k = false from decide_eq_false (by omega), hpt 1 2 (by omega), hpt 3 4 (by omega), hpt 7 1 (by omega), hpt 8 1 (by omega), hpt 9 2 (by omega), hpt 11 2 (by omega), ← hV1, ← hV3, ← hV7, ← hV8, ← hV9, ← hVR]
      simp
    obtain ⟨y, hy⟩ : ∃ y : Cl, y = ⟨k, V1, V3, V7, V8, V9, VR, 0, 0, 0, []⟩ := ⟨_, rfl⟩
    have hde : decCl l = if okCl y then (y, 13, 0) else (zeroCl, 0, 3) := by unfold decCl; rw [hs0]; simp only [if_pos]; rw [hrd, ← hy]
    have HYES := Lib.hid (show okCl y → Y = y ∧ MM = 13 ∧ KK = 0 from fun h => by rw [hde, if_pos h] at hY hMM hKK; exact ⟨hY, hMM, hKK⟩)
    have HNO := Lib.hid (show ¬ okCl y → Y = zeroCl ∧ MM = 0 ∧ KK = 3 from fun h => by rw [hde, if_neg h] at hY hMM hKK; exact ⟨hY, hMM, hKK⟩)
    have HYQ := Lib.hid hy
    clear hs0 hrd hde hy
    have HVV1 := Lib.hid hV1
    have HVV3 := Lib.hid hV3
    have HVV7 := Lib.hid hV7
    have HVV8 := Lib.hid hV8
    have HVV9 := Lib.hid hV9
    have HVVR := Lib.hid hVR
    have HLT := Lib.hid (show 13 ≤ l.length from by omega)
    clear hY hMM hKK hi1 hhd hx0 hbyte hsz hr hn hcap hm hk h0 hlt hV1 hV3 hV7 hV8 hV9 hVR
    obtain ⟨w1, hw1⟩ : ∃ v, v = w.alloc (.cells (clA zeroCl none 0) 44) := ⟨_, rfl⟩
    have BL1 := Lib.hid (show Below w.heap.size w w1 from by rw [hw1]; exact bel1 _ _)
    have RZ1 := Lib.hid (show Blk w1 w.heap.size (clA zeroCl none 0) 44 from by rw [hw1]; exact heap_alloc_new _ _)
    have HS1 := Lib.hid (show w1.heap.size = w.heap.size + 1 from by rw [hw1]; simp)
    have q0 : w1.cell? ad = some (.int .u8 k) := by rw [← hc0]; exact BL1.out.cell had
    have q00 : w1.cell? (ad.add 0) = some (.int .u8 k) := by rw [add_zero]; exact q0
    unfold clA zeroCl at hw1
    simp only [List.length_nil] at hw1
    clear hc0 hc00 had
    go_enter Try.func45, Try.ntmps45
    go_upto_region 1 with fail
    have e1 := hw1
    simp at e1
    first | rw [← hw1] | rw [← e1]
    clear hw1 e1
    go_wp2_with fail
    refine (HPO.out _).mono ?_
    rintro e wh ⟨rfl, rfl⟩
    have BLW := Lib.hid (show ∀ o, Below w.heap.size w (w1.alloc o) from fun o => BL1.out.trans ((bel1 w1 o).mono BL1.out.size))
    clear q0 q00
    go_upto_region 18 with fail
    refine wp_region_held_drew (S := (fun w' => Below w.heap.size w w')) (by kernel_rfl) (by first | exact (BLW.out _).drew | exact BLW.out _ | exact (BLW.out _).drew.drew | exact (BLW.out _).drewN _ | exact ((BLW.out _).drewN _).drew) (fun hh => ?_)
    have HH := Lib.hid hh
    clear hh
    refine wpAnyH_take (i := 0) (v := ?vG10) rfl (by kernel_rfl) (by kernel_rfl) (by kernel_rfl) (fun _ _ _ h => h) (Or.inl ⟨by rfl, fun w' _ => ?yG10⟩) HH.out ?_
    case yG10 => (go_simp; try with_reducible rfl)
    refine wpAnyH_take (i := 1) (v := ?vG11) rfl (by kernel_rfl) (by kernel_rfl) (by kernel_rfl) (fun _ _ _ h => h) (Or.inl ⟨by rfl, fun w' _ => ?yG11⟩) HH.out ?_
    case yG11 => (go_simp; try with_reducible rfl)
    try simp only [List.getElem_toArray, List.getElem_cons_succ, List.getElem_cons_zero, Act.put, List.setIfInBounds_toArray, List.set_cons_zero, List.set_cons_succ]
    refine wpAnyH_take (i := 3) (v := ?vG13) rfl (by kernel_rfl) (by kernel_rfl) (by kernel_rfl) (fun _ _ _ h => h) (Or.inl ⟨by rfl, fun w' _ => ?yG13⟩) HH.out ?_
    case yG13 => (go_simp; try with_reducible rfl)
    refine wpAnyH_take (i := 4) (v := ?vG14) rfl (by kernel_rfl) (by kernel_rfl) (by kernel_rfl) (fun _ _ _ h => h) (Or.inl ⟨by rfl, fun w' _ => ?yG14⟩) HH.out ?_
    case yG14 => (go_simp; try with_reducible rfl)
    try simp only [List.getElem_toArray, List.getElem_cons_succ, List.getElem_cons_zero, Act.put, List.setIfInBounds_toArray, List.set_cons_zero, List.set_cons_succ]
    refine wpAnyH_ready (rs := [2]) (by kernel_rfl) (by simp) (AllReadyH.cons rfl (fun K hK => ?_) AllReadyH.nil)
    go_simp
    refine (cget_any (some (ad.add 1)) 2 _ (part l 1 2) _ (part_len (by have := HLT.out; omega)) (part_rd (HRD.out.below HH.out) 1 2) (by omega)).mono ?_
    rintro e wq ⟨rfl, rfl⟩
    rw [← HVV1.out]
    go_simp
    refine hK.out _ _ (by first | exact (BLW.out _).drew | exact BLW.out _ | exact (BLW.out _).drew.drew | exact (BLW.out _).drewN _ | exact ((BLW.out _).drewN _).drew) (fun hh => ?_)
    have HH' := Lib.hid hh
    clear hh hK K HH 
    have HH := Lib.hid HH'.out
    clear HH'
    try simp only [List.getElem_toArray, List.getElem_cons_succ, List.getElem_cons_zero, Act.put, List.setIfInBounds_toArray, List.set_cons_zero, List.set_cons_succ]
    refine wpAnyH_take (i := 7) (v := ?vG17) rfl (by kernel_rfl) (by kernel_rfl) (by kernel_rfl) (fun _ _ _ h => h) (Or.inl ⟨by rfl, fun w' _ => ?yG17⟩) HH.out ?_
    case yG17 => (go_simp; try with_reducible rfl)
    try simp only [List.getElem_toArray, List.getElem_cons_succ, List.getElem_cons_zero, Act.put, List.setIfInBounds_toArray, List.set_cons_zero, List.set_cons_succ]
    refine wpAnyH_ready (rs := [5]) (by kernel_rfl) (by simp) (AllReadyH.cons rfl (fun K hK => ?_) AllReadyH.nil)
    go_simp
    refine (cget_any (some (ad.add 3)) 4 _ (part l 3 4) _ (part_len (by have := HLT.out; omega)) (part_rd (HRD.out.below HH.out) 3 4) (by omega)).mono ?_
    rintro e wq ⟨rfl, rfl⟩
    rw [← HVV3.out]
    go_simp
    refine hK.out _ _ (by first | exact (BLW.out _).drew | exact BLW.out _ | exact (BLW.out _).drew.drew | exact (BLW.out _).drewN _ | exact ((BLW.out _).drewN _).drew) (fun hh => ?_)
    have HH' := Lib.hid hh
    clear hh hK K HH 
    have HH := Lib.hid HH'.out
    clear HH'
    refine wpAnyH_take (i := 6) (v := ?vG16) rfl (by kernel_rfl) (by kernel_rfl) (by kernel_rfl) (fun _ _ _ h => h) (Or.inl ⟨by rfl, fun w' _ => ?yG16⟩) HH.out ?_
    case yG16 => (go_simp; try with_reducible rfl)
    try simp only [List.getElem_toArray, List.getElem_cons_succ, List.getElem_cons_zero, Act.put, List.setIfInBounds_toArray, List.set_cons_zero, List.set_cons_succ]
    try simp only [List.getElem_toArray, List.getElem_cons_succ, List.getElem_cons_zero, Act.put, List.setIfInBounds_toArray, List.set_cons_zero, List.set_cons_succ]
    refine wpAnyH_ready (rs := [8]) (by kernel_rfl) (by simp) (AllReadyH.cons rfl (fun K hK => ?_) AllReadyH.nil)
    go_simp
    refine hK.out _ _ (by first | exact (BLW.out _).drew | exact BLW.out _ | exact (BLW.out _).drew.drew | exact (BLW.out _).drewN _ | exact ((BLW.out _).drewN _).drew) (fun hh => ?_)
    have HH' := Lib.hid hh
    clear hh hK K HH
    have HH := Lib.hid HH'.out
    clear HH'
    refine wpAnyH_take (i := 9) (v := ?vG19) rfl (by kernel_rfl) (by kernel_rfl) (by kernel_rfl) (fun _ _ _ h => h) (Or.inl ⟨by rfl, fun w' _ => ?yG19⟩) HH.out ?_
    case yG19 => (go_simp; try with_reducible rfl)
    try simp only [List.getElem_toArray, List.getElem_cons_succ, List.getElem_cons_zero, Act.put, List.setIfInBounds_toArray, List.set_cons_zero, List.set_cons_succ]
    refine wpAnyH_ready (rs := [10]) (by kernel_rfl) (by simp) (AllReadyH.cons rfl (fun K hK => ?_) AllReadyH.nil)
    go_simp
    refine hK.out _ _ (by first | exact (BLW.out _).drew | exact BLW.out _ | exact (BLW.out _).drew.drew | exact (BLW.out _).drewN _ | exact ((BLW.out _).drewN _).drew) (fun hh => ?_)
    have HH' := Lib.hid hh
    clear hh hK K HH
    have HH := Lib.hid HH'.out
    clear HH'
    try simp only [List.getElem_toArray, List.getElem_cons_succ, List.getElem_cons_zero, Act.put, List.setIfInBounds_toArray, List.set_cons_zero, List.set_cons_succ]
    refine wpAnyH_done (by kernel_rfl) ?_ _
    go_upto_region 21 with fail
    refine wp_region_held_drew (S := (fun w' => Below w.heap.size w w')) (by kernel_rfl) (by first | exact (BLW.out _).drew | exact BLW.out _ | exact (BLW.out _).drew.drew | exact (BLW.out _).drewN _ | exact ((BLW.out _).drewN _).drew) (fun hh => ?_)
    have HH := Lib.hid hh
    clear hh
    refine wpAnyH_take (i := 0) (v := ?vG20) rfl (by kernel_rfl) (by kernel_rfl) (by kernel_rfl) (fun _ _ _ h => h) (Or.inl ⟨by rfl, fun w' _ => ?yG20⟩) HH.out ?_
    case yG20 => (go_simp; try with_reducible rfl)
    refine wpAnyH_take (i := 1) (v := ?vG21) rfl (by kernel_rfl) (by kernel_rfl) (by kernel_rfl) (fun _ _ _ h => h) (Or.inl ⟨by rfl, fun w' _ => ?yG21⟩) HH.out ?_
    case yG21 => (go_simp; try with_reducible rfl)
    try simp only [List.getElem_toArray, List.getElem_cons_succ, List.getElem_cons_zero, Act.put, List.setIfInBounds_toArray, List.set_cons_zero, List.set_cons_succ]
    try simp only [List.getElem_toArray, List.getElem_cons_succ, List.getElem_cons_zero, Act.put, List.setIfInBounds_toArray, List.set_cons_zero, List.set_cons_succ]
    refine wpAnyH_take (i := 2) (v := .int .u8 (V7 : Int)) rfl (by kernel_rfl) (by kernel_rfl) (by kernel_rfl) (fun _ _ _ h => h) (Or.inl ⟨by rfl, fun w' hw' => ?yG22⟩) HH.out ?_
    case yG22 => (have hc := HBY.out 7 (by have := HLT.out; omega) w' hw'; rw [xV7] at hc; simp [Addr.add] at hc; go_simp; try with_reducible rfl)
    refine wpAnyH_take (i := 3) (v := ?vG23) rfl (by kernel_rfl) (by kernel_rfl) (by kernel_rfl) (fun _ _ _ h => h) (Or.inl ⟨by rfl, fun w' _ => ?yG23⟩) HH.out ?_
    case yG23 => (go_simp; try with_reducible rfl)
    refine wpAnyH_take (i := 4) (v := ?vG24) rfl (by kernel_rfl) (by kernel_rfl) (by kernel_rfl) (fun _ _ _ h => h) (Or.inl ⟨by rfl, fun w' _ => ?yG24⟩) HH.out ?_
    case yG24 => (go_simp; try with_reducible rfl)
    try simp only [List.getElem_toArray, List.getElem_cons_succ, List.getElem_cons_zero, Act.put, List.setIfInBounds_toArray, List.set_cons_zero, List.set_cons_succ]
    refine wpAnyH_take (i := 5) (v := ?vG25) rfl (by kernel_rfl) (by kernel_rfl) (by kernel_rfl) (fun _ _ _ h => h) (Or.inl ⟨by rfl, fun w' _ => ?yG25⟩) HH.out ?_
    case yG25 => (go_simp; try with_reducible rfl)
    try simp only [List.getElem_toArray, List.getElem_cons_succ, List.getElem_cons_zero, Act.put, List.setIfInBounds_toArray, List.set_cons_zero, List.set_cons_succ]
    refine wpAnyH_take (i := 6) (v := .int .u8 (V8 : Int)) rfl (by kernel_rfl) (by kernel_rfl) (by kernel_rfl) (fun _ _ _ h => h) (Or.inl ⟨by rfl, fun w' hw' => ?yG26⟩) HH.out ?_
    case yG26 => (have hc := HBY.out 8 (by have := HLT.out; omega) w' hw'; rw [xV8] at hc; simp [Addr.add] at hc; go_simp; try with_reducible rfl)
    refine wpAnyH_take (i := 7) (v := ?vG27) rfl (by kernel_rfl) (by kernel_rfl) (by kernel_rfl) (fun _ _ _ h => h) (Or.inl ⟨by rfl, fun w' _ => ?yG27⟩) HH.out ?_
    case yG27 => (go_simp; try with_reducible rfl)
    try simp only [List.getElem_toArray, List.getElem_cons_succ, List.getElem_cons_zero, Act.put, List.setIfInBounds_toArray, List.set_cons_zero, List.set_cons_succ]
    refine wpAnyH_take (i := 8) (v := ?vG28) rfl (by kernel_rfl) (by kernel_rfl) (by kernel_rfl) (fun _ _ _ h => h) (Or.inl ⟨by rfl, fun w' _ => ?yG28⟩) HH.out ?_
    case yG28 => (go_simp; try with_reducible rfl)
    refine wpAnyH_take (i := 9) (v := ?vG29) rfl (by kernel_rfl) (by kernel_rfl) (by kernel_rfl) (fun _ _ _ h => h) (Or.inl ⟨by rfl, fun w' _ => ?yG29⟩) HH.out ?_
    case yG29 => (go_simp; try with_reducible rfl)
    try simp only [List.getElem_toArray, List.getElem_cons_succ, List.getElem_cons_zero, Act.put, List.setIfInBounds_toArray, List.set_cons_zero, List.set_cons_succ]
    refine wpAnyH_ready (rs := [10]) (by kernel_rfl) (by simp) (AllReadyH.cons rfl (fun K hK => ?_) AllReadyH.nil)
    go_simp
    refine (cget_any (some (ad.add 9)) 2 _ (part l 9 2) _ (part_len (by have := HLT.out; omega)) (part_rd (HRD.out.below HH.out) 9 2) (by omega)).mono ?_
    rintro e wq ⟨rfl, rfl⟩
    rw [← HVV9.out]
    go_simp
    refine hK.out _ _ (by first | exact (BLW.out _).drew | exact BLW.out _ | exact (BLW.out _).drew.drew | exact (BLW.out _).drewN _ | exact ((BLW.out _).drewN _).drew) (fun hh => ?_)
    have HH' := Lib.hid hh
    clear hh hK K HH 
    have HH := Lib.hid HH'.out
    clear HH'
    try simp only [List.getElem_toArray, List.getElem_cons_succ, List.getElem_cons_zero, Act.put, List.setIfInBounds_toArray, List.set_cons_zero, List.set_cons_succ]
    refine wpAnyH_take (i := 11) (v := ?vG211) rfl (by kernel_rfl) (by kernel_rfl) (by kernel_rfl) (fun _ _ _ h => h) (Or.inl ⟨by rfl, fun w' _ => ?yG211⟩) HH.out ?_
    case yG211 => (go_simp; try with_reducible rfl)
    refine wpAnyH_take (i := 12) (v := ?vG212) rfl (by kernel_rfl) (by kernel_rfl) (by kernel_rfl) (fun _ _ _ h => h) (Or.inl ⟨by rfl, fun w' _ => ?yG212⟩) HH.out ?_
    case yG212 => (go_simp; try with_reducible rfl)
    refine wpAnyH_take (i := 13) (v := ?vG213) rfl (by kernel_rfl) (by kernel_rfl) (by kernel_rfl) (fun _ _ _ h => h) (Or.inl ⟨by rfl, fun w' _ => ?yG213⟩) HH.out ?_
    case yG213 => (go_simp; try with_reducible rfl)
    try simp only [List.getElem_toArray, List.getElem_cons_succ, List.getElem_cons_zero, Act.put, List.setIfInBounds_toArray, List.set_cons_zero, List.set_cons_succ]
    try simp only [List.getElem_toArray, List.getElem_cons_succ, List.getElem_cons_zero, Act.put, List.setIfInBounds_toArray, List.set_cons_zero, List.set_cons_succ]
    refine wpAnyH_ready (rs := [14]) (by kernel_rfl) (by simp) (AllReadyH.cons rfl (fun K hK => ?_) AllReadyH.nil)
    go_simp
    refine hK.out _ _ (by first | exact (BLW.out _).drew | exact BLW.out _ | exact (BLW.out _).drew.drew | exact (BLW.out _).drewN _ | exact ((BLW.out _).drewN _).drew) (fun hh => ?_)
    have HH' := Lib.hid hh
    clear hh hK K HH
    have HH := Lib.hid HH'.out
    clear HH'
    try simp only [List.getElem_toArray, List.getElem_cons_succ, List.getElem_cons_zero, Act.put, List.setIfInBounds_toArray, List.set_cons_zero, List.set_cons_succ]
    refine wpAnyH_done (by kernel_rfl) ?_ _
    go_wp2_with fail
    refine (cget_any (some (ad.add 11)) 2 _ (part l 11 2) _ (part_len (by have := HLT.out; omega)) (part_rd (HRD.out.below (by first | exact (BLW.out _).drew | exact BLW.out _ | exact (BLW.out _).drew.drew | exact (BLW.out _).drewN _ | exact ((BLW.out _).drewN _).drew)) 11 2) (by omega)).mono ?_
    rintro e wq ⟨rfl, rfl⟩
    rw [← HVVR.out]
    go_wp2_with fail
    refine (cright_any ⟨k, V1, V3, V7, V8, V9, VR, 0, 0, 0, []⟩ none 0 _ Rd.none (Nat.le_refl _)).mono ?_
    rw [← HYQ.out]
    rintro e w9 ⟨rfl, bw⟩
    have RZ9 := Lib.hid (blk_thru RZ1.out (by first | exact (bel1 _ _).drew | exact bel1 _ _ | exact (bel1 _ _).drew.drew | exact (bel1 _ _).drewN _) bw)
    have BL9 := Lib.hid (below_thru BL1.out (by first | exact (bel1 _ _).drew | exact bel1 _ _ | exact (bel1 _ _).drew.drew | exact (bel1 _ _).drewN _) bw)
    have C9 := Lib.hid (show Blk w9 w1.heap.size (rA k V1 V3 V7 V8 V9 VR 0 0 0 (.slice none 0 0)) 44 from by refine Blk.below ?_ bw; exact heap_alloc_new _ _)
    have HEC := Lib.hid (show (rA k V1 V3 V7 V8 V9 VR 0 0 0 (.slice none 0 0)) = clA y none 0 from by rw [HYQ.out]; rfl)
    have HIC := Lib.hid (show (Try.prog.info? 44).map (·.size) = some (rA k V1 V3 V7 V8 V9 VR 0 0 0 (.slice none 0 0)).size from by kernel_rfl)
    have HOC := Lib.hid (show (rA k V1 V3 V7 V8 V9 VR 0 0 0 (.slice none 0 0)).all (·.oneCell') = true from by simp [rA, Value.oneCell'])
    clear bw RZ1 BL1 BLW
    by_cases ok : okCl y
    · obtain ⟨f1, f2, f3⟩ := HYES.out ok
      have E1 := Lib.hid f1
      have E2 := Lib.hid f2
      have E3 := Lib.hid f3
      rw [decide_eq_true ok]
      clear f1 f2 f3 ok
      go_wp2_with (first
        | (refine wpList_load_row rfl 44 (.tmp 5) rfl w1.heap.size rfl 44 (rA k V1 V3 V7 V8 V9 VR 0 0 0 (.slice none 0 0)) (0, 0) _ C9.out Try.underlying44 rfl HIC.out ?_)
        | (refine wpList_store_row rfl 44 (.tmp 2) (.tmp 148) rfl w.heap.size (rA k V1 V3 V7 V8 V9 VR 0 0 0 (.slice none 0 0)) rfl rfl 44 (clA zeroCl none 0) RZ9.out HIC.out rfl HOC.out ?_))
      refine bodyPost_ret (v := .tuple #[.agg (rA k V1 V3 V7 V8 V9 VR 0 0 0 (.slice none 0 0)), .int .i64 13, .int .i64 0]) (results_ctD Try.results45 _ _ w.heap.size 44 (rA k V1 V3 V7 V8 V9 VR 0 0 0 (.slice none 0 0)) _ rfl (setRow_heap _ _ _ _ _ _ RZ9.out) Try.underlying44 rfl HIC.out) rfl ?_
      rw [E1.out, E2.out, E3.out]
      refine ⟨none, 0, by rw [HEC.out]; rfl, ⟨?_, fun _ h => by cases h⟩, below_setRow BL9.out (Nat.le_refl _) _⟩
      rw [show y.body = [] from by rw [HYQ.out]]; exact Rd.none
    · obtain ⟨f1, f2, f3⟩ := HNO.out ok
      have E1 := Lib.hid f1
      have E2 := Lib.hid f2
      have E3 := Lib.hid f3
      rw [decide_eq_false ok]
      clear f1 f2 f3 ok
      go_wp2_with (refine wpList_store_row rfl 44 (.tmp 2) (.tmp 147) rfl w.heap.size (clA zeroCl none 0) rfl rfl 44 (clA zeroCl none 0) RZ9.out HIZ.out rfl HOZ.out ?_)
      refine bodyPost_ret (v := .tuple #[.agg (clA zeroCl none 0), .int .i64 0, .int .i64 3]) (results_ctD Try.results45 _ _ w.heap.size 44 (clA zeroCl none 0) _ rfl (setRow_heap _ _ _ _ _ _ RZ9.out) Try.underlying44 rfl HIZ.out) rfl ?_
      rw [E1.out, E2.out, E3.out]
      exact retCD_zero (by rfl) (below_setRow BL9.out (Nat.le_refl _) _)
set_option maxRecDepth 100000 in
set_option maxHeartbeats 12800000 in
theorem cdec_wb {B : Nat} (k : Int) (hk : k = 1 ∨ k = 3) (ad : Addr) (n c : Nat) (l : List UInt8) (w : World) (hn : l.length = n) (hcap : n ≤ c ∧ c ≤ maxLen) (hr0 : Rd B w (some ad) (bv l)) (hB : B ≤ w.heap.size) (h0 : ((l.getD 0 0).toNat : Int) = k) (hl0 : 0 < n) (hm : n ≤ 1000000) :
    Calls Try.prog 45 #[.slice (some ad) n c] w (RetCD (some ad) (decCl l).1 ((decCl l).2.1 : Int) ((decCl l).2.2 : Int) w) := by
  have hr := hr0.more hB
  clear hr0 hB
  obtain ⟨Y, hY⟩ : ∃ Y, Y = (decCl l).1 := ⟨_, rfl⟩
  obtain ⟨MM, hMM⟩ : ∃ R, R = (decCl l).2.1 := ⟨_, rfl⟩
  obtain ⟨KK, hKK⟩ : ∃ K, K = (decCl l).2.2 := ⟨_, rfl⟩
  rw [← hY, ← hMM, ← hKK]
  have HIZ := Lib.hid (show (Try.prog.info? 44).map (·.size) = some (clA zeroCl none 0).size from by kernel_rfl)
  have HOZ := Lib.hid (show (clA zeroCl none 0).all (·.oneCell') = true from by simp [clA, Value.oneCell'])
  have hi1 : isKind k = true := by simp [isKind]; omega
  have hhd : headN k = 14 := by unfold headN; rw [show hasP k = true from decide_eq_true (by omega), show hasR k = true from decide_eq_true (by omega), show hasS k = false from decide_eq_false (by omega), show hasB k = true from decide_eq_true (by omega)]; rfl
  obtain ⟨ad', hA', had, hc0⟩ := hr.at_ (k := 0) (by omega)
  injection hA' with hA'
  subst hA'
  have hx0 : ((l[0]).toNat : Int) = k := by rw [← h0, List.getD_eq_getElem?_getD, List.getElem?_eq_getElem (by omega)]; rfl
  rw [hx0] at hc0
  have hc00 := hc0
  rw [add_zero] at hc0
  have hbyte : ∀ i (h : i < l.length), ∀ W, Below w.heap.size w W → W.cell? (ad.add i) = some (.int .u8 ((l[i]).toNat : Int)) := fun i h W hb => by
    obtain ⟨a2, e, _, h2⟩ := (hr.below hb).at_ h
    injection e with e; subst e; exact h2
  have HBY := Lib.hid hbyte
  have HPO := Lib.hid (show ∀ W, Calls Try.prog 78 #[.int .i64 k] W (RetS (.tuple #[.bool true, .bool true, .bool false, .bool true]) W) from fun W => by
    have h := chas_any k W
    rw [show hasP k = true from decide_eq_true (by omega), show hasR k = true from decide_eq_true (by omega), show hasS k = false from decide_eq_false (by omega), show hasB k = true from decide_eq_true (by omega)] at h
    exact h)
  have hsz : sizeCl l = if n < 14 then (0, 14) else if n < 14 + cntCl k l then (0, 14) else (14 + cntCl k l, 0) := by
    obtain ⟨x, t, rfl, _⟩ := cons_of (n := 0) (l := l) (by omega)
    have hxk : (x.toNat : Int) = k := by rw [← h0]; rfl
    simp only [sizeCl, hxk, hi1, if_true, hhd]
    rw [show t.length + 1 = n from by rw [← hn]; rfl]
  have HRD := Lib.hid hr
  have HYthdmdlnndbjcoaa := Lib.hid hn
  have HCAP := Lib.hid hcap
  have HMM := Lib.hid hm
  have HK := Lib.hid hk
  have n0 : ((n : Int) == 0) = false := by simp; omega
  have n1 : (0 : Int) < (n : Int) := by omega
  have k0 : (0 : Int) ≤ k := by omega
  have k1 : k ≤ 255 := by omega
  have wk : IntKind.i64.wrap k = k := IntWalk.i64_in _ (by omega)
  have d1 : decide (k < 1) = false := decide_eq_false (by omega)
  have d2 : decide ((8 : Int) < k) = false := decide_eq_false (by omega)
  by_cases hlt : n < 14
  · have hs : decCl l = (zeroCl, 0, 14) := by unfold decCl; rw [hsz, if_pos hlt]; rfl
    have E1 := Lib.hid (show Y = zeroCl from by rw [hY, hs])
    have E2 := Lib.hid (show MM = 0 from by rw [hMM, hs])
    have E3 := Lib.hid (show KK = 14 from by rw [hKK, hs])
    have d3 : decide ((n : Int) < 14) = true := decide_eq_true (by omega)
    have d4 : decide (n < 14) = true := decide_eq_true hlt
    clear hs hY hMM hKK hi1 hhd hx0 hbyte hsz hr hn hcap hm hk h0
    obtain ⟨w1, hw1⟩ : ∃ v, v = w.alloc (.cells (clA zeroCl none 0) 44) := ⟨_, rfl⟩
    have BL1 := Lib.hid (show Below w.heap.size w w1 from by rw [hw1]; exact bel1 _ _)
    have RZ1 := Lib.hid (show Blk w1 w.heap.size (clA zeroCl none 0) 44 from by rw [hw1]; exact heap_alloc_new _ _)
    have HS1 := Lib.hid (show w1.heap.size = w.heap.size + 1 from by rw [hw1]; simp)
    have q0 : w1.cell? ad = some (.int .u8 k) := by rw [← hc0]; exact BL1.out.cell had
    have q00 : w1.cell? (ad.add 0) = some (.int .u8 k) := by rw [add_zero]; exact q0
    unfold clA zeroCl at hw1
    simp only [List.length_nil] at hw1
    clear hc0 hc00 had
    go_enter Try.func45, Try.ntmps45
    go_upto_region 1 with fail
    have e1 := hw1
    simp at e1
    first | rw [← hw1] | rw [← e1]
    clear hw1 e1
    go_wp2_with fail
    refine (HPO.out _).mono ?_
    rintro e wh ⟨rfl, rfl⟩
    go_upto_region 16 with fail
    obtain ⟨w2, hw2⟩ : ∃ v, v = w1.alloc (.cells (rA k 0 0 0 0 0 0 0 0 0 (.slice none 0 0)) 44) := ⟨_, rfl⟩
    have BL := Lib.hid (BL1.out.trans ((show Below w1.heap.size w1 w2 from by rw [hw2]; exact bel1 _ _).mono BL1.out.size))
    have RZ := Lib.hid (Blk.below RZ1.out (show Below w1.heap.size w1 w2 from by rw [hw2]; exact bel1 _ _))
    obtain ⟨g5, hg5⟩ : ∃ g, g = w1.heap.size := ⟨_, rfl⟩
    have C := Lib.hid (show Blk w2 g5 (rA k 0 0 0 0 0 0 0 0 0 (.slice none 0 0)) 44 from by rw [hw2, hg5]; exact heap_alloc_new _ _)
    have HG := Lib.hid (show g5 = w.heap.size + 1 from by rw [hg5]; exact HS1.out)
    have e2 : w2 = w1.alloc (.cells #[.int .i64 k, .int .u64 0, .int .i64 0, .int .i64 0, .int .i64 0, .int .i64 0, .int .u64 0, .int .i64 0, .int .i64 0, .int .i64 0, .slice none 0 0] 44) := hw2
    rw [← e2, ← hg5]
    clear hw2 e2 BL1 RZ1 HS1 hg5 q0 q00
    go_wp2_with (first
      | (refine wpList_store_row rfl 44 (.tmp 2) (.tmp 55) rfl w.heap.size (clA zeroCl none 0) rfl rfl 44 (clA zeroCl none 0) RZ.out HIZ.out rfl HOZ.out ?_))
    refine bodyPost_ret (v := .tuple #[.agg (clA zeroCl none 0), .int .i64 0, .int .i64 14]) (results_ctD Try.results45 _ _ w.heap.size 44 (clA zeroCl none 0) _ rfl (setRow_heap _ _ _ _ _ _ RZ.out) Try.underlying44 rfl HIZ.out) rfl ?_
    rw [E1.out, E2.out, E3.out]
    exact retCD_zero (by rfl) (below_setRow BL.out (Nat.le_refl _) _)
  ·
    have hlen : 14 ≤ l.length := by omega
    obtain ⟨V1, hV1⟩ : ∃ V, V = Wi.getL (part l 1 2) := ⟨_, rfl⟩
    have bV1 : V1 < 65536 := by rw [hV1]; exact part_lt 1 2
    obtain ⟨V3, hV3⟩ : ∃ V, V = Wi.getL (part l 3 4) := ⟨_, rfl⟩
    have bV3 : V3 < 4294967296 := by rw [hV3]; exact part_lt 3 4
    have wV3 : IntKind.i64.wrap (V3 : Int) = (V3 : Int) := IntWalk.i64_in _ (by omega)
    obtain ⟨V7, hV7⟩ : ∃ V, V = Wi.getL (part l 7 1) := ⟨_, rfl⟩
    have bV7 : V7 < 256 := by rw [hV7]; exact part_lt 7 1
    have wV7 : IntKind.i64.wrap (V7 : Int) = (V7 : Int) := IntWalk.i64_in _ (by omega)
    have zV7 : (0 : Int) ≤ (V7 : Int) := by omega
    have yV7 : (V7 : Int) ≤ 255 := by omega
    have xV7 : ((l[7]'(Nat.lt_of_lt_of_le (by decide : 7 < 14) hlen)).toNat : Int) = (V7 : Int) := by rw [hV7, part_byte (by omega)]
    obtain ⟨V8, hV8⟩ : ∃ V, V = Wi.getL (part l 8 1) := ⟨_, rfl⟩
    have bV8 : V8 < 256 := by rw [hV8]; exact part_lt 8 1
    have wV8 : IntKind.i64.wrap (V8 : Int) = (V8 : Int) := IntWalk.i64_in _ (by omega)
    have zV8 : (0 : Int) ≤ (V8 : Int) := by omega
    have yV8 : (V8 : Int) ≤ 255 := by omega
    have xV8 : ((l[8]'(Nat.lt_of_lt_of_le (by decide : 8 < 14) hlen)).toNat : Int) = (V8 : Int) := by rw [hV8, part_byte (by omega)]
    obtain ⟨V9, hV9⟩ : ∃ V, V = Wi.getL (part l 9 2) := ⟨_, rfl⟩
    have bV9 : V9 < 65536 := by rw [hV9]; exact part_lt 9 2
    have wV9 : IntKind.i64.wrap (V9 : Int) = (V9 : Int) := IntWalk.i64_in _ (by omega)
    obtain ⟨VR, hVR⟩ : ∃ V, V = Wi.getL (part l 11 2) := ⟨_, rfl⟩
    have bVR : VR < 65536 := by rw [hVR]; exact part_lt 11 2
    have d3 : decide ((n : Int) < 14) = false := decide_eq_false (by omega)
    have d4 : decide (n < 14) = false := decide_eq_false hlt
    have c14 : (14 : Int) ≤ (c : Int) := by omega
    have cn : (14 : Int) ≤ (n : Int) := by omega
    have nc : (n : Int) ≤ (c : Int) := by omega
    have i7 : (7 : Int) < (n : Int) := by omega
    have i8 : (8 : Int) < (n : Int) := by omega
    have i13 : (13 : Int) < (n : Int) := by omega
    have ne1 : ¬ c = 1 := by omega
    have le1 : (1 : Int) ≤ (c : Int) := by omega
    have ne3 : ¬ c = 3 := by omega
    have le3 : (3 : Int) ≤ (c : Int) := by omega
    have ne9 : ¬ c = 9 := by omega
    have le9 : (9 : Int) ≤ (c : Int) := by omega
    have ne11 : ¬ c = 11 := by omega
    have le11 : (11 : Int) ≤ (c : Int) := by omega
    have he7 : (7 : Int) ≤ (c : Int) := by omega
    have he13 : (13 : Int) ≤ (c : Int) := by omega
    have HVV1 := Lib.hid hV1
    have HVV3 := Lib.hid hV3
    have HVV7 := Lib.hid hV7
    have HVV8 := Lib.hid hV8
    have HVV9 := Lib.hid hV9
    have HVVR := Lib.hid hVR
    have HLT := Lib.hid (show 14 ≤ l.length from by omega)
    obtain ⟨CB, hCB⟩ : ∃ C, C = (l[13]'(Nat.lt_of_lt_of_le (by decide : 13 < 14) hlen)).toNat := ⟨_, rfl⟩
    have hcnt : cntCl k l = CB := by
      unfold cntCl
      rw [show hasB k = true from decide_eq_true (by omega), hhd, if_pos rfl, hCB, List.getD_eq_getElem?_getD, List.getElem?_eq_getElem (show 14 - 1 < l.length by omega)]
      rfl
    rw [hcnt] at hsz
    have hCBb : CB < 256 := by rw [hCB]; exact UInt8.toNat_lt _
    have hrd : readCl ((l.getD 0 0).toNat : Int) (l.take (14 + CB)) = ⟨k, V1, V3, V7, V8, V9, VR, 0, 0, 0, part l 14 CB⟩ := by
      rw [h0]
      unfold readCl
      have hpt : ∀ i j, i + j ≤ 14 → part (l.take (14 + CB)) i j = part l i j := fun i j h => by unfold part; rw [List.drop_take, List.take_take]; congr 1; omega
      rw [show hasP k = true from decide_eq_true (by omega), show hasR k = true from decide_eq_true (by omega), show hasS k = false from decide_eq_false (by omega), show hasB k = true from decide_eq_true (by omega), hpt 1 2 (by omega), hpt 3 4 (by omega), hpt 7 1 (by omega), hpt 8 1 (by omega), hpt 9 2 (by omega), hpt 11 2 (by omega), ← hV1, ← hV3, ← hV7, ← hV8, ← hV9, ← hVR]
      simp only [if_true]
      congr 1
      unfold part
      rw [List.drop_take]; congr 1; omega
    obtain ⟨y, hy⟩ : ∃ y : Cl, y = ⟨k, V1, V3, V7, V8, V9, VR, 0, 0, 0, part l 14 CB⟩ := ⟨_, rfl⟩
    have hde : ¬ n < 14 + CB → decCl l = if okCl y then (y, 14 + CB, 0) else (zeroCl, 0, 3) := fun hz => by unfold decCl; rw [hsz, if_neg hlt, if_neg hz]; simp only [if_pos]; rw [hrd, ← hy]
    have hdn : n < 14 + CB → decCl l = (zeroCl, 0, 14) := fun hz => by unfold decCl; rw [hsz, if_neg hlt, if_pos hz]; rfl
    have HYES0 := Lib.hid (show ¬ n < 14 + CB → okCl y → Y = y ∧ MM = 14 + CB ∧ KK = 0 from fun hz h => by rw [hde hz, if_pos h] at hY hMM hKK; exact ⟨hY, hMM, hKK⟩)
    have HNO0 := Lib.hid (show ¬ n < 14 + CB → ¬ okCl y → Y = zeroCl ∧ MM = 0 ∧ KK = 3 from fun hz h => by rw [hde hz, if_neg h] at hY hMM hKK; exact ⟨hY, hMM, hKK⟩)
    have HSH := Lib.hid (show n < 14 + CB → Y = zeroCl ∧ MM = 0 ∧ KK = 14 from fun hz => by rw [hdn hz] at hY hMM hKK; exact ⟨hY, hMM, hKK⟩)
    have HYQ := Lib.hid hy
    have HCBQ := Lib.hid hCB
    have cb0 : (0 : Int) ≤ (CB : Int) := by omega
    have cb1 : (CB : Int) ≤ 255 := by omega
    have wcb : IntKind.i64.wrap (CB : Int) = (CB : Int) := IntWalk.i64_in _ (by omega)
    obtain ⟨Z, hZ⟩ : ∃ Z, Z = 14 + CB := ⟨_, rfl⟩
    have wz : IntKind.i64.wrap (14 + (CB : Int)) = (Z : Int) := by rw [IntWalk.i64_in _ (by omega)]; omega
    have HZQ := Lib.hid hZ
    clear hcnt hrd hde hdn hy hCB hCBb hZ
    clear hY hMM hKK hi1 hhd hx0 hbyte hsz hr hn hcap hm hk h0 hlt hV1 hV3 hV7 hV8 hV9 hVR
    obtain ⟨w1, hw1⟩ : ∃ v, v = w.alloc (.cells (clA zeroCl none 0) 44) := ⟨_, rfl⟩
    have BL1 := Lib.hid (show Below w.heap.size w w1 from by rw [hw1]; exact bel1 _ _)
    have RZ1 := Lib.hid (show Blk w1 w.heap.size (clA zeroCl none 0) 44 from by rw [hw1]; exact heap_alloc_new _ _)
    have HS1 := Lib.hid (show w1.heap.size = w.heap.size + 1 from by rw [hw1]; simp)
    have q0 : w1.cell? ad = some (.int .u8 k) := by rw [← hc0]; exact BL1.out.cell had
    have q00 : w1.cell? (ad.add 0) = some (.int .u8 k) := by rw [add_zero]; exact q0
    unfold clA zeroCl at hw1
    simp only [List.length_nil] at hw1
    clear hc0 hc00 had
    go_enter Try.func45, Try.ntmps45
    go_upto_region 1 with fail
    have e1 := hw1
    simp at e1
    first | rw [← hw1] | rw [← e1]
    clear hw1 e1
    go_wp2_with fail
    refine (HPO.out _).mono ?_
    rintro e wh ⟨rfl, rfl⟩
    have BLW := Lib.hid (show ∀ o, Below w.heap.size w (w1.alloc o) from fun o => BL1.out.trans ((bel1 w1 o).mono BL1.out.size))
    clear q0 q00
    go_upto_region 18 with fail
    refine wp_region_held_drew (S := (fun w' => Below w.heap.size w w')) (by kernel_rfl) (by first | exact (BLW.out _).drew | exact BLW.out _ | exact (BLW.out _).drew.drew | exact (BLW.out _).drewN _ | exact ((BLW.out _).drewN _).drew) (fun hh => ?_)
    have HH := Lib.hid hh
    clear hh
    refine wpAnyH_take (i := 0) (v := ?vG10) rfl (by kernel_rfl) (by kernel_rfl) (by kernel_rfl) (fun _ _ _ h => h) (Or.inl ⟨by rfl, fun w' _ => ?yG10⟩) HH.out ?_
    case yG10 => (go_simp; try with_reducible rfl)
    refine wpAnyH_take (i := 1) (v := ?vG11) rfl (by kernel_rfl) (by kernel_rfl) (by kernel_rfl) (fun _ _ _ h => h) (Or.inl ⟨by rfl, fun w' _ => ?yG11⟩) HH.out ?_
    case yG11 => (go_simp; try with_reducible rfl)
    try simp only [List.getElem_toArray, List.getElem_cons_succ, List.getElem_cons_zero, Act.put, List.setIfInBounds_toArray, List.set_cons_zero, List.set_cons_succ]
    refine wpAnyH_take (i := 3) (v := ?vG13) rfl (by kernel_rfl) (by kernel_rfl) (by kernel_rfl) (fun _ _ _ h => h) (Or.inl ⟨by rfl, fun w' _ => ?yG13⟩) HH.out ?_
    case yG13 => (go_simp; try with_reducible rfl)
    refine wpAnyH_take (i := 4) (v := ?vG14) rfl (by kernel_rfl) (by kernel_rfl) (by kernel_rfl) (fun _ _ _ h => h) (Or.inl ⟨by rfl, fun w' _ => ?yG14⟩) HH.out ?_
    case yG14 => (go_simp; try with_reducible rfl)
    try simp only [List.getElem_toArray, List.getElem_cons_succ, List.getElem_cons_zero, Act.put, List.setIfInBounds_toArray, List.set_cons_zero, List.set_cons_succ]
    refine wpAnyH_ready (rs := [2]) (by kernel_rfl) (by simp) (AllReadyH.cons rfl (fun K hK => ?_) AllReadyH.nil)
    go_simp
    refine (cget_any (some (ad.add 1)) 2 _ (part l 1 2) _ (part_len (by have := HLT.out; omega)) (part_rd (HRD.out.below HH.out) 1 2) (by omega)).mono ?_
    rintro e wq ⟨rfl, rfl⟩
    rw [← HVV1.out]
    go_simp
    refine hK.out _ _ (by first | exact (BLW.out _).drew | exact BLW.out _ | exact (BLW.out _).drew.drew | exact (BLW.out _).drewN _ | exact ((BLW.out _).drewN _).drew) (fun hh => ?_)
    have HH' := Lib.hid hh
    clear hh hK K HH 
    have HH := Lib.hid HH'.out
    clear HH'
    try simp only [List.getElem_toArray, List.getElem_cons_succ, List.getElem_cons_zero, Act.put, List.setIfInBounds_toArray, List.set_cons_zero, List.set_cons_succ]
    refine wpAnyH_take (i := 7) (v := ?vG17) rfl (by kernel_rfl) (by kernel_rfl) (by kernel_rfl) (fun _ _ _ h => h) (Or.inl ⟨by rfl, fun w' _ => ?yG17⟩) HH.out ?_
    case yG17 => (go_simp; try with_reducible rfl)
    try simp only [List.getElem_toArray, List.getElem_cons_succ, List.getElem_cons_zero, Act.put, List.setIfInBounds_toArray, List.set_cons_zero, List.set_cons_succ]
    refine wpAnyH_ready (rs := [5]) (by kernel_rfl) (by simp) (AllReadyH.cons rfl (fun K hK => ?_) AllReadyH.nil)
    go_simp
    refine (cget_any (some (ad.add 3)) 4 _ (part l 3 4) _ (part_len (by have := HLT.out; omega)) (part_rd (HRD.out.below HH.out) 3 4) (by omega)).mono ?_
    rintro e wq ⟨rfl, rfl⟩
    rw [← HVV3.out]
    go_simp
    refine hK.out _ _ (by first | exact (BLW.out _).drew | exact BLW.out _ | exact (BLW.out _).drew.drew | exact (BLW.out _).drewN _ | exact ((BLW.out _).drewN _).drew) (fun hh => ?_)
    have HH' := Lib.hid hh
    clear hh hK K HH 
    have HH := Lib.hid HH'.out
    clear HH'
    refine wpAnyH_take (i := 6) (v := ?vG16) rfl (by kernel_rfl) (by kernel_rfl) (by kernel_rfl) (fun _ _ _ h => h) (Or.inl ⟨by rfl, fun w' _ => ?yG16⟩) HH.out ?_
    case yG16 => (go_simp; try with_reducible rfl)
    try simp only [List.getElem_toArray, List.getElem_cons_succ, List.getElem_cons_zero, Act.put, List.setIfInBounds_toArray, List.set_cons_zero, List.set_cons_succ]
    try simp only [List.getElem_toArray, List.getElem_cons_succ, List.getElem_cons_zero, Act.put, List.setIfInBounds_toArray, List.set_cons_zero, List.set_cons_succ]
    refine wpAnyH_ready (rs := [8]) (by kernel_rfl) (by simp) (AllReadyH.cons rfl (fun K hK => ?_) AllReadyH.nil)
    go_simp
    refine hK.out _ _ (by first | exact (BLW.out _).drew | exact BLW.out _ | exact (BLW.out _).drew.drew | exact (BLW.out _).drewN _ | exact ((BLW.out _).drewN _).drew) (fun hh => ?_)
    have HH' := Lib.hid hh
    clear hh hK K HH
    have HH := Lib.hid HH'.out
    clear HH'
    refine wpAnyH_take (i := 9) (v := ?vG19) rfl (by kernel_rfl) (by kernel_rfl) (by kernel_rfl) (fun _ _ _ h => h) (Or.inl ⟨by rfl, fun w' _ => ?yG19⟩) HH.out ?_
    case yG19 => (go_simp; try with_reducible rfl)
    try simp only [List.getElem_toArray, List.getElem_cons_succ, List.getElem_cons_zero, Act.put, List.setIfInBounds_toArray, List.set_cons_zero, List.set_cons_succ]
    refine wpAnyH_ready (rs := [10]) (by kernel_rfl) (by simp) (AllReadyH.cons rfl (fun K hK => ?_) AllReadyH.nil)
    go_simp
    refine hK.out _ _ (by first | exact (BLW.out _).drew | exact BLW.out _ | exact (BLW.out _).drew.drew | exact (BLW.out _).drewN _ | exact ((BLW.out _).drewN _).drew) (fun hh => ?_)
    have HH' := Lib.hid hh
    clear hh hK K HH
    have HH := Lib.hid HH'.out
    clear HH'
    try simp only [List.getElem_toArray, List.getElem_cons_succ, List.getElem_cons_zero, Act.put, List.setIfInBounds_toArray, List.set_cons_zero, List.set_cons_succ]
    refine wpAnyH_done (by kernel_rfl) ?_ _
    go_upto_region 21 with fail
    refine wp_region_held_drew (S := (fun w' => Below w.heap.size w w')) (by kernel_rfl) (by first | exact (BLW.out _).drew | exact BLW.out _ | exact (BLW.out _).drew.drew | exact (BLW.out _).drewN _ | exact ((BLW.out _).drewN _).drew) (fun hh => ?_)
    have HH := Lib.hid hh
    clear hh
    refine wpAnyH_take (i := 0) (v := ?vG20) rfl (by kernel_rfl) (by kernel_rfl) (by kernel_rfl) (fun _ _ _ h => h) (Or.inl ⟨by rfl, fun w' _ => ?yG20⟩) HH.out ?_
    case yG20 => (go_simp; try with_reducible rfl)
    refine wpAnyH_take (i := 1) (v := ?vG21) rfl (by kernel_rfl) (by kernel_rfl) (by kernel_rfl) (fun _ _ _ h => h) (Or.inl ⟨by rfl, fun w' _ => ?yG21⟩) HH.out ?_
    case yG21 => (go_simp; try with_reducible rfl)
    try simp only [List.getElem_toArray, List.getElem_cons_succ, List.getElem_cons_zero, Act.put, List.setIfInBounds_toArray, List.set_cons_zero, List.set_cons_succ]
    try simp only [List.getElem_toArray, List.getElem_cons_succ, List.getElem_cons_zero, Act.put, List.setIfInBounds_toArray, List.set_cons_zero, List.set_cons_succ]
    refine wpAnyH_take (i := 2) (v := .int .u8 (V7 : Int)) rfl (by kernel_rfl) (by kernel_rfl) (by kernel_rfl) (fun _ _ _ h => h) (Or.inl ⟨by rfl, fun w' hw' => ?yG22⟩) HH.out ?_
    case yG22 => (have hc := HBY.out 7 (by have := HLT.out; omega) w' hw'; rw [xV7] at hc; simp [Addr.add] at hc; go_simp; try with_reducible rfl)
    refine wpAnyH_take (i := 3) (v := ?vG23) rfl (by kernel_rfl) (by kernel_rfl) (by kernel_rfl) (fun _ _ _ h => h) (Or.inl ⟨by rfl, fun w' _ => ?yG23⟩) HH.out ?_
    case yG23 => (go_simp; try with_reducible rfl)
    refine wpAnyH_take (i := 4) (v := ?vG24) rfl (by kernel_rfl) (by kernel_rfl) (by kernel_rfl) (fun _ _ _ h => h) (Or.inl ⟨by rfl, fun w' _ => ?yG24⟩) HH.out ?_
    case yG24 => (go_simp; try with_reducible rfl)
    try simp only [List.getElem_toArray, List.getElem_cons_succ, List.getElem_cons_zero, Act.put, List.setIfInBounds_toArray, List.set_cons_zero, List.set_cons_succ]
    refine wpAnyH_take (i := 5) (v := ?vG25) rfl (by kernel_rfl) (by kernel_rfl) (by kernel_rfl) (fun _ _ _ h => h) (Or.inl ⟨by rfl, fun w' _ => ?yG25⟩) HH.out ?_
    case yG25 => (go_simp; try with_reducible rfl)
    try simp only [List.getElem_toArray, List.getElem_cons_succ, List.getElem_cons_zero, Act.put, List.setIfInBounds_toArray, List.set_cons_zero, List.set_cons_succ]
    refine wpAnyH_take (i := 6) (v := .int .u8 (V8 : Int)) rfl (by kernel_rfl) (by kernel_rfl) (by kernel_rfl) (fun _ _ _ h => h) (Or.inl ⟨by rfl, fun w' hw' => ?yG26⟩) HH.out ?_
    case yG26 => (have hc := HBY.out 8 (by have := HLT.out; omega) w' hw'; rw [xV8] at hc; simp [Addr.add] at hc; go_simp; try with_reducible rfl)
    refine wpAnyH_take (i := 7) (v := ?vG27) rfl (by kernel_rfl) (by kernel_rfl) (by kernel_rfl) (fun _ _ _ h => h) (Or.inl ⟨by rfl, fun w' _ => ?yG27⟩) HH.out ?_
    case yG27 => (go_simp; try with_reducible rfl)
    try simp only [List.getElem_toArray, List.getElem_cons_succ, List.getElem_cons_zero, Act.put, List.setIfInBounds_toArray, List.set_cons_zero, List.set_cons_succ]
    refine wpAnyH_take (i := 8) (v := ?vG28) rfl (by kernel_rfl) (by kernel_rfl) (by kernel_rfl) (fun _ _ _ h => h) (Or.inl ⟨by rfl, fun w' _ => ?yG28⟩) HH.out ?_
    case yG28 => (go_simp; try with_reducible rfl)
    refine wpAnyH_take (i := 9) (v := ?vG29) rfl (by kernel_rfl) (by kernel_rfl) (by kernel_rfl) (fun _ _ _ h => h) (Or.inl ⟨by rfl, fun w' _ => ?yG29⟩) HH.out ?_
    case yG29 => (go_simp; try with_reducible rfl)
    try simp only [List.getElem_toArray, List.getElem_cons_succ, List.getElem_cons_zero, Act.put, List.setIfInBounds_toArray, List.set_cons_zero, List.set_cons_succ]
    refine wpAnyH_ready (rs := [10]) (by kernel_rfl) (by simp) (AllReadyH.cons rfl (fun K hK => ?_) AllReadyH.nil)
    go_simp
    refine (cget_any (some (ad.add 9)) 2 _ (part l 9 2) _ (part_len (by have := HLT.out; omega)) (part_rd (HRD.out.below HH.out) 9 2) (by omega)).mono ?_
    rintro e wq ⟨rfl, rfl⟩
    rw [← HVV9.out]
    go_simp
    refine hK.out _ _ (by first | exact (BLW.out _).drew | exact BLW.out _ | exact (BLW.out _).drew.drew | exact (BLW.out _).drewN _ | exact ((BLW.out _).drewN _).drew) (fun hh => ?_)
    have HH' := Lib.hid hh
    clear hh hK K HH 
    have HH := Lib.hid HH'.out
    clear HH'
    try simp only [List.getElem_toArray, List.getElem_cons_succ, List.getElem_cons_zero, Act.put, List.setIfInBounds_toArray, List.set_cons_zero, List.set_cons_succ]
    refine wpAnyH_take (i := 11) (v := ?vG211) rfl (by kernel_rfl) (by kernel_rfl) (by kernel_rfl) (fun _ _ _ h => h) (Or.inl ⟨by rfl, fun w' _ => ?yG211⟩) HH.out ?_
    case yG211 => (go_simp; try with_reducible rfl)
    refine wpAnyH_take (i := 12) (v := ?vG212) rfl (by kernel_rfl) (by kernel_rfl) (by kernel_rfl) (fun _ _ _ h => h) (Or.inl ⟨by rfl, fun w' _ => ?yG212⟩) HH.out ?_
    case yG212 => (go_simp; try with_reducible rfl)
    refine wpAnyH_take (i := 13) (v := ?vG213) rfl (by kernel_rfl) (by kernel_rfl) (by kernel_rfl) (fun _ _ _ h => h) (Or.inl ⟨by rfl, fun w' _ => ?yG213⟩) HH.out ?_
    case yG213 => (go_simp; try with_reducible rfl)
    try simp only [List.getElem_toArray, List.getElem_cons_succ, List.getElem_cons_zero, Act.put, List.setIfInBounds_toArray, List.set_cons_zero, List.set_cons_succ]
    try simp only [List.getElem_toArray, List.getElem_cons_succ, List.getElem_cons_zero, Act.put, List.setIfInBounds_toArray, List.set_cons_zero, List.set_cons_succ]
    refine wpAnyH_ready (rs := [14]) (by kernel_rfl) (by simp) (AllReadyH.cons rfl (fun K hK => ?_) AllReadyH.nil)
    go_simp
    refine hK.out _ _ (by first | exact (BLW.out _).drew | exact BLW.out _ | exact (BLW.out _).drew.drew | exact (BLW.out _).drewN _ | exact ((BLW.out _).drewN _).drew) (fun hh => ?_)
    have HH' := Lib.hid hh
    clear hh hK K HH
    have HH := Lib.hid HH'.out
    clear HH'
    try simp only [List.getElem_toArray, List.getElem_cons_succ, List.getElem_cons_zero, Act.put, List.setIfInBounds_toArray, List.set_cons_zero, List.set_cons_succ]
    refine wpAnyH_done (by kernel_rfl) ?_ _
    go_wp2_with fail
    refine (cget_any (some (ad.add 11)) 2 _ (part l 11 2) _ (part_len (by have := HLT.out; omega)) (part_rd (HRD.out.below (by first | exact (BLW.out _).drew | exact BLW.out _ | exact (BLW.out _).drew.drew | exact (BLW.out _).drewN _ | exact ((BLW.out _).drewN _).drew)) 11 2) (by omega)).mono ?_
    rintro e wq ⟨rfl, rfl⟩
    rw [← HVVR.out]
    go_upto_region 30 with fail
    obtain ⟨W, hW⟩ : ∃ v, v = (w1.alloc (.cells (rA k V1 V3 V7 V8 V9 VR 0 0 0 (.slice none 0 0)) 44)).drew.drew := ⟨_, rfl⟩
    have eW : W = (w1.alloc (.cells #[.int .i64 k, .int .u64 V1, .int .i64 V3, .int .i64 V7, .int .i64 V8, .int .i64 V9, .int .u64 VR, .int .i64 0, .int .i64 0, .int .i64 0, .slice none 0 0] 44)).drew.drew := hW
    have hBW : Below w1.heap.size w1 W := by rw [hW]; exact (bel1 _ _).drew.drew
    have BLX := Lib.hid (BL1.out.trans (hBW.mono BL1.out.size))
    have RZX := Lib.hid (Blk.below RZ1.out hBW)
    have CX := Lib.hid (show Blk W w1.heap.size (rA k V1 V3 V7 V8 V9 VR 0 0 0 (.slice none 0 0)) 44 from by rw [hW]; exact heap_alloc_new _ _)
    rw [← eW]
    have hc13 := HBY.out 13 (by have := HLT.out; omega) W BLX.out
    rw [← HCBQ.out] at hc13
    simp [Addr.add] at hc13
    have HG5 := Lib.hid (show w1.heap.size ≠ w.heap.size from by have := RZ1.out.lt; omega)
    obtain ⟨g5, hg5⟩ : ∃ g, g = w1.heap.size := ⟨_, rfl⟩
    rw [← hg5] at CX HG5 ⊢
    have HGB := Lib.hid (show w.heap.size ≤ g5 from by rw [hg5]; exact BL1.out.size)
    clear hW eW hBW BLW BL1 RZ1 hg5
    by_cases hz : n < Z
    · obtain ⟨f1, f2, f3⟩ := HSH.out (by rw [← HZQ.out]; exact hz)
      have E1 := Lib.hid f1
      have E2 := Lib.hid f2
      have E3 := Lib.hid f3
      have z1 : decide ((n : Int) < (Z : Int)) = true := decide_eq_true (by omega)
      have z2 : decide (n < Z) = true := decide_eq_true hz
      clear f1 f2 f3 hz
      go_wp2_with (refine wpList_store_row rfl 44 (.tmp 2) (.tmp 133) rfl w.heap.size (clA zeroCl none 0) rfl rfl 44 (clA zeroCl none 0) RZX.out HIZ.out rfl HOZ.out ?_)
      refine bodyPost_ret (v := .tuple #[.agg (clA zeroCl none 0), .int .i64 0, .int .i64 14]) (results_ctD Try.results45 _ _ w.heap.size 44 (clA zeroCl none 0) _ rfl (setRow_heap _ _ _ _ _ _ RZX.out) Try.underlying44 rfl HIZ.out) rfl ?_
      rw [E1.out, E2.out, E3.out]
      exact retCD_zero (by rfl) (below_setRow BLX.out (Nat.le_refl _) _)
    · have z1 : decide ((n : Int) < (Z : Int)) = false := decide_eq_false (by omega)
      have z2 : decide (n < Z) = false := decide_eq_false hz
      have HYES := Lib.hid (fun h => by have := HYES0.out (by rw [← HZQ.out]; exact hz) h; rw [← HZQ.out] at this; exact this : okCl y → Y = y ∧ MM = Z ∧ KK = 0)
      have HNO := Lib.hid (HNO0.out (by rw [← HZQ.out]; exact hz))
      have z3 : (14 : Int) ≤ (Z : Int) := by have := HZQ.out; omega
      have z4 : (Z : Int) ≤ (c : Int) := by omega
      have z5 : (Z : Int) - 14 = (CB : Int) := by have := HZQ.out; omega
      have z6 : Z - 14 = CB := by have := HZQ.out; omega
      have HBD := Lib.hid (show (part l 14 CB).length = CB from part_len (by have := HZQ.out; have := HYthdmdlnndbjcoaa.out; omega))
      have HZC := Lib.hid (show Z ≤ c from by omega)
      have c10 := CX.out.cell 10
      simp [rA] at c10
      have fz := blk_frozen CX.out 10
      have HRB := Lib.hid (show ∀ v, Rd w.heap.size (W.setCell ⟨g5, 10, none⟩ v) (some (ad.add 14)) (bv (part l 14 CB)) from fun v => part_rd (HRD.out.below (BLX.out.setCell HGB.out _)) 14 CB)
      clear hz HYES0 HNO0
      go_upto_region 36 with fail
      obtain ⟨A9, hA9⟩ : ∃ A : Option Addr, A = (if c = 14 then some ad else some ⟨ad.block, ad.off + 14, none⟩) := ⟨_, rfl⟩
      rw [← hA9]
      obtain ⟨c9, hc9⟩ : ∃ x, x = c - 14 := ⟨_, rfl⟩
      rw [← hc9]
      obtain ⟨W2, hW2⟩ : ∃ v, v = W.setCell ⟨g5, 10, none⟩ (.slice A9 CB c9) := ⟨_, rfl⟩
      rw [← hW2]
      have hh : ∀ v, Rd w.heap.size (W.setCell ⟨g5, 10, none⟩ v) A9 (bv (part l 14 CB)) := fun v => by
        rw [hA9]
        split
        · rw [show part l 14 CB = [] from List.length_eq_zero_iff.1 (by rw [HBD.out]; have := HZC.out; have := HZQ.out; omega)]
          exact Rd.none
        · have h := HRB.out v
          simp [Addr.add] at h
          exact h
      have HA9 := Lib.hid (show ∀ a2, A9 = some a2 → ∃ a0, some ad = some a0 ∧ a2.block = a0.block from fun a2 h => by
        rw [hA9] at h
        split at h <;> (injection h with h; subst h; exact ⟨ad, rfl, rfl⟩))
      have hrb : Rd w.heap.size W2 A9 (bv (part l 14 CB)) := by rw [hW2]; exact hh _
      have HRB2 := Lib.hid hrb
      have C2 := Lib.hid (show Blk W2 g5 (rA k V1 V3 V7 V8 V9 VR 0 0 0 (.slice A9 CB c9)) 44 from by rw [hW2]; exact heap_setCell_same _ _ _ _ _ _ CX.out)
      have RZ2 := Lib.hid (RZX.out.but (show But (fun q => q = g5) W W2 from by rw [hW2]; exact (But.refl (S := fun q => q = g5) W).setCell (.inl rfl) _) (fun e => HG5.out e.symm))
      have BL2 := Lib.hid (show Below w.heap.size w W2 from by rw [hW2]; exact BLX.out.setCell HGB.out _)
      have HEC := Lib.hid (show (rA k V1 V3 V7 V8 V9 VR 0 0 0 (.slice A9 CB c9)) = clA y A9 c9 from by rw [HYQ.out]; unfold clA; simp only; rw [HBD.out]; rfl)
      have HIC := Lib.hid (show (Try.prog.info? 44).map (·.size) = some (rA k V1 V3 V7 V8 V9 VR 0 0 0 (.slice A9 CB c9)).size from by kernel_rfl)
      have HOC := Lib.hid (show (rA k V1 V3 V7 V8 V9 VR 0 0 0 (.slice A9 CB c9)).all (·.oneCell') = true from by simp [rA, Value.oneCell'])
      have HCR := Lib.hid (show Calls Try.prog 20 #[.agg (rA k V1 V3 V7 V8 V9 VR 0 0 0 (.slice A9 CB c9))] W2 (RetB (.bool (decide (okCl y))) W2) from by rw [HEC.out]; exact cright_any y A9 c9 W2 (by rw [show y.body = part l 14 CB from by rw [HYQ.out]]; exact HRB2.out) BL2.out.size)
      obtain ⟨cs, hcs⟩ : ∃ cs, cs = (rA k V1 V3 V7 V8 V9 VR 0 0 0 (.slice A9 CB c9)) := ⟨_, rfl⟩
      rw [← hcs] at C2 HEC HIC HOC HCR
      clear hA9 hc9 hW2 hrb hh hcs c10 fz HRB RZX BLX CX hc13 z1 z2 z3 z4 z5 z6
      go_wp2_with (refine wpList_load_row rfl 44 (.tmp 5) rfl g5 rfl 44 cs (0, 0) _ C2.out Try.underlying44 rfl HIC.out ?_)
      refine HCR.out.mono ?_
      rintro e w9 ⟨rfl, bw⟩
      have RZ9 := Lib.hid (Blk.below RZ2.out bw)
      have BL9 := Lib.hid (BL2.out.trans (bw.mono BL2.out.size))
      have C9 := Lib.hid (Blk.below C2.out bw)
      have RB9 := Lib.hid (HRB2.out.below (bw.mono BL2.out.size))
      clear bw RZ2 BL2 C2
      by_cases ok : okCl y
      · obtain ⟨f1, f2, f3⟩ := HYES.out ok
        have E1 := Lib.hid f1
        have E2 := Lib.hid f2
        have E3 := Lib.hid f3
        rw [decide_eq_true ok]
        clear f1 f2 f3 ok
        go_wp2_with (first
          | (refine wpList_load_row rfl 44 (.tmp 5) rfl g5 rfl 44 cs (0, 0) _ C9.out Try.underlying44 rfl HIC.out ?_)
          | (refine wpList_store_row rfl 44 (.tmp 2) (.tmp 148) rfl w.heap.size cs rfl rfl 44 (clA zeroCl none 0) RZ9.out HIC.out (by rw [HEC.out]; rfl) HOC.out ?_))
        refine bodyPost_ret (v := .tuple #[.agg cs, .int .i64 Z, .int .i64 0]) (results_ctD Try.results45 _ _ w.heap.size 44 cs _ rfl (setRow_heap _ _ _ _ _ _ RZ9.out) Try.underlying44 rfl HIC.out) rfl ?_
        rw [E1.out, E2.out, E3.out]
        refine ⟨A9, c9, by rw [HEC.out]; rfl, ⟨?_, HA9.out⟩, below_setRow BL9.out (Nat.le_refl _) _⟩
        rw [show y.body = part l 14 CB from by rw [HYQ.out]]
        exact RB9.out.below (below_setRow (Below.refl _ _) (Nat.le_refl _) _)
      · obtain ⟨f1, f2, f3⟩ := HNO.out ok
        have E1 := Lib.hid f1
        have E2 := Lib.hid f2
        have E3 := Lib.hid f3
        rw [decide_eq_false ok]
        clear f1 f2 f3 ok
        go_wp2_with (refine wpList_store_row rfl 44 (.tmp 2) (.tmp 147) rfl w.heap.size (clA zeroCl none 0) rfl rfl 44 (clA zeroCl none 0) RZ9.out HIZ.out rfl HOZ.out ?_)
        refine bodyPost_ret (v := .tuple #[.agg (clA zeroCl none 0), .int .i64 0, .int .i64 3]) (results_ctD Try.results45 _ _ w.heap.size 44 (clA zeroCl none 0) _ rfl (setRow_heap _ _ _ _ _ _ RZ9.out) Try.underlying44 rfl HIZ.out) rfl ?_
        rw [E1.out, E2.out, E3.out]
        exact retCD_zero (by rfl) (below_setRow BL9.out (Nat.le_refl _) _)
end Go.Proofs.Ythdmdlnndbjcoaa.Ce
/-
  Decode, as the document's answer tells it: other kinds.
-/
namespace Go.Proofs.Ythdmdlnndbjcoaa.Ce
open Go.RowKit
attribute [local go_sem ↓] Go.wp_at_zero Go.wp_at_succ

set_option maxRecDepth 100000 in
set_option maxHeartbeats 12800000 in
theorem cdec_dr {B : Nat} (k : Int) (hk : k = 5) (ad : Addr) (n c : Nat) (l : List UInt8) (w : World) (hn : l.length = n) (hcap : n ≤ c ∧ c ≤ maxLen) (hr0 : Rd B w (some ad) (bv l)) (hB : B ≤ w.heap.size) (h0 : ((l.getD 0 0).toNat : Int) = k) (hl0 : 0 < n) (hm : n ≤ 1000000) :
    Calls Try.prog 45 #[.slice (some ad) n c] w (RetCD (some ad) (decCl l).1 ((decCl l).2.1 : Int) ((decCl l).2.2 : Int) w) := by
  have hr := hr0.more hB
  clear hr0 hB
  obtain ⟨Y, hY⟩ : ∃ Y, Y = (decCl l).1 := ⟨_, rfl⟩
  obtain ⟨MM, hMM⟩ : ∃ R, R = (decCl l).2.1 := ⟨_, rfl⟩
  obtain ⟨KK, hKK⟩ : ∃ K, K = (decCl l).2.2 := ⟨_, rfl⟩
  rw [← hY, ← hMM, ← hKK]
  have HIZ := Lib.hid (show (Try.prog.info? 44).map (·.size) = some (clA zeroCl none 0).size from by kernel_rfl)
  have HOZ := Lib.hid (show (clA zeroCl none 0).all (·.oneCell') = true from by simp [clA, Value.oneCell'])
  have hi1 : isKind k = true := by simp [isKind]; omega
  have hhd : headN k = 11 := by unfold headN; rw [show hasP k = true from decide_eq_true (by omega), show hasR k = false from decide_eq_false (by omega), show hasS k = false from decide_eq_false (by omega), show hasB k = false from decide_eq_false (by omega)]; rfl
  obtain ⟨ad', hA', had, hc0⟩ := hr.at_ (k := 0) (by omega)
  injection hA' with hA'
  subst hA'
  have hx0 : ((l[0]).toNat : Int) = k := by rw [← h0, List.getD_eq_getElem?_getD, List.getElem?_eq_getElem (by omega)]; rfl
  rw [hx0] at hc0
  have hc00 := hc0
  rw [add_zero] at hc0
  have hbyte : ∀ i (h : i < l.length), ∀ W, Below w.heap.size w W → W.cell? (ad.add i) = some (.int .u8 ((l[i]).toNat : Int)) := fun i h W hb => by
    obtain ⟨a2, e, _, h2⟩ := (hr.below hb).at_ h
    injection e with e; subst e; exact h2
  have HBY := Lib.hid hbyte
  have HPO := Lib.hid (show ∀ W, Calls Try.prog 78 #[.int .i64 k] W (RetS (.tuple #[.bool true, .bool false, .bool false, .bool false]) W) from fun W => by
    have h := chas_any k W
    rw [show hasP k = true from decide_eq_true (by omega), show hasR k = false from decide_eq_false (by omega), show hasS k = false from decide_eq_false (by omega), show hasB k = false from decide_eq_false (by omega)] at h
    exact h)
  have hsz : sizeCl l = if n < 11 then (0, 14) else if n < 11 + cntCl k l then (0, 14) else (11 + cntCl k l, 0) := by
    obtain ⟨x, t, rfl, _⟩ := cons_of (n := 0) (l := l) (by omega)
    have hxk : (x.toNat : Int) = k := by rw [← h0]; rfl
    simp only [sizeCl, hxk, hi1, if_true, hhd]
    rw [show t.length + 1 = n from by rw [← hn]; rfl]
  have HRD := Lib.hid hr
  have HYthdmdlnndbjcoaa := Lib.hid hn
  have HCAP := Lib.hid hcap
  have HMM := Lib.hid hm
  have HK := Lib.hid hk
  have n0 : ((n : Int) == 0) = false := by simp; omega
  have n1 : (0 : Int) < (n : Int) := by omega
  have k0 : (0 : Int) ≤ k := by omega
  have k1 : k ≤ 255 := by omega
  have wk : IntKind.i64.wrap k = k := IntWalk.i64_in _ (by omega)
  have d1 : decide (k < 1) = false := decide_eq_false (by omega)
  have d2 : decide ((8 : Int) < k) = false := decide_eq_false (by omega)
  by_cases hlt : n < 11
  · have hs : decCl l = (zeroCl, 0, 14) := by unfold decCl; rw [hsz, if_pos hlt]; rfl
    have E1 := Lib.hid (show Y = zeroCl from by rw [hY, hs])
    have E2 := Lib.hid (show MM = 0 from by rw [hMM, hs])
    have E3 := Lib.hid (show KK = 14 from by rw [hKK, hs])
    have d3 : decide ((n : Int) < 11) = true := decide_eq_true (by omega)
    have d4 : decide (n < 11) = true := decide_eq_true hlt
    clear hs hY hMM hKK hi1 hhd hx0 hbyte hsz hr hn hcap hm hk h0
    obtain ⟨w1, hw1⟩ : ∃ v, v = w.alloc (.cells (clA zeroCl none 0) 44) := ⟨_, rfl⟩
    have BL1 := Lib.hid (show Below w.heap.size w w1 from by rw [hw1]; exact bel1 _ _)
    have RZ1 := Lib.hid (show Blk w1 w.heap.size (clA zeroCl none 0) 44 from by rw [hw1]; exact heap_alloc_new _ _)
    have HS1 := Lib.hid (show w1.heap.size = w.heap.size + 1 from by rw [hw1]; simp)
    have q0 : w1.cell? ad = some (.int .u8 k) := by rw [← hc0]; exact BL1.out.cell had
    have q00 : w1.cell? (ad.add 0) = some (.int .u8 k) := by rw [add_zero]; exact q0
    unfold clA zeroCl at hw1
    simp only [List.length_nil] at hw1
    clear hc0 hc00 had
    go_enter Try.func45, Try.ntmps45
    go_upto_region 1 with fail
    have e1 := hw1
    simp at e1
    first | rw [← hw1] | rw [← e1]
    clear hw1 e1
    go_wp2_with fail
    refine (HPO.out _).mono ?_
    rintro e wh ⟨rfl, rfl⟩
    go_upto_region 16 with fail
    obtain ⟨w2, hw2⟩ : ∃ v, v = w1.alloc (.cells (rA k 0 0 0 0 0 0 0 0 0 (.slice none 0 0)) 44) := ⟨_, rfl⟩
    have BL := Lib.hid (BL1.out.trans ((show Below w1.heap.size w1 w2 from by rw [hw2]; exact bel1 _ _).mono BL1.out.size))
    have RZ := Lib.hid (Blk.below RZ1.out (show Below w1.heap.size w1 w2 from by rw [hw2]; exact bel1 _ _))
    obtain ⟨g5, hg5⟩ : ∃ g, g = w1.heap.size := ⟨_, rfl⟩
    have C := Lib.hid (show Blk w2 g5 (rA k 0 0 0 0 0 0 0 0 0 (.slice none 0 0)) 44 from by rw [hw2, hg5]; exact heap_alloc_new _ _)
    have HG := Lib.hid (show g5 = w.heap.size + 1 from by rw [hg5]; exact HS1.out)
    have e2 : w2 = w1.alloc (.cells #[.int .i64 k, .int .u64 0, .int .i64 0, .int .i64 0, .int .i64 0, .int .i64 0, .int .u64 0, .int .i64 0, .int .i64 0, .int .i64 0, .slice none 0 0] 44) := hw2
    rw [← e2, ← hg5]
    clear hw2 e2 BL1 RZ1 HS1 hg5 q0 q00
    go_wp2_with (first
      | (refine wpList_store_row rfl 44 (.tmp 2) (.tmp 55) rfl w.heap.size (clA zeroCl none 0) rfl rfl 44 (clA zeroCl none 0) RZ.out HIZ.out rfl HOZ.out ?_))
    refine bodyPost_ret (v := .tuple #[.agg (clA zeroCl none 0), .int .i64 0, .int .i64 14]) (results_ctD Try.results45 _ _ w.heap.size 44 (clA zeroCl none 0) _ rfl (setRow_heap _ _ _ _ _ _ RZ.out) Try.underlying44 rfl HIZ.out) rfl ?_
    rw [E1.out, E2.out, E3.out]
    exact retCD_zero (by rfl) (below_setRow BL.out (Nat.le_refl _) _)
  ·
    have hlen : 11 ≤ l.length := by omega
    obtain ⟨V1, hV1⟩ : ∃ V, V = Wi.getL (part l 1 2) := ⟨_, rfl⟩
    have bV1 : V1 < 65536 := by rw [hV1]; exact part_lt 1 2
    obtain ⟨V3, hV3⟩ : ∃ V, V = Wi.getL (part l 3 4) := ⟨_, rfl⟩
    have bV3 : V3 < 4294967296 := by rw [hV3]; exact part_lt 3 4
    have wV3 : IntKind.i64.wrap (V3 : Int) = (V3 : Int) := IntWalk.i64_in _ (by omega)
    obtain ⟨V7, hV7⟩ : ∃ V, V = Wi.getL (part l 7 1) := ⟨_, rfl⟩
    have bV7 : V7 < 256 := by rw [hV7]; exact part_lt 7 1
    have wV7 : IntKind.i64.wrap (V7 : Int) = (V7 : Int) := IntWalk.i64_in _ (by omega)
    have zV7 : (0 : Int) ≤ (V7 : Int) := by omega
    have yV7 : (V7 : Int) ≤ 255 := by omega
    have xV7 : ((l[7]'(Nat.lt_of_lt_of_le (by decide : 7 < 11) hlen)).toNat : Int) = (V7 : Int) := by rw [hV7, part_byte (by omega)]
    obtain ⟨V8, hV8⟩ : ∃ V, V = Wi.getL (part l 8 1) := ⟨_, rfl⟩
    have bV8 : V8 < 256 := by rw [hV8]; exact part_lt 8 1
    have wV8 : IntKind.i64.wrap (V8 : Int) = (V8 : Int) := IntWalk.i64_in _ (by omega)
    have zV8 : (0 : Int) ≤ (V8 : Int) := by omega
    have yV8 : (V8 : Int) ≤ 255 := by omega
    have xV8 : ((l[8]'(Nat.lt_of_lt_of_le (by decide : 8 < 11) hlen)).toNat : Int) = (V8 : Int) := by rw [hV8, part_byte (by omega)]
    obtain ⟨V9, hV9⟩ : ∃ V, V = Wi.getL (part l 9 2) := ⟨_, rfl⟩
    have bV9 : V9 < 65536 := by rw [hV9]; exact part_lt 9 2
    have wV9 : IntKind.i64.wrap (V9 : Int) = (V9 : Int) := IntWalk.i64_in _ (by omega)
    have d3 : decide ((n : Int) < 11) = false := decide_eq_false (by omega)
    have d4 : decide (n < 11) = false := decide_eq_false hlt
    have c11 : (11 : Int) ≤ (c : Int) := by omega
    have cn : (11 : Int) ≤ (n : Int) := by omega
    have nc : (n : Int) ≤ (c : Int) := by omega
    have i7 : (7 : Int) < (n : Int) := by omega
    have i8 : (8 : Int) < (n : Int) := by omega
    have ne1 : ¬ c = 1 := by omega
    have le1 : (1 : Int) ≤ (c : Int) := by omega
    have ne3 : ¬ c = 3 := by omega
    have le3 : (3 : Int) ≤ (c : Int) := by omega
    have ne9 : ¬ c = 9 := by omega
    have le9 : (9 : Int) ≤ (c : Int) := by omega
    have he7 : (7 : Int) ≤ (c : Int) := by omega
    have he11 : (11 : Int) ≤ (c : Int) := by omega
    have hs0 : sizeCl l = (11, 0) := by rw [hsz, if_neg hlt, show cntCl k l = 0 from by unfold cntCl; rw [show hasB k = false from decide_eq_false (by omega)]; rfl, Nat.add_zero, if_neg hlt]
    have hrd : readCl ((l.getD 0 0).toNat : Int) (l.take 11) = ⟨k, V1, V3, V7, V8, V9, 0, 0, 0, 0, []⟩ := by
      rw [h0]
      unfold readCl
      have hpt : ∀ i j, i + j ≤ 11 → part (l.take 11) i j = part l i j := fun i j h => by unfold part; rw [List.drop_take, List.take_take]; congr 1; omega
      rw [show hasP k = true from decide_eq_true (by omega), show hasR k = false from decide_eq_false (by omega), show hasS k = false from decide_eq_false (by omega), show hasB k = false from decide_eq_false (by omega), hpt 1 2 (by omega), hpt 3 4 (by omega), hpt 7 1 (by omega), hpt 8 1 (by omega), hpt 9 2 (by omega), ← hV1, ← hV3, ← hV7, ← hV8, ← hV9]
      simp
    obtain ⟨y, hy⟩ : ∃ y : Cl, y = ⟨k, V1, V3, V7, V8, V9, 0, 0, 0, 0, []⟩ := ⟨_, rfl⟩
    have hde : decCl l = if okCl y then (y, 11, 0) else (zeroCl, 0, 3) := by unfold decCl; rw [hs0]; simp only [if_pos]; rw [hrd, ← hy]
    have HYES := Lib.hid (show okCl y → Y = y ∧ MM = 11 ∧ KK = 0 from fun h => by rw [hde, if_pos h] at hY hMM hKK; exact ⟨hY, hMM, hKK⟩)
    have HNO := Lib.hid (show ¬ okCl y → Y = zeroCl ∧ MM = 0 ∧ KK = 3 from fun h => by rw [hde, if_neg h] at hY hMM hKK; exact ⟨hY, hMM, hKK⟩)
    have HYQ := Lib.hid hy
    clear hs0 hrd hde hy
    have HVV1 := Lib.hid hV1
    have HVV3 := Lib.hid hV3
    have HVV7 := Lib.hid hV7
    have HVV8 := Lib.hid hV8
    have HVV9 := Lib.hid hV9
    have HLT := Lib.hid (show 11 ≤ l.length from by omega)
    clear hY hMM hKK hi1 hhd hx0 hbyte hsz hr hn hcap hm hk h0 hlt hV1 hV3 hV7 hV8 hV9
    obtain ⟨w1, hw1⟩ : ∃ v, v = w.alloc (.cells (clA zeroCl none 0) 44) := ⟨_, rfl⟩
    have BL1 := Lib.hid (show Below w.heap.size w w1 from by rw [hw1]; exact bel1 _ _)
    have RZ1 := Lib.hid (show Blk w1 w.heap.size (clA zeroCl none 0) 44 from by rw [hw1]; exact heap_alloc_new _ _)
    have HS1 := Lib.hid (show w1.heap.size = w.heap.size + 1 from by rw [hw1]; simp)
    have q0 : w1.cell? ad = some (.int .u8 k) := by rw [← hc0]; exact BL1.out.cell had
    have q00 : w1.cell? (ad.add 0) = some (.int .u8 k) := by rw [add_zero]; exact q0
    unfold clA zeroCl at hw1
    simp only [List.length_nil] at hw1
    clear hc0 hc00 had
    go_enter Try.func45, Try.ntmps45
    go_upto_region 1 with fail
    have e1 := hw1
    simp at e1
    first | rw [← hw1] | rw [← e1]
    clear hw1 e1
    go_wp2_with fail
    refine (HPO.out _).mono ?_
    rintro e wh ⟨rfl, rfl⟩
    have BLW := Lib.hid (show ∀ o, Below w.heap.size w (w1.alloc o) from fun o => BL1.out.trans ((bel1 w1 o).mono BL1.out.size))
    clear q0 q00
    go_upto_region 18 with fail
    refine wp_region_held_drew (S := (fun w' => Below w.heap.size w w')) (by kernel_rfl) (by first | exact (BLW.out _).drew | exact BLW.out _ | exact (BLW.out _).drew.drew | exact (BLW.out _).drewN _ | exact ((BLW.out _).drewN _).drew) (fun hh => ?_)
    have HH := Lib.hid hh
    clear hh
    refine wpAnyH_take (i := 0) (v := ?vG10) rfl (by kernel_rfl) (by kernel_rfl) (by kernel_rfl) (fun _ _ _ h => h) (Or.inl ⟨by rfl, fun w' _ => ?yG10⟩) HH.out ?_
    case yG10 => (go_simp; try with_reducible rfl)
    refine wpAnyH_take (i := 1) (v := ?vG11) rfl (by kernel_rfl) (by kernel_rfl) (by kernel_rfl) (fun _ _ _ h => h) (Or.inl ⟨by rfl, fun w' _ => ?yG11⟩) HH.out ?_
    case yG11 => (go_simp; try with_reducible rfl)
    try simp only [List.getElem_toArray, List.getElem_cons_succ, List.getElem_cons_zero, Act.put, List.setIfInBounds_toArray, List.set_cons_zero, List.set_cons_succ]
    refine wpAnyH_take (i := 3) (v := ?vG13) rfl (by kernel_rfl) (by kernel_rfl) (by kernel_rfl) (fun _ _ _ h => h) (Or.inl ⟨by rfl, fun w' _ => ?yG13⟩) HH.out ?_
    case yG13 => (go_simp; try with_reducible rfl)
    refine wpAnyH_take (i := 4) (v := ?vG14) rfl (by kernel_rfl) (by kernel_rfl) (by kernel_rfl) (fun _ _ _ h => h) (Or.inl ⟨by rfl, fun w' _ => ?yG14⟩) HH.out ?_
    case yG14 => (go_simp; try with_reducible rfl)
    try simp only [List.getElem_toArray, List.getElem_cons_succ, List.getElem_cons_zero, Act.put, List.setIfInBounds_toArray, List.set_cons_zero, List.set_cons_succ]
    refine wpAnyH_ready (rs := [2]) (by kernel_rfl) (by simp) (AllReadyH.cons rfl (fun K hK => ?_) AllReadyH.nil)
    go_simp
    refine (cget_any (some (ad.add 1)) 2 _ (part l 1 2) _ (part_len (by have := HLT.out; omega)) (part_rd (HRD.out.below HH.out) 1 2) (by omega)).mono ?_
    rintro e wq ⟨rfl, rfl⟩
    rw [← HVV1.out]
    go_simp
    refine hK.out _ _ (by first | exact (BLW.out _).drew | exact BLW.out _ | exact (BLW.out _).drew.drew | exact (BLW.out _).drewN _ | exact ((BLW.out _).drewN _).drew) (fun hh => ?_)
    have HH' := Lib.hid hh
    clear hh hK K HH 
    have HH := Lib.hid HH'.out
    clear HH'
    try simp only [List.getElem_toArray, List.getElem_cons_succ, List.getElem_cons_zero, Act.put, List.setIfInBounds_toArray, List.set_cons_zero, List.set_cons_succ]
    refine wpAnyH_take (i := 7) (v := ?vG17) rfl (by kernel_rfl) (by kernel_rfl) (by kernel_rfl) (fun _ _ _ h => h) (Or.inl ⟨by rfl, fun w' _ => ?yG17⟩) HH.out ?_
    case yG17 => (go_simp; try with_reducible rfl)
    try simp only [List.getElem_toArray, List.getElem_cons_succ, List.getElem_cons_zero, Act.put, List.setIfInBounds_toArray, List.set_cons_zero, List.set_cons_succ]
    refine wpAnyH_ready (rs := [5]) (by kernel_rfl) (by simp) (AllReadyH.cons rfl (fun K hK => ?_) AllReadyH.nil)
    go_simp
    refine (cget_any (some (ad.add 3)) 4 _ (part l 3 4) _ (part_len (by have := HLT.out; omega)) (part_rd (HRD.out.below HH.out) 3 4) (by omega)).mono ?_
    rintro e wq ⟨rfl, rfl⟩
    rw [← HVV3.out]
    go_simp
    refine hK.out _ _ (by first | exact (BLW.out _).drew | exact BLW.out _ | exact (BLW.out _).drew.drew | exact (BLW.out _).drewN _ | exact ((BLW.out _).drewN _).drew) (fun hh => ?_)
    have HH' := Lib.hid hh
    clear hh hK K HH 
    have HH := Lib.hid HH'.out
    clear HH'
    refine wpAnyH_take (i := 6) (v := ?vG16) rfl (by kernel_rfl) (by kernel_rfl) (by kernel_rfl) (fun _ _ _ h => h) (Or.inl ⟨by rfl, fun w' _ => ?yG16⟩) HH.out ?_
    case yG16 => (go_simp; try with_reducible rfl)
    try simp only [List.getElem_toArray, List.getElem_cons_succ, List.getElem_cons_zero, Act.put, List.setIfInBounds_toArray, List.set_cons_zero, List.set_cons_succ]
    try simp only [List.getElem_toArray, List.getElem_cons_succ, List.getElem_cons_zero, Act.put, List.setIfInBounds_toArray, List.set_cons_zero, List.set_cons_succ]
    refine wpAnyH_ready (rs := [8]) (by kernel_rfl) (by simp) (AllReadyH.cons rfl (fun K hK => ?_) AllReadyH.nil)
    go_simp
    refine hK.out _ _ (by first | exact (BLW.out _).drew | exact BLW.out _ | exact (BLW.out _).drew.drew | exact (BLW.out _).drewN _ | exact ((BLW.out _).drewN _).drew) (fun hh => ?_)
    have HH' := Lib.hid hh
    clear hh hK K HH
    have HH := Lib.hid HH'.out
    clear HH'
    refine wpAnyH_take (i := 9) (v := ?vG19) rfl (by kernel_rfl) (by kernel_rfl) (by kernel_rfl) (fun _ _ _ h => h) (Or.inl ⟨by rfl, fun w' _ => ?yG19⟩) HH.out ?_
    case yG19 => (go_simp; try with_reducible rfl)
    try simp only [List.getElem_toArray, List.getElem_cons_succ, List.getElem_cons_zero, Act.put, List.setIfInBounds_toArray, List.set_cons_zero, List.set_cons_succ]
    refine wpAnyH_ready (rs := [10]) (by kernel_rfl) (by simp) (AllReadyH.cons rfl (fun K hK => ?_) AllReadyH.nil)
    go_simp
    refine hK.out _ _ (by first | exact (BLW.out _).drew | exact BLW.out _ | exact (BLW.out _).drew.drew | exact (BLW.out _).drewN _ | exact ((BLW.out _).drewN _).drew) (fun hh => ?_)
    have HH' := Lib.hid hh
    clear hh hK K HH
    have HH := Lib.hid HH'.out
    clear HH'
    try simp only [List.getElem_toArray, List.getElem_cons_succ, List.getElem_cons_zero, Act.put, List.setIfInBounds_toArray, List.set_cons_zero, List.set_cons_succ]
    refine wpAnyH_done (by kernel_rfl) ?_ _
    go_upto_region 21 with fail
    refine wp_region_held_drew (S := (fun w' => Below w.heap.size w w')) (by kernel_rfl) (by first | exact (BLW.out _).drew | exact BLW.out _ | exact (BLW.out _).drew.drew | exact (BLW.out _).drewN _ | exact ((BLW.out _).drewN _).drew) (fun hh => ?_)
    have HH := Lib.hid hh
    clear hh
    refine wpAnyH_take (i := 0) (v := ?vG20) rfl (by kernel_rfl) (by kernel_rfl) (by kernel_rfl) (fun _ _ _ h => h) (Or.inl ⟨by rfl, fun w' _ => ?yG20⟩) HH.out ?_
    case yG20 => (go_simp; try with_reducible rfl)
    refine wpAnyH_take (i := 1) (v := ?vG21) rfl (by kernel_rfl) (by kernel_rfl) (by kernel_rfl) (fun _ _ _ h => h) (Or.inl ⟨by rfl, fun w' _ => ?yG21⟩) HH.out ?_
    case yG21 => (go_simp; try with_reducible rfl)
    try simp only [List.getElem_toArray, List.getElem_cons_succ, List.getElem_cons_zero, Act.put, List.setIfInBounds_toArray, List.set_cons_zero, List.set_cons_succ]
    try simp only [List.getElem_toArray, List.getElem_cons_succ, List.getElem_cons_zero, Act.put, List.setIfInBounds_toArray, List.set_cons_zero, List.set_cons_succ]
    refine wpAnyH_take (i := 2) (v := .int .u8 (V7 : Int)) rfl (by kernel_rfl) (by kernel_rfl) (by kernel_rfl) (fun _ _ _ h => h) (Or.inl ⟨by rfl, fun w' hw' => ?yG22⟩) HH.out ?_
    case yG22 => (have hc := HBY.out 7 (by have := HLT.out; omega) w' hw'; rw [xV7] at hc; simp [Addr.add] at hc; go_simp; try with_reducible rfl)
    refine wpAnyH_take (i := 3) (v := ?vG23) rfl (by kernel_rfl) (by kernel_rfl) (by kernel_rfl) (fun _ _ _ h => h) (Or.inl ⟨by rfl, fun w' _ => ?yG23⟩) HH.out ?_
    case yG23 => (go_simp; try with_reducible rfl)
    refine wpAnyH_take (i := 4) (v := ?vG24) rfl (by kernel_rfl) (by kernel_rfl) (by kernel_rfl) (fun _ _ _ h => h) (Or.inl ⟨by rfl, fun w' _ => ?yG24⟩) HH.out ?_
    case yG24 => (go_simp; try with_reducible rfl)
    try simp only [List.getElem_toArray, List.getElem_cons_succ, List.getElem_cons_zero, Act.put, List.setIfInBounds_toArray, List.set_cons_zero, List.set_cons_succ]
    refine wpAnyH_take (i := 5) (v := ?vG25) rfl (by kernel_rfl) (by kernel_rfl) (by kernel_rfl) (fun _ _ _ h => h) (Or.inl ⟨by rfl, fun w' _ => ?yG25⟩) HH.out ?_
    case yG25 => (go_simp; try with_reducible rfl)
    try simp only [List.getElem_toArray, List.getElem_cons_succ, List.getElem_cons_zero, Act.put, List.setIfInBounds_toArray, List.set_cons_zero, List.set_cons_succ]
    refine wpAnyH_take (i := 6) (v := .int .u8 (V8 : Int)) rfl (by kernel_rfl) (by kernel_rfl) (by kernel_rfl) (fun _ _ _ h => h) (Or.inl ⟨by rfl, fun w' hw' => ?yG26⟩) HH.out ?_
    case yG26 => (have hc := HBY.out 8 (by have := HLT.out; omega) w' hw'; rw [xV8] at hc; simp [Addr.add] at hc; go_simp; try with_reducible rfl)
    refine wpAnyH_take (i := 7) (v := ?vG27) rfl (by kernel_rfl) (by kernel_rfl) (by kernel_rfl) (fun _ _ _ h => h) (Or.inl ⟨by rfl, fun w' _ => ?yG27⟩) HH.out ?_
    case yG27 => (go_simp; try with_reducible rfl)
    try simp only [List.getElem_toArray, List.getElem_cons_succ, List.getElem_cons_zero, Act.put, List.setIfInBounds_toArray, List.set_cons_zero, List.set_cons_succ]
    refine wpAnyH_take (i := 8) (v := ?vG28) rfl (by kernel_rfl) (by kernel_rfl) (by kernel_rfl) (fun _ _ _ h => h) (Or.inl ⟨by rfl, fun w' _ => ?yG28⟩) HH.out ?_
    case yG28 => (go_simp; try with_reducible rfl)
    refine wpAnyH_take (i := 9) (v := ?vG29) rfl (by kernel_rfl) (by kernel_rfl) (by kernel_rfl) (fun _ _ _ h => h) (Or.inl ⟨by rfl, fun w' _ => ?yG29⟩) HH.out ?_
    case yG29 => (go_simp; try with_reducible rfl)
    try simp only [List.getElem_toArray, List.getElem_cons_succ, List.getElem_cons_zero, Act.put, List.setIfInBounds_toArray, List.set_cons_zero, List.set_cons_succ]
    refine wpAnyH_ready (rs := [10]) (by kernel_rfl) (by simp) (AllReadyH.cons rfl (fun K hK => ?_) AllReadyH.nil)
    go_simp
    refine (cget_any (some (ad.add 9)) 2 _ (part l 9 2) _ (part_len (by have := HLT.out; omega)) (part_rd (HRD.out.below HH.out) 9 2) (by omega)).mono ?_
    rintro e wq ⟨rfl, rfl⟩
    rw [← HVV9.out]
    go_simp
    refine hK.out _ _ (by first | exact (BLW.out _).drew | exact BLW.out _ | exact (BLW.out _).drew.drew | exact (BLW.out _).drewN _ | exact ((BLW.out _).drewN _).drew) (fun hh => ?_)
    have HH' := Lib.hid hh
    clear hh hK K HH 
    have HH := Lib.hid HH'.out
    clear HH'
    try simp only [List.getElem_toArray, List.getElem_cons_succ, List.getElem_cons_zero, Act.put, List.setIfInBounds_toArray, List.set_cons_zero, List.set_cons_succ]
    refine wpAnyH_take (i := 11) (v := ?vG211) rfl (by kernel_rfl) (by kernel_rfl) (by kernel_rfl) (fun _ _ _ h => h) (Or.inl ⟨by rfl, fun w' _ => ?yG211⟩) HH.out ?_
    case yG211 => (go_simp; try with_reducible rfl)
    refine wpAnyH_take (i := 12) (v := ?vG212) rfl (by kernel_rfl) (by kernel_rfl) (by kernel_rfl) (fun _ _ _ h => h) (Or.inl ⟨by rfl, fun w' _ => ?yG212⟩) HH.out ?_
    case yG212 => (go_simp; try with_reducible rfl)
    refine wpAnyH_take (i := 13) (v := ?vG213) rfl (by kernel_rfl) (by kernel_rfl) (by kernel_rfl) (fun _ _ _ h => h) (Or.inl ⟨by rfl, fun w' _ => ?yG213⟩) HH.out ?_
    case yG213 => (go_simp; try with_reducible rfl)
    try simp only [List.getElem_toArray, List.getElem_cons_succ, List.getElem_cons_zero, Act.put, List.setIfInBounds_toArray, List.set_cons_zero, List.set_cons_succ]
    try simp only [List.getElem_toArray, List.getElem_cons_succ, List.getElem_cons_zero, Act.put, List.setIfInBounds_toArray, List.set_cons_zero, List.set_cons_succ]
    refine wpAnyH_ready (rs := [14]) (by kernel_rfl) (by simp) (AllReadyH.cons rfl (fun K hK => ?_) AllReadyH.nil)
    go_simp
    refine hK.out _ _ (by first | exact (BLW.out _).drew | exact BLW.out _ | exact (BLW.out _).drew.drew | exact (BLW.out _).drewN _ | exact ((BLW.out _).drewN _).drew) (fun hh => ?_)
    have HH' := Lib.hid hh
    clear hh hK K HH
    have HH := Lib.hid HH'.out
    clear HH'
    try simp only [List.getElem_toArray, List.getElem_cons_succ, List.getElem_cons_zero, Act.put, List.setIfInBounds_toArray, List.set_cons_zero, List.set_cons_succ]
    refine wpAnyH_done (by kernel_rfl) ?_ _
    go_wp2_with fail
    refine (cright_any ⟨k, V1, V3, V7, V8, V9, 0, 0, 0, 0, []⟩ none 0 _ Rd.none (Nat.le_refl _)).mono ?_
    rw [← HYQ.out]
    rintro e w9 ⟨rfl, bw⟩
    have RZ9 := Lib.hid (blk_thru RZ1.out (by first | exact (bel1 _ _).drew | exact bel1 _ _ | exact (bel1 _ _).drew.drew | exact (bel1 _ _).drewN _) bw)
    have BL9 := Lib.hid (below_thru BL1.out (by first | exact (bel1 _ _).drew | exact bel1 _ _ | exact (bel1 _ _).drew.drew | exact (bel1 _ _).drewN _) bw)
    have C9 := Lib.hid (show Blk w9 w1.heap.size (rA k V1 V3 V7 V8 V9 0 0 0 0 (.slice none 0 0)) 44 from by refine Blk.below ?_ bw; exact heap_alloc_new _ _)
    have HEC := Lib.hid (show (rA k V1 V3 V7 V8 V9 0 0 0 0 (.slice none 0 0)) = clA y none 0 from by rw [HYQ.out]; rfl)
    have HIC := Lib.hid (show (Try.prog.info? 44).map (·.size) = some (rA k V1 V3 V7 V8 V9 0 0 0 0 (.slice none 0 0)).size from by kernel_rfl)
    have HOC := Lib.hid (show (rA k V1 V3 V7 V8 V9 0 0 0 0 (.slice none 0 0)).all (·.oneCell') = true from by simp [rA, Value.oneCell'])
    clear bw RZ1 BL1 BLW
    by_cases ok : okCl y
    · obtain ⟨f1, f2, f3⟩ := HYES.out ok
      have E1 := Lib.hid f1
      have E2 := Lib.hid f2
      have E3 := Lib.hid f3
      rw [decide_eq_true ok]
      clear f1 f2 f3 ok
      go_wp2_with (first
        | (refine wpList_load_row rfl 44 (.tmp 5) rfl w1.heap.size rfl 44 (rA k V1 V3 V7 V8 V9 0 0 0 0 (.slice none 0 0)) (0, 0) _ C9.out Try.underlying44 rfl HIC.out ?_)
        | (refine wpList_store_row rfl 44 (.tmp 2) (.tmp 148) rfl w.heap.size (rA k V1 V3 V7 V8 V9 0 0 0 0 (.slice none 0 0)) rfl rfl 44 (clA zeroCl none 0) RZ9.out HIC.out rfl HOC.out ?_))
      refine bodyPost_ret (v := .tuple #[.agg (rA k V1 V3 V7 V8 V9 0 0 0 0 (.slice none 0 0)), .int .i64 11, .int .i64 0]) (results_ctD Try.results45 _ _ w.heap.size 44 (rA k V1 V3 V7 V8 V9 0 0 0 0 (.slice none 0 0)) _ rfl (setRow_heap _ _ _ _ _ _ RZ9.out) Try.underlying44 rfl HIC.out) rfl ?_
      rw [E1.out, E2.out, E3.out]
      refine ⟨none, 0, by rw [HEC.out]; rfl, ⟨?_, fun _ h => by cases h⟩, below_setRow BL9.out (Nat.le_refl _) _⟩
      rw [show y.body = [] from by rw [HYQ.out]]; exact Rd.none
    · obtain ⟨f1, f2, f3⟩ := HNO.out ok
      have E1 := Lib.hid f1
      have E2 := Lib.hid f2
      have E3 := Lib.hid f3
      rw [decide_eq_false ok]
      clear f1 f2 f3 ok
      go_wp2_with (refine wpList_store_row rfl 44 (.tmp 2) (.tmp 147) rfl w.heap.size (clA zeroCl none 0) rfl rfl 44 (clA zeroCl none 0) RZ9.out HIZ.out rfl HOZ.out ?_)
      refine bodyPost_ret (v := .tuple #[.agg (clA zeroCl none 0), .int .i64 0, .int .i64 3]) (results_ctD Try.results45 _ _ w.heap.size 44 (clA zeroCl none 0) _ rfl (setRow_heap _ _ _ _ _ _ RZ9.out) Try.underlying44 rfl HIZ.out) rfl ?_
      rw [E1.out, E2.out, E3.out]
      exact retCD_zero (by rfl) (below_setRow BL9.out (Nat.le_refl _) _)
set_option maxRecDepth 100000 in
set_option maxHeartbeats 12800000 in
theorem cdec_ho {B : Nat} (k : Int) (hk : k = 6) (ad : Addr) (n c : Nat) (l : List UInt8) (w : World) (hn : l.length = n) (hcap : n ≤ c ∧ c ≤ maxLen) (hr0 : Rd B w (some ad) (bv l)) (hB : B ≤ w.heap.size) (h0 : ((l.getD 0 0).toNat : Int) = k) (hl0 : 0 < n) (hm : n ≤ 1000000) :
    Calls Try.prog 45 #[.slice (some ad) n c] w (RetCD (some ad) (decCl l).1 ((decCl l).2.1 : Int) ((decCl l).2.2 : Int) w) := by
  have hr := hr0.more hB
  clear hr0 hB
  obtain ⟨Y, hY⟩ : ∃ Y, Y = (decCl l).1 := ⟨_, rfl⟩
  obtain ⟨MM, hMM⟩ : ∃ R, R = (decCl l).2.1 := ⟨_, rfl⟩
  obtain ⟨KK, hKK⟩ : ∃ K, K = (decCl l).2.2 := ⟨_, rfl⟩
  rw [← hY, ← hMM, ← hKK]
  have HIZ := Lib.hid (show (Try.prog.info? 44).map (·.size) = some (clA zeroCl none 0).size from by kernel_rfl)
  have HOZ := Lib.hid (show (clA zeroCl none 0).all (·.oneCell') = true from by simp [clA, Value.oneCell'])
  have hi1 : isKind k = true := by simp [isKind]; omega
  have hhd : headN k = 21 := by unfold headN; rw [show hasP k = false from decide_eq_false (by omega), show hasR k = true from decide_eq_true (by omega), show hasS k = true from decide_eq_true (by omega), show hasB k = false from decide_eq_false (by omega)]; rfl
  obtain ⟨ad', hA', had, hc0⟩ := hr.at_ (k := 0) (by omega)
  injection hA' with hA'
  subst hA'
  have hx0 : ((l[0]).toNat : Int) = k := by rw [← h0, List.getD_eq_getElem?_getD, List.getElem?_eq_getElem (by omega)]; rfl
  rw [hx0] at hc0
  have hc00 := hc0
  rw [add_zero] at hc0
  have hbyte : ∀ i (h : i < l.length), ∀ W, Below w.heap.size w W → W.cell? (ad.add i) = some (.int .u8 ((l[i]).toNat : Int)) := fun i h W hb => by
    obtain ⟨a2, e, _, h2⟩ := (hr.below hb).at_ h
    injection e with e; subst e; exact h2
  have HBY := Lib.hid hbyte
  have HPO := Lib.hid (show ∀ W, Calls Try.prog 78 #[.int .i64 k] W (RetS (.tuple #[.bool false, .bool true, .bool true, .bool false]) W) from fun W => by
    have h := chas_any k W
    rw [show hasP k = false from decide_eq_false (by omega), show hasR k = true from decide_eq_true (by omega), show hasS k = true from decide_eq_true (by omega), show hasB k = false from decide_eq_false (by omega)] at h
    exact h)
  have hsz : sizeCl l = if n < 21 then (0, 14) else if n < 21 + cntCl k l then (0, 14) else (21 + cntCl k l, 0) := by
    obtain ⟨x, t, rfl, _⟩ := cons_of (n := 0) (l := l) (by omega)
    have hxk : (x.toNat : Int) = k := by rw [← h0]; rfl
    simp only [sizeCl, hxk, hi1, if_true, hhd]
    rw [show t.length + 1 = n from by rw [← hn]; rfl]
  have HRD := Lib.hid hr
  have HYthdmdlnndbjcoaa := Lib.hid hn
  have HCAP := Lib.hid hcap
  have HMM := Lib.hid hm
  have HK := Lib.hid hk
  have n0 : ((n : Int) == 0) = false := by simp; omega
  have n1 : (0 : Int) < (n : Int) := by omega
  have k0 : (0 : Int) ≤ k := by omega
  have k1 : k ≤ 255 := by omega
  have wk : IntKind.i64.wrap k = k := IntWalk.i64_in _ (by omega)
  have d1 : decide (k < 1) = false := decide_eq_false (by omega)
  have d2 : decide ((8 : Int) < k) = false := decide_eq_false (by omega)
  by_cases hlt : n < 21
  · have hs : decCl l = (zeroCl, 0, 14) := by unfold decCl; rw [hsz, if_pos hlt]; rfl
    have E1 := Lib.hid (show Y = zeroCl from by rw [hY, hs])
    have E2 := Lib.hid (show MM = 0 from by rw [hMM, hs])
    have E3 := Lib.hid (show KK = 14 from by rw [hKK, hs])
    have d3 : decide ((n : Int) < 21) = true := decide_eq_true (by omega)
    have d4 : decide (n < 21) = true := decide_eq_true hlt
    clear hs hY hMM hKK hi1 hhd hx0 hbyte hsz hr hn hcap hm hk h0
    obtain ⟨w1, hw1⟩ : ∃ v, v = w.alloc (.cells (clA zeroCl none 0) 44) := ⟨_, rfl⟩
    have BL1 := Lib.hid (show Below w.heap.size w w1 from by rw [hw1]; exact bel1 _ _)
    have RZ1 := Lib.hid (show Blk w1 w.heap.size (clA zeroCl none 0) 44 from by rw [hw1]; exact heap_alloc_new _ _)
    have HS1 := Lib.hid (show w1.heap.size = w.heap.size + 1 from by rw [hw1]; simp)
    have q0 : w1.cell? ad = some (.int .u8 k) := by rw [← hc0]; exact BL1.out.cell had
    have q00 : w1.cell? (ad.add 0) = some (.int .u8 k) := by rw [add_zero]; exact q0
    unfold clA zeroCl at hw1
    simp only [List.length_nil] at hw1
    clear hc0 hc00 had
    go_enter Try.func45, Try.ntmps45
    go_upto_region 1 with fail
    have e1 := hw1
    simp at e1
    first | rw [← hw1] | rw [← e1]
    clear hw1 e1
    go_wp2_with fail
    refine (HPO.out _).mono ?_
    rintro e wh ⟨rfl, rfl⟩
    go_upto_region 16 with fail
    obtain ⟨w2, hw2⟩ : ∃ v, v = w1.alloc (.cells (rA k 0 0 0 0 0 0 0 0 0 (.slice none 0 0)) 44) := ⟨_, rfl⟩
    have BL := Lib.hid (BL1.out.trans ((show Below w1.heap.size w1 w2 from by rw [hw2]; exact bel1 _ _).mono BL1.out.size))
    have RZ := Lib.hid (Blk.below RZ1.out (show Below w1.heap.size w1 w2 from by rw [hw2]; exact bel1 _ _))
    obtain ⟨g5, hg5⟩ : ∃ g, g = w1.heap.size := ⟨_, rfl⟩
    have C := Lib.hid (show Blk w2 g5 (rA k 0 0 0 0 0 0 0 0 0 (.slice none 0 0)) 44 from by rw [hw2, hg5]; exact heap_alloc_new _ _)
    have HG := Lib.hid (show g5 = w.heap.size + 1 from by rw [hg5]; exact HS1.out)
    have e2 : w2 = w1.alloc (.cells #[.int .i64 k, .int .u64 0, .int .i64 0, .int .i64 0, .int .i64 0, .int .i64 0, .int .u64 0, .int .i64 0, .int .i64 0, .int .i64 0, .slice none 0 0] 44) := hw2
    rw [← e2, ← hg5]
    clear hw2 e2 BL1 RZ1 HS1 hg5 q0 q00
    go_wp2_with (first
      | (refine wpList_store_row rfl 44 (.tmp 2) (.tmp 55) rfl w.heap.size (clA zeroCl none 0) rfl rfl 44 (clA zeroCl none 0) RZ.out HIZ.out rfl HOZ.out ?_))
    refine bodyPost_ret (v := .tuple #[.agg (clA zeroCl none 0), .int .i64 0, .int .i64 14]) (results_ctD Try.results45 _ _ w.heap.size 44 (clA zeroCl none 0) _ rfl (setRow_heap _ _ _ _ _ _ RZ.out) Try.underlying44 rfl HIZ.out) rfl ?_
    rw [E1.out, E2.out, E3.out]
    exact retCD_zero (by rfl) (below_setRow BL.out (Nat.le_refl _) _)
  ·
    have hlen : 21 ≤ l.length := by omega
    obtain ⟨V1, hV1⟩ : ∃ V, V = Wi.getL (part l 1 2) := ⟨_, rfl⟩
    have bV1 : V1 < 65536 := by rw [hV1]; exact part_lt 1 2
    obtain ⟨V3, hV3⟩ : ∃ V, V = Wi.getL (part l 3 4) := ⟨_, rfl⟩
    have bV3 : V3 < 4294967296 := by rw [hV3]; exact part_lt 3 4
    have wV3 : IntKind.i64.wrap (V3 : Int) = (V3 : Int) := IntWalk.i64_in _ (by omega)
    obtain ⟨VR, hVR⟩ : ∃ V, V = Wi.getL (part l 7 2) := ⟨_, rfl⟩
    have bVR : VR < 65536 := by rw [hVR]; exact part_lt 7 2
    obtain ⟨VF, hVF⟩ : ∃ V, V = Wi.getL (part l 9 4) := ⟨_, rfl⟩
    have bVF : VF < 4294967296 := by rw [hVF]; exact part_lt 9 4
    have wVF : IntKind.i64.wrap (VF : Int) = (VF : Int) := IntWalk.i64_in _ (by omega)
    obtain ⟨VT, hVT⟩ : ∃ V, V = Wi.getL (part l 13 4) := ⟨_, rfl⟩
    have bVT : VT < 4294967296 := by rw [hVT]; exact part_lt 13 4
    have wVT : IntKind.i64.wrap (VT : Int) = (VT : Int) := IntWalk.i64_in _ (by omega)
    obtain ⟨VU, hVU⟩ : ∃ V, V = Wi.getL (part l 17 4) := ⟨_, rfl⟩
    have bVU : VU < 4294967296 := by rw [hVU]; exact part_lt 17 4
    have wVU : IntKind.i64.wrap (VU : Int) = (VU : Int) := IntWalk.i64_in _ (by omega)
    have d3 : decide ((n : Int) < 21) = false := decide_eq_false (by omega)
    have d4 : decide (n < 21) = false := decide_eq_false hlt
    have c21 : (21 : Int) ≤ (c : Int) := by omega
    have cn : (21 : Int) ≤ (n : Int) := by omega
    have nc : (n : Int) ≤ (c : Int) := by omega
    have ne1 : ¬ c = 1 := by omega
    have le1 : (1 : Int) ≤ (c : Int) := by omega
    have ne3 : ¬ c = 3 := by omega
    have le3 : (3 : Int) ≤ (c : Int) := by omega
    have ne7 : ¬ c = 7 := by omega
    have le7 : (7 : Int) ≤ (c : Int) := by omega
    have ne9 : ¬ c = 9 := by omega
    have le9 : (9 : Int) ≤ (c : Int) := by omega
    have ne13 : ¬ c = 13 := by omega
    have le13 : (13 : Int) ≤ (c : Int) := by omega
    have ne17 : ¬ c = 17 := by omega
    have le17 : (17 : Int) ≤ (c : Int) := by omega
    have he21 : (21 : Int) ≤ (c : Int) := by omega
    have hs0 : sizeCl l = (21, 0) := by rw [hsz, if_neg hlt, show cntCl k l = 0 from by unfold cntCl; rw [show hasB k = false from decide_eq_false (by omega)]; rfl, Nat.add_zero, if_neg hlt]
    have hrd : readCl ((l.getD 0 0).toNat : Int) (l.take 21) = ⟨k, V1, V3, 0, 0, 0, VR, VF, VT, VU, []⟩ := by
      rw [h0]
      unfold readCl
      have hpt : ∀ i j, i + j ≤ 21 → part (l.take 21) i j = part l i j := fun i j h => by unfold part; rw [List.drop_take, List.take_take]; congr 1; omega
      rw [show hasP k = false from decide_eq_false (by omega), show hasR k = true from decide_eq_true (by omega), show hasS k = true from decide_eq_true (by omega), show hasB k = false from decide_eq_false (by omega), hpt 1 2 (by omega), hpt 3 4 (by omega), hpt 7 2 (by omega), hpt 9 4 (by omega), hpt 13 4 (by omega), hpt 17 4 (by omega), ← hV1, ← hV3, ← hVR, ← hVF, ← hVT, ← hVU]
      simp
    obtain ⟨y, hy⟩ : ∃ y : Cl, y = ⟨k, V1, V3, 0, 0, 0, VR, VF, VT, VU, []⟩ := ⟨_, rfl⟩
    have hde : decCl l = if okCl y then (y, 21, 0) else (zeroCl, 0, 3) := by unfold decCl; rw [hs0]; simp only [if_pos]; rw [hrd, ← hy]
    have HYES := Lib.hid (show okCl y → Y = y ∧ MM = 21 ∧ KK = 0 from fun h => by rw [hde, if_pos h] at hY hMM hKK; exact ⟨hY, hMM, hKK⟩)
    have HNO := Lib.hid (show ¬ okCl y → Y = zeroCl ∧ MM = 0 ∧ KK = 3 from fun h => by rw [hde, if_neg h] at hY hMM hKK; exact ⟨hY, hMM, hKK⟩)
    have HYQ := Lib.hid hy
    clear hs0 hrd hde hy
    have HVV1 := Lib.hid hV1
    have HVV3 := Lib.hid hV3
    have HVVR := Lib.hid hVR
    have HVVF := Lib.hid hVF
    have HVVT := Lib.hid hVT
    have HVVU := Lib.hid hVU
    have HLT := Lib.hid (show 21 ≤ l.length from by omega)
    have s13 : IntKind.i64.wrap 13 = 13 := by decide
    have s17 : IntKind.i64.wrap 17 = 17 := by decide
    have s21 : IntKind.i64.wrap 21 = 21 := by decide
    clear hY hMM hKK hi1 hhd hx0 hbyte hsz hr hn hcap hm hk h0 hlt hV1 hV3 hVR hVF hVT hVU
    obtain ⟨w1, hw1⟩ : ∃ v, v = w.alloc (.cells (clA zeroCl none 0) 44) := ⟨_, rfl⟩
    have BL1 := Lib.hid (show Below w.heap.size w w1 from by rw [hw1]; exact bel1 _ _)
    have RZ1 := Lib.hid (show Blk w1 w.heap.size (clA zeroCl none 0) 44 from by rw [hw1]; exact heap_alloc_new _ _)
    have HS1 := Lib.hid (show w1.heap.size = w.heap.size + 1 from by rw [hw1]; simp)
    have q0 : w1.cell? ad = some (.int .u8 k) := by rw [← hc0]; exact BL1.out.cell had
    have q00 : w1.cell? (ad.add 0) = some (.int .u8 k) := by rw [add_zero]; exact q0
    unfold clA zeroCl at hw1
    simp only [List.length_nil] at hw1
    clear hc0 hc00 had
    go_enter Try.func45, Try.ntmps45
    go_upto_region 1 with fail
    have e1 := hw1
    simp at e1
    first | rw [← hw1] | rw [← e1]
    clear hw1 e1
    go_wp2_with fail
    refine (HPO.out _).mono ?_
    rintro e wh ⟨rfl, rfl⟩
    have BLW := Lib.hid (show ∀ o, Below w.heap.size w (w1.alloc o) from fun o => BL1.out.trans ((bel1 w1 o).mono BL1.out.size))
    clear q0 q00
    go_upto_region 18 with fail
    refine wp_region_held_drew (S := (fun w' => Below w.heap.size w w')) (by kernel_rfl) (by first | exact (BLW.out _).drew | exact BLW.out _ | exact (BLW.out _).drew.drew | exact (BLW.out _).drewN _ | exact ((BLW.out _).drewN _).drew) (fun hh => ?_)
    have HH := Lib.hid hh
    clear hh
    refine wpAnyH_take (i := 0) (v := ?vG10) rfl (by kernel_rfl) (by kernel_rfl) (by kernel_rfl) (fun _ _ _ h => h) (Or.inl ⟨by rfl, fun w' _ => ?yG10⟩) HH.out ?_
    case yG10 => (go_simp; try with_reducible rfl)
    refine wpAnyH_take (i := 1) (v := ?vG11) rfl (by kernel_rfl) (by kernel_rfl) (by kernel_rfl) (fun _ _ _ h => h) (Or.inl ⟨by rfl, fun w' _ => ?yG11⟩) HH.out ?_
    case yG11 => (go_simp; try with_reducible rfl)
    try simp only [List.getElem_toArray, List.getElem_cons_succ, List.getElem_cons_zero, Act.put, List.setIfInBounds_toArray, List.set_cons_zero, List.set_cons_succ]
    refine wpAnyH_take (i := 3) (v := ?vG13) rfl (by kernel_rfl) (by kernel_rfl) (by kernel_rfl) (fun _ _ _ h => h) (Or.inl ⟨by rfl, fun w' _ => ?yG13⟩) HH.out ?_
    case yG13 => (go_simp; try with_reducible rfl)
    refine wpAnyH_take (i := 4) (v := ?vG14) rfl (by kernel_rfl) (by kernel_rfl) (by kernel_rfl) (fun _ _ _ h => h) (Or.inl ⟨by rfl, fun w' _ => ?yG14⟩) HH.out ?_
    case yG14 => (go_simp; try with_reducible rfl)
    try simp only [List.getElem_toArray, List.getElem_cons_succ, List.getElem_cons_zero, Act.put, List.setIfInBounds_toArray, List.set_cons_zero, List.set_cons_succ]
    refine wpAnyH_ready (rs := [2]) (by kernel_rfl) (by simp) (AllReadyH.cons rfl (fun K hK => ?_) AllReadyH.nil)
    go_simp
    refine (cget_any (some (ad.add 1)) 2 _ (part l 1 2) _ (part_len (by have := HLT.out; omega)) (part_rd (HRD.out.below HH.out) 1 2) (by omega)).mono ?_
    rintro e wq ⟨rfl, rfl⟩
    rw [← HVV1.out]
    go_simp
    refine hK.out _ _ (by first | exact (BLW.out _).drew | exact BLW.out _ | exact (BLW.out _).drew.drew | exact (BLW.out _).drewN _ | exact ((BLW.out _).drewN _).drew) (fun hh => ?_)
    have HH' := Lib.hid hh
    clear hh hK K HH 
    have HH := Lib.hid HH'.out
    clear HH'
    try simp only [List.getElem_toArray, List.getElem_cons_succ, List.getElem_cons_zero, Act.put, List.setIfInBounds_toArray, List.set_cons_zero, List.set_cons_succ]
    refine wpAnyH_take (i := 7) (v := ?vG17) rfl (by kernel_rfl) (by kernel_rfl) (by kernel_rfl) (fun _ _ _ h => h) (Or.inl ⟨by rfl, fun w' _ => ?yG17⟩) HH.out ?_
    case yG17 => (go_simp; try with_reducible rfl)
    try simp only [List.getElem_toArray, List.getElem_cons_succ, List.getElem_cons_zero, Act.put, List.setIfInBounds_toArray, List.set_cons_zero, List.set_cons_succ]
    refine wpAnyH_ready (rs := [5]) (by kernel_rfl) (by simp) (AllReadyH.cons rfl (fun K hK => ?_) AllReadyH.nil)
    go_simp
    refine (cget_any (some (ad.add 3)) 4 _ (part l 3 4) _ (part_len (by have := HLT.out; omega)) (part_rd (HRD.out.below HH.out) 3 4) (by omega)).mono ?_
    rintro e wq ⟨rfl, rfl⟩
    rw [← HVV3.out]
    go_simp
    refine hK.out _ _ (by first | exact (BLW.out _).drew | exact BLW.out _ | exact (BLW.out _).drew.drew | exact (BLW.out _).drewN _ | exact ((BLW.out _).drewN _).drew) (fun hh => ?_)
    have HH' := Lib.hid hh
    clear hh hK K HH 
    have HH := Lib.hid HH'.out
    clear HH'
    refine wpAnyH_take (i := 6) (v := ?vG16) rfl (by kernel_rfl) (by kernel_rfl) (by kernel_rfl) (fun _ _ _ h => h) (Or.inl ⟨by rfl, fun w' _ => ?yG16⟩) HH.out ?_
    case yG16 => (go_simp; try with_reducible rfl)
    try simp only [List.getElem_toArray, List.getElem_cons_succ, List.getElem_cons_zero, Act.put, List.setIfInBounds_toArray, List.set_cons_zero, List.set_cons_succ]
    try simp only [List.getElem_toArray, List.getElem_cons_succ, List.getElem_cons_zero, Act.put, List.setIfInBounds_toArray, List.set_cons_zero, List.set_cons_succ]
    refine wpAnyH_ready (rs := [8]) (by kernel_rfl) (by simp) (AllReadyH.cons rfl (fun K hK => ?_) AllReadyH.nil)
    go_simp
    refine hK.out _ _ (by first | exact (BLW.out _).drew | exact BLW.out _ | exact (BLW.out _).drew.drew | exact (BLW.out _).drewN _ | exact ((BLW.out _).drewN _).drew) (fun hh => ?_)
    have HH' := Lib.hid hh
    clear hh hK K HH
    have HH := Lib.hid HH'.out
    clear HH'
    refine wpAnyH_take (i := 9) (v := ?vG19) rfl (by kernel_rfl) (by kernel_rfl) (by kernel_rfl) (fun _ _ _ h => h) (Or.inl ⟨by rfl, fun w' _ => ?yG19⟩) HH.out ?_
    case yG19 => (go_simp; try with_reducible rfl)
    try simp only [List.getElem_toArray, List.getElem_cons_succ, List.getElem_cons_zero, Act.put, List.setIfInBounds_toArray, List.set_cons_zero, List.set_cons_succ]
    refine wpAnyH_ready (rs := [10]) (by kernel_rfl) (by simp) (AllReadyH.cons rfl (fun K hK => ?_) AllReadyH.nil)
    go_simp
    refine hK.out _ _ (by first | exact (BLW.out _).drew | exact BLW.out _ | exact (BLW.out _).drew.drew | exact (BLW.out _).drewN _ | exact ((BLW.out _).drewN _).drew) (fun hh => ?_)
    have HH' := Lib.hid hh
    clear hh hK K HH
    have HH := Lib.hid HH'.out
    clear HH'
    try simp only [List.getElem_toArray, List.getElem_cons_succ, List.getElem_cons_zero, Act.put, List.setIfInBounds_toArray, List.set_cons_zero, List.set_cons_succ]
    refine wpAnyH_done (by kernel_rfl) ?_ _
    go_wp2_with fail
    refine (cget_any (some (ad.add 7)) 2 _ (part l 7 2) _ (part_len (by have := HLT.out; omega)) (part_rd (HRD.out.below (by first | exact (BLW.out _).drew | exact BLW.out _ | exact (BLW.out _).drew.drew | exact (BLW.out _).drewN _ | exact ((BLW.out _).drewN _).drew)) 7 2) (by omega)).mono ?_
    rintro e wq ⟨rfl, rfl⟩
    rw [← HVVR.out]
    go_upto_region 27 with fail
    refine wp_region_held_drew (S := (fun w' => Below w.heap.size w w')) (by kernel_rfl) (by first | exact (BLW.out _).drew | exact BLW.out _ | exact (BLW.out _).drew.drew | exact (BLW.out _).drewN _ | exact ((BLW.out _).drewN _).drew) (fun hh => ?_)
    have HH := Lib.hid hh
    clear hh
    refine wpAnyH_take (i := 0) (v := ?vG30) rfl (by kernel_rfl) (by kernel_rfl) (by kernel_rfl) (fun _ _ _ h => h) (Or.inl ⟨by rfl, fun w' _ => ?yG30⟩) HH.out ?_
    case yG30 => (go_simp; try with_reducible rfl)
    refine wpAnyH_take (i := 1) (v := ?vG31) rfl (by kernel_rfl) (by kernel_rfl) (by kernel_rfl) (fun _ _ _ h => h) (Or.inl ⟨by rfl, fun w' _ => ?yG31⟩) HH.out ?_
    case yG31 => (go_simp; try with_reducible rfl)
    try simp only [List.getElem_toArray, List.getElem_cons_succ, List.getElem_cons_zero, Act.put, List.setIfInBounds_toArray, List.set_cons_zero, List.set_cons_succ]
    refine wpAnyH_take (i := 2) (v := ?vG32) rfl (by kernel_rfl) (by kernel_rfl) (by kernel_rfl) (fun _ _ _ h => h) (Or.inl ⟨by rfl, fun w' _ => ?yG32⟩) HH.out ?_
    case yG32 => (go_simp; try with_reducible rfl)
    refine wpAnyH_take (i := 3) (v := ?vG33) rfl (by kernel_rfl) (by kernel_rfl) (by kernel_rfl) (fun _ _ _ h => h) (Or.inl ⟨by rfl, fun w' _ => ?yG33⟩) HH.out ?_
    case yG33 => (go_simp; try with_reducible rfl)
    refine wpAnyH_take (i := 4) (v := ?vG34) rfl (by kernel_rfl) (by kernel_rfl) (by kernel_rfl) (fun _ _ _ h => h) (Or.inl ⟨by rfl, fun w' _ => ?yG34⟩) HH.out ?_
    case yG34 => (go_simp; try with_reducible rfl)
    try simp only [List.getElem_toArray, List.getElem_cons_succ, List.getElem_cons_zero, Act.put, List.setIfInBounds_toArray, List.set_cons_zero, List.set_cons_succ]
    refine wpAnyH_take (i := 7) (v := ?vG37) rfl (by kernel_rfl) (by kernel_rfl) (by kernel_rfl) (fun _ _ _ h => h) (Or.inl ⟨by rfl, fun w' _ => ?yG37⟩) HH.out ?_
    case yG37 => (go_simp; try with_reducible rfl)
    refine wpAnyH_take (i := 8) (v := ?vG38) rfl (by kernel_rfl) (by kernel_rfl) (by kernel_rfl) (fun _ _ _ h => h) (Or.inl ⟨by rfl, fun w' _ => ?yG38⟩) HH.out ?_
    case yG38 => (go_simp; try with_reducible rfl)
    refine wpAnyH_take (i := 9) (v := ?vG39) rfl (by kernel_rfl) (by kernel_rfl) (by kernel_rfl) (fun _ _ _ h => h) (Or.inl ⟨by rfl, fun w' _ => ?yG39⟩) HH.out ?_
    case yG39 => (go_simp; try with_reducible rfl)
    try simp only [List.getElem_toArray, List.getElem_cons_succ, List.getElem_cons_zero, Act.put, List.setIfInBounds_toArray, List.set_cons_zero, List.set_cons_succ]
    refine wpAnyH_take (i := 10) (v := ?vG310) rfl (by kernel_rfl) (by kernel_rfl) (by kernel_rfl) (fun _ _ _ h => h) (Or.inl ⟨by rfl, fun w' _ => ?yG310⟩) HH.out ?_
    case yG310 => (go_simp; try with_reducible rfl)
    refine wpAnyH_take (i := 11) (v := ?vG311) rfl (by kernel_rfl) (by kernel_rfl) (by kernel_rfl) (fun _ _ _ h => h) (Or.inl ⟨by rfl, fun w' _ => ?yG311⟩) HH.out ?_
    case yG311 => (go_simp; try with_reducible rfl)
    refine wpAnyH_take (i := 12) (v := ?vG312) rfl (by kernel_rfl) (by kernel_rfl) (by kernel_rfl) (fun _ _ _ h => h) (Or.inl ⟨by rfl, fun w' _ => ?yG312⟩) HH.out ?_
    case yG312 => (go_simp; try with_reducible rfl)
    try simp only [List.getElem_toArray, List.getElem_cons_succ, List.getElem_cons_zero, Act.put, List.setIfInBounds_toArray, List.set_cons_zero, List.set_cons_succ]
    refine wpAnyH_take (i := 15) (v := ?vG315) rfl (by kernel_rfl) (by kernel_rfl) (by kernel_rfl) (fun _ _ _ h => h) (Or.inl ⟨by rfl, fun w' _ => ?yG315⟩) HH.out ?_
    case yG315 => (go_simp; try with_reducible rfl)
    refine wpAnyH_take (i := 16) (v := ?vG316) rfl (by kernel_rfl) (by kernel_rfl) (by kernel_rfl) (fun _ _ _ h => h) (Or.inl ⟨by rfl, fun w' _ => ?yG316⟩) HH.out ?_
    case yG316 => (go_simp; try with_reducible rfl)
    refine wpAnyH_take (i := 17) (v := ?vG317) rfl (by kernel_rfl) (by kernel_rfl) (by kernel_rfl) (fun _ _ _ h => h) (Or.inl ⟨by rfl, fun w' _ => ?yG317⟩) HH.out ?_
    case yG317 => (go_simp; try with_reducible rfl)
    try simp only [List.getElem_toArray, List.getElem_cons_succ, List.getElem_cons_zero, Act.put, List.setIfInBounds_toArray, List.set_cons_zero, List.set_cons_succ]
    refine wpAnyH_take (i := 18) (v := ?vG318) rfl (by kernel_rfl) (by kernel_rfl) (by kernel_rfl) (fun _ _ _ h => h) (Or.inl ⟨by rfl, fun w' _ => ?yG318⟩) HH.out ?_
    case yG318 => (go_simp; try with_reducible rfl)
    refine wpAnyH_take (i := 19) (v := ?vG319) rfl (by kernel_rfl) (by kernel_rfl) (by kernel_rfl) (fun _ _ _ h => h) (Or.inl ⟨by rfl, fun w' _ => ?yG319⟩) HH.out ?_
    case yG319 => (go_simp; try with_reducible rfl)
    refine wpAnyH_take (i := 20) (v := ?vG320) rfl (by kernel_rfl) (by kernel_rfl) (by kernel_rfl) (fun _ _ _ h => h) (Or.inl ⟨by rfl, fun w' _ => ?yG320⟩) HH.out ?_
    case yG320 => (go_simp; try with_reducible rfl)
    try simp only [List.getElem_toArray, List.getElem_cons_succ, List.getElem_cons_zero, Act.put, List.setIfInBounds_toArray, List.set_cons_zero, List.set_cons_succ]
    refine wpAnyH_ready (rs := [5]) (by kernel_rfl) (by simp) (AllReadyH.cons rfl (fun K hK => ?_) AllReadyH.nil)
    go_simp
    refine (cget_any (some (ad.add 9)) 4 _ (part l 9 4) _ (part_len (by have := HLT.out; omega)) (part_rd (HRD.out.below HH.out) 9 4) (by omega)).mono ?_
    rintro e wq ⟨rfl, rfl⟩
    rw [← HVVF.out]
    go_simp
    refine hK.out _ _ (by first | exact (BLW.out _).drew | exact BLW.out _ | exact (BLW.out _).drew.drew | exact (BLW.out _).drewN _ | exact ((BLW.out _).drewN _).drew) (fun hh => ?_)
    have HH' := Lib.hid hh
    clear hh hK K HH 
    have HH := Lib.hid HH'.out
    clear HH'
    refine wpAnyH_take (i := 6) (v := ?vG36) rfl (by kernel_rfl) (by kernel_rfl) (by kernel_rfl) (fun _ _ _ h => h) (Or.inl ⟨by rfl, fun w' _ => ?yG36⟩) HH.out ?_
    case yG36 => (go_simp; try with_reducible rfl)
    refine wpAnyH_take (i := 23) (v := ?vG323) rfl (by kernel_rfl) (by kernel_rfl) (by kernel_rfl) (fun _ _ _ h => h) (Or.inl ⟨by rfl, fun w' _ => ?yG323⟩) HH.out ?_
    case yG323 => (go_simp; try with_reducible rfl)
    try simp only [List.getElem_toArray, List.getElem_cons_succ, List.getElem_cons_zero, Act.put, List.setIfInBounds_toArray, List.set_cons_zero, List.set_cons_succ]
    refine wpAnyH_ready (rs := [13]) (by kernel_rfl) (by simp) (AllReadyH.cons rfl (fun K hK => ?_) AllReadyH.nil)
    go_simp
    refine (cget_any (some (ad.add 13)) 4 _ (part l 13 4) _ (part_len (by have := HLT.out; omega)) (part_rd (HRD.out.below HH.out) 13 4) (by omega)).mono ?_
    rintro e wq ⟨rfl, rfl⟩
    rw [← HVVT.out]
    go_simp
    refine hK.out _ _ (by first | exact (BLW.out _).drew | exact BLW.out _ | exact (BLW.out _).drew.drew | exact (BLW.out _).drewN _ | exact ((BLW.out _).drewN _).drew) (fun hh => ?_)
    have HH' := Lib.hid hh
    clear hh hK K HH 
    have HH := Lib.hid HH'.out
    clear HH'
    refine wpAnyH_take (i := 14) (v := ?vG314) rfl (by kernel_rfl) (by kernel_rfl) (by kernel_rfl) (fun _ _ _ h => h) (Or.inl ⟨by rfl, fun w' _ => ?yG314⟩) HH.out ?_
    case yG314 => (go_simp; try with_reducible rfl)
    try simp only [List.getElem_toArray, List.getElem_cons_succ, List.getElem_cons_zero, Act.put, List.setIfInBounds_toArray, List.set_cons_zero, List.set_cons_succ]
    refine wpAnyH_ready (rs := [21]) (by kernel_rfl) (by simp) (AllReadyH.cons rfl (fun K hK => ?_) AllReadyH.nil)
    go_simp
    refine (cget_any (some (ad.add 17)) 4 _ (part l 17 4) _ (part_len (by have := HLT.out; omega)) (part_rd (HRD.out.below HH.out) 17 4) (by omega)).mono ?_
    rintro e wq ⟨rfl, rfl⟩
    rw [← HVVU.out]
    go_simp
    refine hK.out _ _ (by first | exact (BLW.out _).drew | exact BLW.out _ | exact (BLW.out _).drew.drew | exact (BLW.out _).drewN _ | exact ((BLW.out _).drewN _).drew) (fun hh => ?_)
    have HH' := Lib.hid hh
    clear hh hK K HH 
    have HH := Lib.hid HH'.out
    clear HH'
    try simp only [List.getElem_toArray, List.getElem_cons_succ, List.getElem_cons_zero, Act.put, List.setIfInBounds_toArray, List.set_cons_zero, List.set_cons_succ]
    refine wpAnyH_take (i := 22) (v := ?vG322) rfl (by kernel_rfl) (by kernel_rfl) (by kernel_rfl) (fun _ _ _ h => h) (Or.inl ⟨by rfl, fun w' _ => ?yG322⟩) HH.out ?_
    case yG322 => (go_simp; try with_reducible rfl)
    try simp only [List.getElem_toArray, List.getElem_cons_succ, List.getElem_cons_zero, Act.put, List.setIfInBounds_toArray, List.set_cons_zero, List.set_cons_succ]
    refine wpAnyH_ready (rs := [24]) (by kernel_rfl) (by simp) (AllReadyH.cons rfl (fun K hK => ?_) AllReadyH.nil)
    go_simp
    refine hK.out _ _ (by first | exact (BLW.out _).drew | exact BLW.out _ | exact (BLW.out _).drew.drew | exact (BLW.out _).drewN _ | exact ((BLW.out _).drewN _).drew) (fun hh => ?_)
    have HH' := Lib.hid hh
    clear hh hK K HH
    have HH := Lib.hid HH'.out
    clear HH'
    refine wpAnyH_take (i := 25) (v := ?vG325) rfl (by kernel_rfl) (by kernel_rfl) (by kernel_rfl) (fun _ _ _ h => h) (Or.inl ⟨by rfl, fun w' _ => ?yG325⟩) HH.out ?_
    case yG325 => (go_simp; try with_reducible rfl)
    try simp only [List.getElem_toArray, List.getElem_cons_succ, List.getElem_cons_zero, Act.put, List.setIfInBounds_toArray, List.set_cons_zero, List.set_cons_succ]
    try simp only [List.getElem_toArray, List.getElem_cons_succ, List.getElem_cons_zero, Act.put, List.setIfInBounds_toArray, List.set_cons_zero, List.set_cons_succ]
    refine wpAnyH_ready (rs := [26]) (by kernel_rfl) (by simp) (AllReadyH.cons rfl (fun K hK => ?_) AllReadyH.nil)
    go_simp
    refine hK.out _ _ (by first | exact (BLW.out _).drew | exact BLW.out _ | exact (BLW.out _).drew.drew | exact (BLW.out _).drewN _ | exact ((BLW.out _).drewN _).drew) (fun hh => ?_)
    have HH' := Lib.hid hh
    clear hh hK K HH
    have HH := Lib.hid HH'.out
    clear HH'
    refine wpAnyH_take (i := 27) (v := ?vG327) rfl (by kernel_rfl) (by kernel_rfl) (by kernel_rfl) (fun _ _ _ h => h) (Or.inl ⟨by rfl, fun w' _ => ?yG327⟩) HH.out ?_
    case yG327 => (go_simp; try with_reducible rfl)
    try simp only [List.getElem_toArray, List.getElem_cons_succ, List.getElem_cons_zero, Act.put, List.setIfInBounds_toArray, List.set_cons_zero, List.set_cons_succ]
    refine wpAnyH_ready (rs := [28]) (by kernel_rfl) (by simp) (AllReadyH.cons rfl (fun K hK => ?_) AllReadyH.nil)
    go_simp
    refine hK.out _ _ (by first | exact (BLW.out _).drew | exact BLW.out _ | exact (BLW.out _).drew.drew | exact (BLW.out _).drewN _ | exact ((BLW.out _).drewN _).drew) (fun hh => ?_)
    have HH' := Lib.hid hh
    clear hh hK K HH
    have HH := Lib.hid HH'.out
    clear HH'
    try simp only [List.getElem_toArray, List.getElem_cons_succ, List.getElem_cons_zero, Act.put, List.setIfInBounds_toArray, List.set_cons_zero, List.set_cons_succ]
    refine wpAnyH_done (by kernel_rfl) ?_ _
    go_wp2_with fail
    refine (cright_any ⟨k, V1, V3, 0, 0, 0, VR, VF, VT, VU, []⟩ none 0 _ Rd.none (Nat.le_refl _)).mono ?_
    rw [← HYQ.out]
    rintro e w9 ⟨rfl, bw⟩
    have RZ9 := Lib.hid (blk_thru RZ1.out (by first | exact (bel1 _ _).drew | exact bel1 _ _ | exact (bel1 _ _).drew.drew | exact (bel1 _ _).drewN _) bw)
    have BL9 := Lib.hid (below_thru BL1.out (by first | exact (bel1 _ _).drew | exact bel1 _ _ | exact (bel1 _ _).drew.drew | exact (bel1 _ _).drewN _) bw)
    have C9 := Lib.hid (show Blk w9 w1.heap.size (rA k V1 V3 0 0 0 VR VF VT VU (.slice none 0 0)) 44 from by refine Blk.below ?_ bw; exact heap_alloc_new _ _)
    have HEC := Lib.hid (show (rA k V1 V3 0 0 0 VR VF VT VU (.slice none 0 0)) = clA y none 0 from by rw [HYQ.out]; rfl)
    have HIC := Lib.hid (show (Try.prog.info? 44).map (·.size) = some (rA k V1 V3 0 0 0 VR VF VT VU (.slice none 0 0)).size from by kernel_rfl)
    have HOC := Lib.hid (show (rA k V1 V3 0 0 0 VR VF VT VU (.slice none 0 0)).all (·.oneCell') = true from by simp [rA, Value.oneCell'])
    clear bw RZ1 BL1 BLW
    by_cases ok : okCl y
    · obtain ⟨f1, f2, f3⟩ := HYES.out ok
      have E1 := Lib.hid f1
      have E2 := Lib.hid f2
      have E3 := Lib.hid f3
      rw [decide_eq_true ok]
      clear f1 f2 f3 ok
      go_wp2_with (first
        | (refine wpList_load_row rfl 44 (.tmp 5) rfl w1.heap.size rfl 44 (rA k V1 V3 0 0 0 VR VF VT VU (.slice none 0 0)) (0, 0) _ C9.out Try.underlying44 rfl HIC.out ?_)
        | (refine wpList_store_row rfl 44 (.tmp 2) (.tmp 148) rfl w.heap.size (rA k V1 V3 0 0 0 VR VF VT VU (.slice none 0 0)) rfl rfl 44 (clA zeroCl none 0) RZ9.out HIC.out rfl HOC.out ?_))
      refine bodyPost_ret (v := .tuple #[.agg (rA k V1 V3 0 0 0 VR VF VT VU (.slice none 0 0)), .int .i64 21, .int .i64 0]) (results_ctD Try.results45 _ _ w.heap.size 44 (rA k V1 V3 0 0 0 VR VF VT VU (.slice none 0 0)) _ rfl (setRow_heap _ _ _ _ _ _ RZ9.out) Try.underlying44 rfl HIC.out) rfl ?_
      rw [E1.out, E2.out, E3.out]
      refine ⟨none, 0, by rw [HEC.out]; rfl, ⟨?_, fun _ h => by cases h⟩, below_setRow BL9.out (Nat.le_refl _) _⟩
      rw [show y.body = [] from by rw [HYQ.out]]; exact Rd.none
    · obtain ⟨f1, f2, f3⟩ := HNO.out ok
      have E1 := Lib.hid f1
      have E2 := Lib.hid f2
      have E3 := Lib.hid f3
      rw [decide_eq_false ok]
      clear f1 f2 f3 ok
      go_wp2_with (refine wpList_store_row rfl 44 (.tmp 2) (.tmp 147) rfl w.heap.size (clA zeroCl none 0) rfl rfl 44 (clA zeroCl none 0) RZ9.out HIZ.out rfl HOZ.out ?_)
      refine bodyPost_ret (v := .tuple #[.agg (clA zeroCl none 0), .int .i64 0, .int .i64 3]) (results_ctD Try.results45 _ _ w.heap.size 44 (clA zeroCl none 0) _ rfl (setRow_heap _ _ _ _ _ _ RZ9.out) Try.underlying44 rfl HIZ.out) rfl ?_
      rw [E1.out, E2.out, E3.out]
      exact retCD_zero (by rfl) (below_setRow BL9.out (Nat.le_refl _) _)
end Go.Proofs.Ythdmdlnndbjcoaa.Ce
/-
  Encode and Decode, whatever they are asked, by cell and by the document's answer; the laws' own example.
-/
namespace Go.Proofs.Ythdmdlnndbjcoaa.Ce
open Go.RowKit
attribute [local go_sem ↓] Go.wp_at_zero Go.wp_at_succ
set_option maxRecDepth 100000 in
set_option maxHeartbeats 6400000 in
theorem encode_no (x : Cl) (no : ¬ okCl x) (A : Option Addr) (c : Nat) (w : World) :
    Calls Try.prog 28 #[.agg (clA x A c)] w (RetRowE (bv []) 3 w) := by
  have HRT := Lib.hid (show ∀ W, Calls Try.prog 48 #[.agg (clA x A c)] W (RetB (.bool false) W) from fun W => by have h := right_any x A c W; rw [decide_eq_false no] at h; exact h)
  have HI := Lib.hid (show (Try.prog.info? 44).map (·.size) = some (clA x A c).size from by kernel_rfl)
  obtain ⟨cs, hcs⟩ : ∃ cs, cs = clA x A c := ⟨_, rfl⟩
  rw [← hcs] at HRT HI ⊢
  obtain ⟨w0, hw0⟩ : ∃ w0, w0 = w.alloc (.cells cs 44) := ⟨_, rfl⟩
  have BL := Lib.hid (show Below w.heap.size w w0 from by rw [hw0]; exact bel1 _ _)
  have X := Lib.hid (show Blk w0 w.heap.size cs 44 from by rw [hw0]; exact heap_alloc_new _ _)
  clear hcs no
  go_enter Try.func28, Try.ntmps28
  go_upto_region 1 with fail
  rw [← hw0]
  clear hw0
  go_wp2_with (refine wpList_load_row rfl 44 (.tmp 1) rfl w.heap.size rfl 44 cs (0, 0) _ X.out Try.underlying44 rfl HI.out ?_)
  refine (HRT.out _).mono ?_
  rintro e w1 ⟨rfl, bw⟩
  have BL1 := Lib.hid (BL.out.trans (bw.mono BL.out.size))
  clear bw BL
  go_wp2_with fail
  go_ret2
  exact ⟨none, 0, 0, rfl, World.ownsRow_nil _ _ _ _, BL1.out⟩
theorem encode_yes {B : Nat} (x : Cl) (ok : okCl x) (A : Option Addr) (c : Nat) (w : World) (hr : Rd B w A (bv x.body)) (hB : B ≤ w.heap.size) :
    Calls Try.prog 28 #[.agg (clA x A c)] w (RetRowE (bv (encCl x)) 0 w) := by
  have h8 := okCl_kind ok
  have e8 : x.kind = 1 ∨ x.kind = 2 ∨ x.kind = 3 ∨ x.kind = 4 ∨ x.kind = 5 ∨ x.kind = 6 ∨ x.kind = 7 ∨ x.kind = 8 := by omega
  rcases e8 with h | h | h | h | h | h | h | h
  · exact enc_wb x (.inl h) ok A c w (hr.more hB)
  · exact enc_wn x (.inl h) ok A c w (hr.more hB)
  · exact enc_wb x (.inr h) ok A c w (hr.more hB)
  · exact enc_wn x (.inr h) ok A c w (hr.more hB)
  · exact enc_dr x h ok A c w (hr.more hB)
  · exact enc_ho x h ok A c w (hr.more hB)
  · exact enc_li x h ok A c w (hr.more hB)
  · exact enc_ma x h ok A c w (hr.more hB)
/-- The bytes of a cell that may be; else none. -/
def encX (x : Cl) : List UInt8 := if okCl x then encCl x else []
def errX (x : Cl) : Int := if okCl x then 0 else 3
theorem encode_any {B : Nat} (x : Cl) (A : Option Addr) (c : Nat) (w : World) (hr : Rd B w A (bv x.body)) (hB : B ≤ w.heap.size) :
    Calls Try.prog 28 #[.agg (clA x A c)] w (RetRowE (bv (encX x)) (errX x) w) := by
  unfold encX errX
  by_cases ok : okCl x
  · rw [if_pos ok, if_pos ok]; exact encode_yes x ok A c w hr hB
  · rw [if_neg ok, if_neg ok]; exact encode_no x ok A c w
theorem cencode_yes {B : Nat} (x : Cl) (ok : okCl x) (A : Option Addr) (c : Nat) (w : World) (hr : Rd B w A (bv x.body)) (hB : B ≤ w.heap.size) :
    Calls Try.prog 43 #[.agg (clA x A c)] w (RetRow 5 (bv (encCl x)) w) := by
  have h8 := okCl_kind ok
  have e8 : x.kind = 1 ∨ x.kind = 2 ∨ x.kind = 3 ∨ x.kind = 4 ∨ x.kind = 5 ∨ x.kind = 6 ∨ x.kind = 7 ∨ x.kind = 8 := by omega
  rcases e8 with h | h | h | h | h | h | h | h
  · exact cenc_wb x (.inl h) ok A c w (hr.more hB)
  · exact cenc_wn x (.inl h) ok A c w (hr.more hB)
  · exact cenc_wb x (.inr h) ok A c w (hr.more hB)
  · exact cenc_wn x (.inr h) ok A c w (hr.more hB)
  · exact cenc_dr x h ok A c w (hr.more hB)
  · exact cenc_ho x h ok A c w (hr.more hB)
  · exact cenc_li x h ok A c w (hr.more hB)
  · exact cenc_ma x h ok A c w (hr.more hB)
set_option maxRecDepth 100000 in
set_option maxHeartbeats 6400000 in
theorem cdecode_any {B : Nat} (A : Option Addr) (n c : Nat) (l : List UInt8) (w : World) (hn : l.length = n) (hcap : n ≤ c ∧ c ≤ maxLen) (hr : Rd B w A (bv l)) (hB : B ≤ w.heap.size) (hm : n ≤ 1000000) :
    Calls Try.prog 45 #[.slice A n c] w (RetCD A (decCl l).1 ((decCl l).2.1 : Int) ((decCl l).2.2 : Int) w) := by
  cases l with
  | nil =>
    simp only [List.length_nil] at hn
    subst hn
    rw [show decCl [] = (zeroCl, 0, 14) from rfl]
    have HIZ := Lib.hid (show (Try.prog.info? 44).map (·.size) = some (clA zeroCl none 0).size from by kernel_rfl)
    have HOZ := Lib.hid (show (clA zeroCl none 0).all (·.oneCell') = true from by simp [clA, Value.oneCell'])
    have RZ := Lib.hid (show Blk (w.alloc (.cells (clA zeroCl none 0) 44)) w.heap.size (clA zeroCl none 0) 44 from heap_alloc_new _ _)
    go_enter Try.func45, Try.ntmps45
    go_wp2_with (refine wpList_store_row rfl 44 (.tmp 2) (.tmp 16) rfl w.heap.size (clA zeroCl none 0) rfl rfl 44 (clA zeroCl none 0) RZ.out HIZ.out rfl HOZ.out ?_)
    refine bodyPost_ret (v := .tuple #[.agg (clA zeroCl none 0), .int .i64 0, .int .i64 14]) (results_ctD Try.results45 _ _ w.heap.size 44 (clA zeroCl none 0) _ rfl (setRow_heap _ _ _ _ _ _ RZ.out) Try.underlying44 rfl HIZ.out) rfl ?_
    exact retCD_zero rfl (below_setRow (bel1 _ _) (Nat.le_refl _) _)
  | cons x t =>
    obtain ⟨ad, rfl, had, hc0⟩ := hr.at_ (k := 0) (by simp)
    have hl0 : 0 < n := by simp only [List.length_cons] at hn; omega
    have h0 : (((x :: t).getD 0 0).toNat : Int) = (x.toNat : Int) := rfl
    by_cases hk : 1 ≤ (x.toNat : Int) ∧ (x.toNat : Int) ≤ 8
    · have e8 : (x.toNat : Int) = 1 ∨ (x.toNat : Int) = 2 ∨ (x.toNat : Int) = 3 ∨ (x.toNat : Int) = 4 ∨ (x.toNat : Int) = 5 ∨ (x.toNat : Int) = 6 ∨ (x.toNat : Int) = 7 ∨ (x.toNat : Int) = 8 := by omega
      rcases e8 with h | h | h | h | h | h | h | h
      · exact cdec_wb _ (.inl h) ad n c _ w hn hcap hr hB h0 hl0 hm
      · exact cdec_wn _ (.inl h) ad n c _ w hn hcap hr hB h0 hl0 hm
      · exact cdec_wb _ (.inr h) ad n c _ w hn hcap hr hB h0 hl0 hm
      · exact cdec_wn _ (.inr h) ad n c _ w hn hcap hr hB h0 hl0 hm
      · exact cdec_dr _ h ad n c _ w hn hcap hr hB h0 hl0 hm
      · exact cdec_ho _ h ad n c _ w hn hcap hr hB h0 hl0 hm
      · exact cdec_li _ h ad n c _ w hn hcap hr hB h0 hl0 hm
      · exact cdec_ma _ h ad n c _ w hn hcap hr hB h0 hl0 hm
    · have hs : decCl (x :: t) = (zeroCl, 0, 3) := by
        have hi : isKind (x.toNat : Int) = false := decide_eq_false hk
        unfold decCl sizeCl
        simp only [hi]
        rfl
      rw [hs]
      simp only [List.getElem_cons_zero] at hc0
      rw [add_zero] at hc0
      obtain ⟨K, hK⟩ : ∃ K : Int, K = (x.toNat : Int) := ⟨_, rfl⟩
      rw [← hK] at hc0 hk
      have k0 : (0 : Int) ≤ K := by omega
      have k1 : K ≤ 255 := by have := UInt8.toNat_lt x; omega
      have wk : IntKind.i64.wrap K = K := IntWalk.i64_in _ (by omega)
      have n0 : ((n : Int) == 0) = false := by simp; omega
      have n1 : (0 : Int) < (n : Int) := by omega
      have HIZ := Lib.hid (show (Try.prog.info? 44).map (·.size) = some (clA zeroCl none 0).size from by kernel_rfl)
      have HOZ := Lib.hid (show (clA zeroCl none 0).all (·.oneCell') = true from by simp [clA, Value.oneCell'])
      obtain ⟨w1, hw1⟩ : ∃ v, v = w.alloc (.cells (clA zeroCl none 0) 44) := ⟨_, rfl⟩
      have BL1 := Lib.hid (show Below w.heap.size w w1 from by rw [hw1]; exact bel1 _ _)
      have RZ1 := Lib.hid (show Blk w1 w.heap.size (clA zeroCl none 0) 44 from by rw [hw1]; exact heap_alloc_new _ _)
      have q0 : w1.cell? ad = some (.int .u8 K) := by rw [← hc0]; exact BL1.out.cell (Nat.lt_of_lt_of_le had hB)
      have q00 : w1.cell? (ad.add 0) = some (.int .u8 K) := by rw [add_zero]; exact q0
      unfold clA zeroCl at hw1
      simp only [List.length_nil] at hw1
      have HKK := Lib.hid hk
      have hd : decide (K < 1) = true ∨ decide ((8 : Int) < K) = true := by
        by_cases h : K < 1
        · exact .inl (decide_eq_true h)
        · exact .inr (decide_eq_true (by omega))
      clear hc0 hs h0 hl0 had hcap hr hB hm hk hK hn
      have RZ2 := Lib.hid (show ∀ o, Blk (w1.alloc o) w.heap.size (clA zeroCl none 0) 44 from fun o => Blk.below RZ1.out (bel1 _ _))
      have BL2 := Lib.hid (show ∀ o, Below w.heap.size w (w1.alloc o) from fun o => BL1.out.trans ((bel1 w1 o).mono BL1.out.size))
      rcases hd with d1 | d1
      all_goals go_enter Try.func45, Try.ntmps45
      all_goals go_upto_region 1 with fail
      all_goals (have e1 := hw1; simp at e1; first | rw [← hw1] | rw [← e1])
      all_goals clear hw1
      all_goals try clear e1
      all_goals go_wp2_with (refine wpList_store_row rfl 44 (.tmp 2) (.tmp 30) rfl w.heap.size (clA zeroCl none 0) rfl rfl 44 (clA zeroCl none 0) (RZ2.out _) HIZ.out rfl HOZ.out ?_)
      all_goals try (exfalso; simp only [decide_eq_true_eq] at *; have := HKK.out; omega)
      all_goals refine bodyPost_ret (v := .tuple #[.agg (clA zeroCl none 0), .int .i64 0, .int .i64 3]) (results_ctD Try.results45 _ _ w.heap.size 44 (clA zeroCl none 0) _ rfl (setRow_heap _ _ _ _ _ _ (RZ2.out _)) Try.underlying44 rfl HIZ.out) rfl ?_
      all_goals exact retCD_zero rfl (below_setRow (BL2.out _) (Nat.le_refl _) _)
def markCl : Cl := ⟨8, 5, 9, 0, 0, 0, 0, 0, 0, 0, []⟩
theorem str_eq {Z : ByteArray} {a b : List UInt8} (h : Z = ⟨a.toArray⟩) (e : a = b) : Z = ⟨b.toArray⟩ := by rw [h, e]
set_option maxRecDepth 100000 in
set_option maxHeartbeats 6400000 in
theorem ceAwake_any (w : World) : Calls Try.prog 25 #[] w (RetB (.bool true) w) := by
  have hk : okCl markCl := by decide
  have HE := Lib.hid (show ∀ W, Calls Try.prog 28 #[.agg #[.int .i64 8, .int .u64 5, .int .i64 9, .int .i64 0, .int .i64 0, .int .i64 0, .int .u64 0, .int .i64 0, .int .i64 0, .int .i64 0, .slice none 0 0]] W (RetRowE (bv [8, 0, 5, 0, 0, 0, 9]) 0 W) from fun W => by
    have h := encode_yes markCl hk none 0 W Rd.none (Nat.le_refl _)
    rw [show encCl markCl = [8, 0, 5, 0, 0, 0, 9] from by decide +kernel] at h
    exact h)
  clear hk
  go_enter Try.func25, Try.ntmps25
  go_wp2_with fail
  refine (HE.out _).mono ?_
  rintro e w1 ⟨A, n, c, rfl, ho, bw⟩
  have hl := own_blen ho
  obtain rfl : 7 = n := hl
  have kc : (convert 34 9 (.slice A 7 c)).run Try.prog w1 = .ok (.string ⟨#[8, 0, 5, 0, 0, 0, 9]⟩) w1 := conv_rd Try.underlying34 Try.underlying5 Try.underlying9 (Rd.own ho) rfl
  clear ho
  go_wp2_with fail
  go_ret
  exact ⟨rfl, bw⟩
end Go.Proofs.Ythdmdlnndbjcoaa.Ce
/-
  What the laws of cells need: cells that came in, whether strings are the same, calls by what they come to.
-/
namespace Go.Proofs.Ythdmdlnndbjcoaa.Ce
open Go.RowKit
section
open Go.ChangeShapes Go.WideShapes
variable {H : Type} {enc : TypeId × Value → H} {w : World} {base : Nat} {spare : Nat → Bool} {held : Bool} {r : Reach} {b0 : Nat}
set_option maxRecDepth 100000 in
/-- A cell that came in by value, as its cells. -/
theorem open_cellA {v : Value} {d : DataW H} {ps : List MemPlace} (hval : Value.okWide Try.prog w r b0 44 v) (h : DataW.Trod enc Try.prog w base spare held 44 v d ps) :
    ∃ (y : Cl) (A : Option Addr) (c : Nat), v = .agg (clA y A c) ∧ y.okB ∧ y.body.length ≤ c ∧ c ≤ maxLen ∧ Rd w.heap.size w A (bv y.body) := by
  obtain ⟨y, A, n, c, rfl, hb, rfl, h1, h2, h3⟩ := open_cell hval h
  exact ⟨y, A, c, rfl, hb, h1, h2, h3⟩
end
theorem wpList_execgC {P : Program} {w w' : World} {ops : Array Oper} {rest : List Oper} {o : Oper} {a : Act} {Q : Exit → Act → World → Prop} {v : Value} (hgd : Region.wanted o (yielded ops a.tmps) = true)
    (h : (execOp a.eval o).run P w = .ok (.value v) w') (hk : wpList P ops Q rest (a.put o.dst v) w') : wpList P ops Q (o :: rest) a w := by
  unfold wpList
  rw [if_pos hgd]
  refine .inl ?_
  unfold Oper.wp
  rw [h]
  exact hk
theorem decide_iff {P Q : Prop} [Decidable P] [Decidable Q] (h : P ↔ Q) : decide P = decide Q := decide_eq_decide.2 h
theorem encX_len {x : Cl} : (encX x).length = if okCl x then (encCl x).length else 0 := by unfold encX; split <;> rfl
end Go.Proofs.Ythdmdlnndbjcoaa.Ce
/-
  A row of cells that came in: its cells side by side, each with its body.
-/
namespace Go.Proofs.Ythdmdlnndbjcoaa.Ce
open Go.RowKit
/-- A cell and where its body lies. -/
structure Cc where
  y : Cl
  A : Option Addr
  c : Nat
def ccV (k : Cc) : List Value := (clA k.y k.A k.c).toList
def ccs : List Cc → List Value
  | [] => []
  | k :: l => ccV k ++ ccs l
theorem ccs_append (a b : List Cc) : ccs (a ++ b) = ccs a ++ ccs b := by
  induction a with
  | nil => rfl
  | cons x l ih => simp [ccs, ih]
theorem ccV_length (k : Cc) : (ccV k).length = 11 := rfl
theorem ccs_length (l : List Cc) : (ccs l).length = l.length * 11 := by
  induction l with
  | nil => rfl
  | cons x l ih => rw [ccs, List.length_append, ccV_length, ih, List.length_cons]; omega
theorem ccs_get {l : List Cc} {k : Nat} (hk : k < l.length) {j : Nat} {v : Value} (hv : (ccV l[k])[j]? = some v) : (ccs l)[11 * k + j]? = some v := by
  induction l generalizing k with
  | nil => simp at hk
  | cons x l ih =>
    cases k with
    | zero =>
      have hj : j < 11 := (List.getElem?_eq_some_iff.1 hv).1
      rw [ccs, Nat.mul_zero, Nat.zero_add, List.getElem?_append_left (by rw [ccV_length]; omega)]
      exact hv
    | succ k =>
      rw [ccs, List.getElem?_append_right (by rw [ccV_length]; omega), ccV_length, show 11 * (k + 1) + j - 11 = 11 * k + j by omega]
      exact ih (by simpa using hk) (by simpa using hv)
theorem rd_cell {B : Nat} {w : World} {A : Option Addr} {l : List Cc} (h : Rd B w A (ccs l)) {k : Nat} (hk : k < l.length) :
    ∃ ad, A = some ad ∧ ad.block < B ∧ ∀ j v, (ccV l[k])[j]? = some v → w.cell? ((ad.add (k * 11)).add j) = some v := by
  obtain ⟨ad, hA, hb, _⟩ := h _ _ (ccs_get hk (j := 0) (v := .int .i64 l[k].y.kind) rfl)
  refine ⟨ad, hA, hb, fun j v hv => ?_⟩
  obtain ⟨ad', hA', _, hc⟩ := h _ _ (ccs_get hk hv)
  rw [hA] at hA'; injection hA' with hA'
  rw [hA', add_twice, Nat.mul_comm k 11]
  exact hc
section
open Go.ChangeShapes Go.WideShapes
variable {H : Type} {enc : TypeId × Value → H} {w : World} {base : Nat} {spare : Nat → Bool} {held : Bool}
set_option maxRecDepth 100000 in
/-- A row of cells that came in. -/
theorem open_cells {a : Option Addr} {len cap : Nat} {d : DataW H} {ps : List MemPlace} (h : DataW.Trod enc Try.prog w base spare held 22 (.slice a len cap) d ps) :
    ∃ l : List Cc, l.length = len ∧ len ≤ cap ∧ cap ≤ maxLen ∧ (Rd w.heap.size w a (ccs l) ∧ ∀ k ∈ l, Rd w.heap.size w k.A (bv k.y.body)) := by
  obtain ⟨fuel, hf⟩ := h
  have hf' : DataW.trod enc Try.prog w base spare held fuel 22 [Value.slice a len cap] = some (d, ps) := hf
  have hcn : Try.prog.cellsOf 44 = 11 := by kernel_rfl
  rcases Go.Deep.open_slice Try.underlying22 hf' with ⟨hcs, _⟩ | ⟨a', len', cap', m, n, D, Pl, hcs, _, hl, hm, hmm, _, hx⟩
  · simp only [List.cons.injEq, and_true] at hcs
    injection hcs with e1 e2 e3
    subst e1; subst e2; subst e3
    exact ⟨[], rfl, Nat.le_refl _, Nat.zero_le _, Rd.none, fun y hy => by simp at hy⟩
  · simp only [List.cons.injEq, and_true] at hcs
    injection hcs with e1 e2 e3
    subst e1; subst e2; subst e3
    have hlm : len ≤ m := by rw [hmm]; split <;> omega
    rw [hcn] at hx
    have hall : ∀ j, j ≤ len → ∃ l : List Cc, l.length = j ∧ (∀ k ∈ l, Rd w.heap.size w k.A (bv k.y.body)) ∧ ∀ k u, (ccs l)[k]? = some u → w.cell? (a'.add k) = some u := by
      intro j
      induction j with
      | zero => exact fun _ => ⟨[], rfl, fun y hy => by simp at hy, fun k u hu => by simp [ccs] at hu⟩
      | succ j ih =>
        intro hj
        obtain ⟨l, hl', hb, hc⟩ := ih (by omega)
        obtain ⟨cs', h1, h2⟩ := hx j (by omega)
        obtain ⟨y, v, hy, _, A, c, rfl, g1, g2, g3⟩ := cell_of_trod h2
        obtain ⟨_, _, hcl⟩ := World.cells?_some h1
        have hnl : (ccs l).length = j * 11 := by rw [ccs_length, hl']
        refine ⟨l ++ [⟨y, A, c⟩], by simp [hl'], fun z hz => ?_, fun k u hu => ?_⟩
        · rcases List.mem_append.1 hz with hz | hz
          · exact hb z hz
          · rw [List.mem_singleton] at hz; rw [hz]; exact g3
        · rw [ccs_append] at hu
          rcases Nat.lt_or_ge k (ccs l).length with hk | hk
          · rw [List.getElem?_append_left hk] at hu
            exact hc k u hu
          · rw [List.getElem?_append_right hk, ccs, ccs, List.append_nil, show ccV ⟨y, A, c⟩ = cs' from hy.symm, hnl] at hu
            have hk5 : k - j * 11 < 11 := by
              have := (List.getElem?_eq_some_iff.1 hu).1
              rw [hy, clV_length] at this; exact this
            have h3 := hcl (k - j * 11) hk5
            rw [add_twice, show j * 11 + (k - j * 11) = k by omega, hu] at h3
            exact h3
    obtain ⟨l, h1, h2, h3⟩ := hall len (Nat.le_refl _)
    refine ⟨l, h1, hl, hm, fun k u hu => ⟨a', rfl, ?_, h3 k u hu⟩, h2⟩
    have := World.block_lt_of_cell? _ _ (h3 k u hu)
    rw [add_block] at this
    exact this
end
end Go.Proofs.Ythdmdlnndbjcoaa.Ce
/-
  The contract of Same: it tells whether two rows of bytes are the same, and only reads.
-/
namespace Go.Proofs.Ythdmdlnndbjcoaa
open Go.RowKit

theorem take_more {α : Type} {xs ys : List α} {k : Nat} (h : xs.take k = ys.take k) (h1 : k < xs.length) (h2 : k < ys.length) (e : xs[k] = ys[k]) : xs.take (k + 1) = ys.take (k + 1) := by
  rw [List.take_succ_eq_append_getElem h1, List.take_succ_eq_append_getElem h2, h, e]
theorem same_not {α : Type} [DecidableEq α] {xs ys : List α} {k : Nat} (h1 : k < xs.length) (h2 : k < ys.length) (e : ¬ xs[k] = ys[k]) : decide (xs = ys) = false := by
  rw [decide_eq_false_iff_not]
  rintro rfl
  exact e rfl
theorem same_all {α : Type} [DecidableEq α] {xs ys : List α} {k : Nat} (h : xs.take k = ys.take k) (h1 : ¬ k < xs.length) (hl : xs.length = ys.length) : decide (xs = ys) = true := by
  rw [decide_eq_true_iff]
  rwa [List.take_of_length_le (by omega), List.take_of_length_le (by omega)] at h
theorem same_len {α : Type} [DecidableEq α] {xs ys : List α} (hl : ¬ xs.length = ys.length) : decide (xs = ys) = false := by
  rw [decide_eq_false_iff_not]
  rintro rfl
  exact hl rfl

set_option maxHeartbeats 400000 in
theorem same_any {B B' : Nat} (A A' : Option Addr) (n m c d : Nat) (xs ys : List UInt8) (w : World) (hn : xs.length = n) (hm : ys.length = m)
    (ha : Rd B w A (bv xs)) (hb : Rd B' w A' (bv ys)) (hn' : n ≤ maxLen) (hm' : m ≤ maxLen) :
    Calls Try.prog 22 #[.slice A n c, .slice A' m d] w (RetQ (.bool (decide (xs = ys))) w) := by
  subst hn
  subst hm
  unfold maxLen at hn' hm'
  by_cases hl : xs.length = ys.length
  · have HL := Lib.hid hl
    have hle : xs.length ≤ ys.length := by omega
    have hge : ys.length ≤ xs.length := by omega
    clear hl
    go_enter Try.func22, Try.ntmps22
    go_wp2
    go_loopw [5] (fun i wr => ∃ k q : Nat, k ≤ xs.length ∧ i = .int .i64 k ∧ Hid (xs.take k = ys.take k) ∧ wr = w.drewN q) (fun i _ => xs.length - (intOf i).toNat)
    case atStart => exact ⟨0, 0, Nat.zero_le _, rfl, rfl, rfl⟩
    case round =>
      obtain ⟨k, q, hk, rfl, HT, rfl⟩ := hrel
      by_cases hlt : k < xs.length
      · have hlt' : k < ys.length := by omega
        obtain ⟨ad, hA, _, hca⟩ := ha.at_ hlt
        obtain ⟨bd, hB, _, hcb⟩ := hb.at_ hlt'
        subst hA
        subst hB
        have h0 : (0 : Int) ≤ (k : Int) := by omega
        have h1 : (k : Int) < (xs.length : Int) := by omega
        have h2 : (k : Int) < (ys.length : Int) := by omega
        clear ha hb
        by_cases hxy : xs[k] = ys[k]
        · have hz : ((xs[k].toNat : Int) != (ys[k].toNat : Int)) = false := by simp [hxy]
          have HXY := Lib.hid hxy
          clear hxy
          go_wp2
          go_quiet (fail)
          go_wp2
          go_roundw
          case rel => exact ⟨k + 1, _, by omega, by go_num, take_more HT.out hlt hlt' HXY.out, rfl⟩
          case measure => simp [intOf]; omega
        · have hz : ((xs[k].toNat : Int) != (ys[k].toNat : Int)) = true := by simp [← UInt8.toNat_inj] at hxy ⊢; omega
          have HXY := Lib.hid hxy
          clear hxy
          go_wp2
          go_quiet (fail)
          go_wp2
          go_ret
          exact RetQ.mk2 (ret_bool (same_not hlt hlt' HXY.out).symm)
      · go_wp2
        go_ret
        exact RetQ.mk1 (ret_bool (same_all HT.out hlt HL.out).symm)
  · have hz : ((xs.length : Int) != (ys.length : Int)) = true := by simp; omega
    have HL := Lib.hid hl
    clear hl
    go_enter Try.func22, Try.ntmps22
    go_wp2
    go_ret
    exact RetQ.mk0 (ret_bool (same_len HL.out).symm)

theorem same_b {B B' : Nat} {A A' : Option Addr} {n m c d : Nat} {xs ys : List UInt8} {w : World} {b : Bool} (h : decide (xs = ys) = b) (hn : xs.length = n) (hm : ys.length = m)
    (ha : Rd B w A (bv xs)) (hb : Rd B' w A' (bv ys)) (hn' : n ≤ maxLen) (hm' : m ≤ maxLen) :
    Calls Try.prog 22 #[.slice A n c, .slice A' m d] w (RetQ (.bool b) w) := by
  rw [← h]
  exact same_any A A' n m c d xs ys w hn hm ha hb hn' hm'

theorem same_r {B B' : Nat} {A A' : Option Addr} {n m c d : Nat} {xs ys : List UInt8} {w : World} {b : Bool} (h : decide (xs = ys) = b) (hn : xs.length = n) (hm : ys.length = m)
    (ha : Rd B w A (bv xs)) (hb : Rd B' w A' (bv ys)) (hn' : n ≤ maxLen) (hm' : m ≤ maxLen) :
    Calls Try.prog 22 #[.slice A n c, .slice A' m d] w (RetB (.bool b) w) :=
  (same_b h hn hm ha hb hn' hm').mono fun _ _ ⟨he, q, hq⟩ => ⟨he, by rw [hq]; exact below_drewN' (Below.refl _ _) q⟩

end Go.Proofs.Ythdmdlnndbjcoaa
/-
  The contract of Rows: it tells whether two lists of rows of bytes are the same, and only reads.
-/
namespace Go.Proofs.Ythdmdlnndbjcoaa
open Go.RowKit

set_option maxHeartbeats 800000 in
theorem rows_any {B B' : Nat} (A A' : Option Addr) (n m c d : Nat) (xs ys : List (List UInt8)) (w : World) (hn : xs.length = n) (hm : ys.length = m)
    (ha : RdB B w A xs) (hb : RdB B' w A' ys) (hn' : n ≤ maxLen) (hm' : m ≤ maxLen) :
    Calls Try.prog 15 #[.slice A n c, .slice A' m d] w (RetQ (.bool (decide (xs = ys))) w) := by
  subst hn
  subst hm
  unfold maxLen at hn' hm'
  by_cases hl : xs.length = ys.length
  · have HL := Lib.hid hl
    have hle : xs.length ≤ ys.length := by omega
    have hge : ys.length ≤ xs.length := by omega
    clear hl
    go_enter Try.func15, Try.ntmps15
    go_wp2
    go_loopw [5] (fun i wr => ∃ k q : Nat, k ≤ xs.length ∧ i = .int .i64 k ∧ Hid (xs.take k = ys.take k) ∧ wr = w.drewN q) (fun i _ => xs.length - (intOf i).toNat)
    case atStart => exact ⟨0, 0, Nat.zero_le _, rfl, rfl, rfl⟩
    case round =>
      obtain ⟨k, q, hk, rfl, HT, rfl⟩ := hrel
      by_cases hlt : k < xs.length
      · have hlt' : k < ys.length := by omega
        obtain ⟨ad, A1, c1, hA, _, hca, hx1, hx2, hrx⟩ := ha.at_ hlt
        obtain ⟨bd, A2, c2, hB, _, hcb, hy1, hy2, hry⟩ := hb.at_ hlt'
        subst hA
        subst hB
        have h0 : (0 : Int) ≤ (k : Int) := by omega
        have h1 : (k : Int) < (xs.length : Int) := by omega
        have h2 : (k : Int) < (ys.length : Int) := by omega
        have mx := Nat.le_trans hx1 hx2
        have my := Nat.le_trans hy1 hy2
        clear ha hb hx1 hx2 hy1 hy2
        have hca' : (w.drewN q).cell? (ad.add k) = some (.slice A1 xs[k].length c1) := hca
        have hcb' : (w.drewN q).cell? (bd.add k) = some (.slice A2 ys[k].length c2) := hcb
        have hrx' : Rd B (w.drewN q) A1 (bv xs[k]) := hrx
        have hry' : Rd B' (w.drewN q) A2 (bv ys[k]) := hry
        clear hca hcb hrx hry
        obtain ⟨v, hv⟩ : ∃ v : World, v = w.drewN q := ⟨_, rfl⟩
        rw [← hv] at hca' hcb' hrx' hry' ⊢
        have HV := Lib.hid hv
        clear hv
        by_cases hxy : xs[k] = ys[k]
        · have HC := Lib.hid (fun W (h1 : Rd B W A1 (bv xs[k])) (h2 : Rd B' W A2 (bv ys[k])) => same_b (b := true) (c := c1) (d := c2) (w := W) (decide_eq_true hxy) rfl rfl h1 h2 mx my)
          have HXY := Lib.hid hxy
          clear hxy mx my
          go_wp2
          go_quiet ((go_at_call 22; exact RetQ.quiet (HC.out _ hrx' hry')))
          go_wp2
          go_roundw
          case rel => exact ⟨k + 1, q + nq, by omega, by go_num, take_more HT.out hlt hlt' HXY.out, by rw [HV.out, World.drewN_drewN]⟩
          case measure => simp [intOf]; omega
        · have HC := Lib.hid (fun W (h1 : Rd B W A1 (bv xs[k])) (h2 : Rd B' W A2 (bv ys[k])) => same_b (b := false) (c := c1) (d := c2) (w := W) (decide_eq_false hxy) rfl rfl h1 h2 mx my)
          have HXY := Lib.hid hxy
          clear hxy mx my
          go_wp2
          go_quiet ((go_at_call 22; exact RetQ.quiet (HC.out _ hrx' hry')))
          go_wp2
          go_ret
          rw [HV.out]
          exact RetQ.mk2 (ret_bool (same_not hlt hlt' HXY.out).symm)
      · go_wp2
        go_ret
        exact RetQ.mk1 (ret_bool (same_all HT.out hlt HL.out).symm)
  · have hz : ((xs.length : Int) != (ys.length : Int)) = true := by simp; omega
    have HL := Lib.hid hl
    clear hl
    go_enter Try.func15, Try.ntmps15
    go_wp2
    go_ret
    exact RetQ.mk0 (ret_bool (same_len HL.out).symm)

theorem rows_r {B B' : Nat} {A A' : Option Addr} {n m c d : Nat} {xs ys : List (List UInt8)} {w : World} {b : Bool} (h : decide (xs = ys) = b) (hn : xs.length = n) (hm : ys.length = m)
    (ha : RdB B w A xs) (hb : RdB B' w A' ys) (hn' : n ≤ maxLen) (hm' : m ≤ maxLen) :
    Calls Try.prog 15 #[.slice A n c, .slice A' m d] w (RetB (.bool b) w) := by
  rw [← h]
  exact (rows_any A A' n m c d xs ys w hn hm ha hb hn' hm').mono fun _ _ ⟨he, q, hq⟩ => ⟨he, by rw [hq]; exact below_drewN' (Below.refl _ _) q⟩
end Go.Proofs.Ythdmdlnndbjcoaa
/-
  How an array of numbers that came in by value is opened: its numbers, as a list.
-/
namespace Go.Proofs.Ythdmdlnndbjcoaa
open Go.RowKit Go.ChangeShapes Go.WideShapes

section
variable {H : Type} {enc : TypeId × Value → H} {P : Program} {w : World} {r : Reach} {b0 base : Nat} {spare : Nat → Bool} {held : Bool}

theorem open_arr {t e n : Nat} {k : IntKind} {v : Value} {d : DataW H} {ps : List MemPlace} (ht : P.underlying t = some (.array n e)) (he : P.underlying e = some (.int k)) (hc : P.cellsOf e = 1) (hn : P.cellsOf t = n)
    (hval : Value.okWide P w r b0 t v) (h : DataW.Trod enc P w base spare held t v d ps) :
    ∃ zs : List Int, zs.length = n ∧ v = .agg (zs.map (Value.int k)).toArray ∧ ∀ z ∈ zs, (Lit.int k z).wf = true := by
  obtain ⟨cs, rfl, hsz⟩ : ∃ cs, v = .agg cs ∧ cs.size = n := by
    have h1 := hval
    simp only [Value.okWide, ht] at h1
    obtain ⟨cs, e1, e2, _⟩ := h1
    exact ⟨cs, e1, by rw [e2, hn]⟩
  obtain ⟨fuel, hf⟩ := h
  obtain ⟨xs, m, _, _, hl, hx, hel⟩ := DataW.trod_array ht hf
  have each : ∀ i (hi : i < cs.size), ∃ z, cs[i] = .int k z ∧ (Lit.int k z).wf = true := by
    intro i hi
    have h1 := hel i (by omega)
    have hxi : i < xs.length := by omega
    rw [List.getElem?_eq_getElem hxi, hc, Nat.mul_one] at h1
    obtain ⟨z, e1, _, hw⟩ := DataW.trod_int he h1
    have e2 : ((Value.agg cs).cells.toList.drop i).take 1 = [cs[i]] := by
      show (cs.toList.drop i).take 1 = [cs[i]]
      rw [List.drop_eq_getElem_cons (by simpa using hi)]
      simp
    rw [e2] at e1
    injection e1 with e1
    exact ⟨z, e1, hw⟩
  refine ⟨cs.toList.map (fun v => match v with | .int _ z => z | _ => 0), by simpa using hsz, ?_, ?_⟩
  · congr 1
    apply Array.ext
    · simp
    · intro i h1 h2
      obtain ⟨z, hz, _⟩ := each i h1
      simp [hz]
  · intro z hz
    simp only [List.mem_map] at hz
    obtain ⟨v, hv, rfl⟩ := hz
    obtain ⟨i, hi, rfl⟩ := List.getElem_of_mem hv
    obtain ⟨z, hz, hw⟩ := each i (by simpa using hi)
    have : cs.toList[i] = .int k z := by simpa using hz
    rw [this]
    exact hw

theorem open_u32s {t e n : Nat} {v : Value} {d : DataW H} {ps : List MemPlace} (ht : P.underlying t = some (.array n e)) (he : P.underlying e = some (.int .u32)) (hc : P.cellsOf e = 1) (hn : P.cellsOf t = n)
    (hval : Value.okWide P w r b0 t v) (h : DataW.Trod enc P w base spare held t v d ps) : ∃ s : List UInt32, s.length = n ∧ v = .agg (uv s) := by
  obtain ⟨zs, hl, rfl, hw⟩ := open_arr ht he hc hn hval h
  refine ⟨zs.map fun z => UInt32.ofNat z.toNat, by simpa using hl, ?_⟩
  unfold uv
  rw [List.map_map]
  congr 2
  apply List.map_congr_left
  intro z hz
  have hb := bounds_u32 (hw z hz)
  simp only [Function.comp]
  exact int_eq (by rw [UInt32.toNat_ofNat']; omega)
theorem open_u8s {t e n : Nat} {v : Value} {d : DataW H} {ps : List MemPlace} (ht : P.underlying t = some (.array n e)) (he : P.underlying e = some (.int .u8)) (hc : P.cellsOf e = 1) (hn : P.cellsOf t = n)
    (hval : Value.okWide P w r b0 t v) (h : DataW.Trod enc P w base spare held t v d ps) : ∃ l : List UInt8, l.length = n ∧ v = .agg (bva l) := by
  obtain ⟨zs, hl, rfl, hw⟩ := open_arr ht he hc hn hval h
  refine ⟨zs.map fun z => UInt8.ofNat z.toNat, by simpa using hl, ?_⟩
  unfold bva bv
  rw [List.map_map]
  congr 2
  apply List.map_congr_left
  intro z hz
  have hb := bounds_u8 (hw z hz)
  simp only [Function.comp]
  exact int_eq (by rw [UInt8.toNat_ofNat']; omega)
end
end Go.Proofs.Ythdmdlnndbjcoaa
/-
  Structs and slices that are built of parts: steps over any program.
-/
namespace Go.Proofs.Ythdmdlnndbjcoaa
open Go.RowKit
theorem fill_step (place : Nat → Option (Nat × Nat)) {i off size : Nat} (hp : place i = some (off, size)) (v : Value) (hv : v.cells.size = size) (cells : Array Value) (hle : off + size ≤ cells.size) (rest : List (Nat × Value)) :
    Instr.fill place cells ((i, v) :: rest) = Instr.fill place ((v.cells.toList.zipIdx 0).foldl (fun cs (x : Value × Nat) => cs.setIfInBounds (off + x.2) x.1) cells) rest := by
  rw [Instr.fill, hp]
  simp only [hv]
  rw [if_neg (by simp; omega)]
  congr 1
  rw [← Array.foldl_toList]
  simp
theorem exec_build {P : Program} {w : World} {r : Operand → Value} {o : Oper} {v : Value} (t : TypeId) (parts : Array (Nat × Operand)) (ho : o.op = .build t parts) (h : (Instr.build t (parts.map fun (i, x) => (i, r x))).run P w = .ok v w) :
    (execOp r o).run P w = .ok (.value v) w := by
  unfold execOp
  simp only [ho, Sem.run_bind, h, Result.andThen_ok, Sem.run_pure]
theorem wpList_build {P : Program} {ops : Array Oper} {rest : List Oper} {o : Oper} {a : Act} {w : World} {Q : Exit → Act → World → Prop} {v : Value} (hgd : o.guard = none) (t : TypeId) (parts : Array (Nat × Operand)) (ho : o.op = .build t parts) (h : (Instr.build t (parts.map fun (i, x) => (i, a.eval x))).run P w = .ok v w)
    (hk : wpList P ops Q rest (a.put o.dst v) w) : wpList P ops Q (o :: rest) a w :=
  wpList_plain hgd fun _ hK => by
    unfold Oper.wp
    rw [exec_build t parts ho h]
    exact hK _ _ hk
/-- A load of a whole row under a guard that holds. -/
theorem wpList_load_if {P : Program} {w : World} {ops : Array Oper} {rest : List Oper} {o : Oper} {a : Act} {Q : Exit → Act → World → Prop} (hgd : Region.wanted o (yielded ops a.tmps) = true) (ty : TypeId) (x : Operand) (ho : o.op = .load ty x) {g : Nat} {cs : Array Value} {A : TypeId} {d : TypeDesc}
    (hx : a.eval x = .pointer (some ⟨g, 0, none⟩)) (hg : Blk w g cs A) (hu : P.underlying ty = some d) (hd : (match d with | .struct _ | .array _ _ => true | _ => false) = true) (hi : (P.info? ty).map (·.size) = some cs.size)
    (h : wpList P ops Q rest (a.put o.dst (.agg cs)) w) : wpList P ops Q (o :: rest) a w := by
  unfold wpList
  rw [if_pos hgd]
  refine .inl ?_
  unfold Oper.wp
  rw [exec_load ty x ho hx hg hu hd hi]
  exact h
end Go.Proofs.Ythdmdlnndbjcoaa
/-
  Cells in the midst of a block that is known whole; what grows; a copy told by the world that it makes.
-/
namespace Go.Proofs.Ythdmdlnndbjcoaa
open Go.RowKit
theorem grown_trans {w w1 w2 : World} {row : Option Nat} (h : w.grownBy w1 row) (h' : w1.grownBy w2 row) : w.grownBy w2 row :=
  ⟨h'.os.trans h.os, h'.tape.trans h.tape, h'.output.trans h.output, Nat.le_trans h.size h'.size, fun k hk hne => (h'.block k (Nat.lt_of_lt_of_le hk h.size) hne).trans (h.block k hk hne)⟩
theorem grown_of_below {w w' : World} {row : Option Nat} (h : Below w.heap.size w w') : w.grownBy w' row :=
  ⟨h.os, h.tape, h.output, h.size, fun k hk _ => h.block k hk⟩
theorem rd_far {B g : Nat} {w w' : World} {A : Option Addr} {xs : List Value} (h : Rd B w A xs) (hg : w.grownBy w' (some g)) (hB : B ≤ g) : Rd B w' A xs := fun k u hu => by
  obtain ⟨ad, e, hl, hc⟩ := h k u hu
  refine ⟨ad, e, hl, hg.cell hc ?_⟩
  rw [add_block]
  intro h'
  injection h' with h'
  omega
theorem own_far {w w' : World} {base n g : Nat} {e : TypeId} {v : Value} {xs : List Value} (h : w.ownsRow base e 1 v n xs) (hg : w.grownBy w' (some g)) (hne : ∀ k, v.ownBlock = some k → k ≠ g) : w'.ownsRow base e 1 v n xs :=
  h.kept hg (by
    cases hv : v.ownBlock with
    | none => exact .inl rfl
    | some k => exact .inr (fun e => hne k hv (by injection e)))
theorem blk_far {w w' : World} {g g' : Nat} {cs : Array Value} {A : TypeId} (h : Blk w g' cs A) (hg : w.grownBy w' (some g)) (hne : g' ≠ g) : Blk w' g' cs A := by
  unfold Blk
  rw [hg.block g' h.lt (by intro e; injection e with e; exact hne e)]
  exact h
/-- The slice at A reads the cells xs, none of which lies in block g. -/
def Rf (g : Nat) (w : World) (A : Option Addr) (xs : List Value) : Prop :=
  ∀ k u, xs[k]? = some u → ∃ ad, A = some ad ∧ ad.block ≠ g ∧ w.cell? (ad.add k) = some u
section
variable {g : Nat} {w w' : World} {A : Option Addr} {xs : List Value}
theorem Rf.none : Rf g w A [] := fun k u h => by simp at h
theorem Rf.none' : Rf g w A (bv []) := fun k u h => by simp [bv] at h
theorem Rf.grown (h : Rf g w A xs) (hg : w.grownBy w' (some g)) : Rf g w' A xs := fun k u hu => by
  obtain ⟨ad, e, hn, hc⟩ := h k u hu
  exact ⟨ad, e, hn, hg.cell hc (by rw [add_block]; intro e; injection e with e; exact hn e)⟩
theorem Rf.src (h : Rf g w A xs) (hl : 0 < xs.length) : ∃ ad, A = some ad ∧ ad.block ≠ g ∧ ∀ j v, xs[j]? = some v → w.cell? (ad.add j) = some v := by
  obtain ⟨ad, rfl, hn, _⟩ := h 0 _ (List.getElem?_eq_getElem hl)
  refine ⟨ad, rfl, hn, fun j v hv => ?_⟩
  obtain ⟨ad', e, _, hc⟩ := h j v hv
  injection e with e
  subst e
  exact hc
theorem Rf.drop {a : Addr} {l : List UInt8} (h : Rf g w (some a) (bv l)) (k : Nat) : Rf g w (some (a.add k)) (bv (l.drop k)) := fun j u hu => by
  rw [bv_drop, List.getElem?_drop] at hu
  obtain ⟨ad, e, hb, hc⟩ := h (k + j) u hu
  injection e with e
  subst e
  exact ⟨_, rfl, by rw [add_block]; exact hb, by rw [add_twice]; exact hc⟩
theorem Rf.of_rd {B : Nat} (h : Rd B w A xs) (hB : B ≤ g) : Rf g w A xs := fun k u hu => by
  obtain ⟨ad, e, hb, hc⟩ := h k u hu
  exact ⟨ad, e, by omega, hc⟩
theorem Rf.of_own {base n c : Nat} {e : TypeId} (h : w.ownsRow base e 1 (.slice A n c) n xs) (hg : g < base) : Rf g w A xs := fun k u hu => by
  obtain ⟨ad, e', hb, hc⟩ := Rd.own h k u hu
  have hk : k < xs.length := (List.getElem?_eq_some_iff.1 hu).1
  have hn := own_len h
  subst e'
  have := (h.lt ad.block rfl).1
  exact ⟨ad, rfl, by omega, hc⟩
end
theorem grown_setCell (w : World) (g o : Nat) (v : Value) : w.grownBy (w.setCell ⟨g, o, none⟩ v) (some g) :=
  ⟨rfl, rfl, rfl, by simp, fun k _ hne => heap_setCell_other _ _ _ _ (fun e => hne (by rw [e]))⟩
theorem grown_setCells (g : Nat) : ∀ (vs : List Value) (o : Nat) (w : World), w.grownBy (w.setCells g o vs) (some g)
  | [], _, w => World.grownBy.refl w _
  | v :: vs, o, w => grown_trans (grown_setCell w g o v) (grown_setCells g vs (o + 1) _)
theorem grown_setRow (w : World) (g : Nat) (cs : Array Value) : w.grownBy (w.setRow g cs) (some g) :=
  ⟨rfl, rfl, rfl, by simp, fun k _ hne => setRow_other w g k cs (fun e => hne (by rw [e]))⟩
theorem grown_drew (w : World) (row : Option Nat) : w.grownBy w.drew row := ⟨rfl, rfl, rfl, Nat.le_refl _, fun _ _ _ => rfl⟩
theorem grown_drewN (w : World) (q : Nat) (row : Option Nat) : w.grownBy (w.drewN q) row := ⟨rfl, rfl, rfl, Nat.le_refl _, fun _ _ _ => rfl⟩

theorem splice_right {α : Type} (X L : List α) (o : Nat) (cs : List α) : splice (X ++ L) (X.length + o) cs = X ++ splice L o cs := by
  unfold splice
  rw [List.take_append, List.take_of_length_le (Nat.le_add_right _ _), Nat.add_sub_cancel_left, List.append_assoc, show X.length + o + cs.length = X.length + (o + cs.length) by omega, List.drop_append, List.drop_of_length_le (Nat.le_add_right _ _), List.nil_append, Nat.add_sub_cancel_left]
theorem splice_left {α : Type} (L Z : List α) (o : Nat) (cs : List α) (h : o + cs.length ≤ L.length) : splice (L ++ Z) o cs = splice L o cs ++ Z := by
  unfold splice
  rw [List.take_append_of_le_length (by omega), List.drop_append_of_le_length h, List.append_assoc, List.append_assoc]
theorem splice_whole {α : Type} (L cs : List α) (h : cs.length = L.length) : splice L 0 cs = cs := by
  unfold splice
  rw [List.take_zero, List.nil_append, List.drop_of_length_le (by omega), List.append_nil]
theorem splice_set {α : Type} (L : List α) (o : Nat) (v : α) (cs : List α) (h : o < L.length) : splice (L.set o v) (o + 1) cs = splice L o (v :: cs) := by
  unfold splice
  rw [List.take_set, List.drop_set_of_lt (by omega), List.length_cons, show o + 1 + cs.length = o + (cs.length + 1) by omega]
  rw [List.take_add_one, List.getElem?_eq_getElem h, Option.toList_some, List.set_append_right _ _ (by rw [List.length_take]; omega), List.length_take, Nat.min_eq_left (by omega), Nat.sub_self, List.set_cons_zero, List.append_assoc]
  rfl
theorem row_setCells (g : Nat) (t : TypeId) : ∀ (vs : List Value) (o : Nat) (w : World) (cs : List Value), w.heap[g]? = some (.cells cs.toArray t (0, 0)) → o + vs.length ≤ cs.length → (w.setCells g o vs).heap[g]? = some (.cells (splice cs o vs).toArray t (0, 0))
  | [], o, w, cs, h, _ => by
    have e : splice cs o [] = cs := by unfold splice; simp
    rw [e]; exact h
  | v :: vs, o, w, cs, h, hl => by
    rw [List.length_cons] at hl
    have h1 := heap_setCell_same w g o _ t v h
    rw [List.setIfInBounds_toArray] at h1
    have h2 := row_setCells g t vs (o + 1) (w.setCell ⟨g, o, none⟩ v) (cs.set o v) h1 (by rw [List.length_set]; omega)
    rw [splice_set cs o v vs (by omega)] at h2
    exact h2
theorem there_of_blk {w : World} {g : Nat} {cs : List Value} {A : TypeId} (h : Blk w g cs.toArray A) {o n : Nat} (hn : o + n ≤ cs.length) : w.there g o n := fun j hj =>
  ⟨by rw [h.cell, List.getElem?_toArray, List.getElem?_eq_getElem (by omega)]; rfl, h.free _⟩
theorem range_of_blk {w : World} {g : Nat} {X Y Z : List Value} {A : TypeId} (h : Blk w g (X ++ (Y ++ Z)).toArray A) : w.rangeAt g X.length Y := fun j v hv => by
  rw [h.cell, List.getElem?_toArray, List.getElem?_append_right (Nat.le_add_right _ _), Nat.add_sub_cancel_left]
  have hj := (List.getElem?_eq_some_iff.1 hv).1
  rw [List.getElem?_append_left hj]
  exact hv
/-- A copy of something, at a step of a region that draws: the world is told. -/
theorem step_copy_set {P : Program} {ops : Array Oper} {o : Oper} {a : Act} {w : World} {K : Act → World → Prop} {Q : Exit → Act → World → Prop} {E : Prop} (hgd : o.guard = none) (d s : Operand) (dT sT : TypeId)
    (ho : o.op = .call { callee := .builtin .copy, args := #[d, s], argTypes := #[dT, sT] }) (elem : TypeId) (hu : P.underlying dT = some (.slice elem)) (hsz : (P.info? elem).map (·.size) = some 1)
    (ad : Addr) (g off dLen dCap sLen sCap : Nat) (hd : a.eval d = .slice (some ⟨g, off, none⟩) dLen dCap) (hs : a.eval s = .slice (some ad) sLen sCap)
    (cur : List Value) (t : TypeId) (hg : w.heap[g]? = some (.cells cur.toArray t (0, 0))) (cs : List Value) (hn : cs.length = Nat.min sLen dLen)
    (hsrc : ∀ j v, cs[j]? = some v → w.cell? (ad.add j) = some v)
    (hfit : off + cs.length ≤ cur.length) (h1 : ∀ v ∈ cs, v.oneCell' = true) (k : Nat) (hk : cs.length = k)
    (h : K (a.put o.dst (goInt k)) (w.setRow g (splice cur off cs).toArray)) :
    if Region.wanted o (yielded ops a.tmps) = true then Oper.wp P o a w K Q else E := by
  subst hk
  have hw : Region.wanted o (yielded ops a.tmps) = true := by simp [Region.wanted, hgd]
  rw [if_pos hw]
  have hrun := run_copy_row (P := P) w dT sT o.type elem g off dLen dCap ad sLen sCap cur.toArray t cs hu hsz hg hn hsrc (by simpa using hfit) h1
  unfold Oper.wp
  simp [execOp, ho, resolve, invoke, builtin, hd, hs, hrun, Result.andThen]
  unfold splice at h
  simp only [Oper.upon]
  simpa using h
end Go.Proofs.Ythdmdlnndbjcoaa
/-
  A struct that is built of all of its parts, in their order: its cells are theirs, one behind the other. A row of one element.
-/
namespace Go.Proofs.Ythdmdlnndbjcoaa
open Go.RowKit
/-- The parts' cells, one behind the other. -/
def cellsOf : List (Nat × Value) → List Value
  | [] => []
  | x :: ps => x.2.cells.toList ++ cellsOf ps
/-- Each part's place lies behind the one ahead of it. -/
def FitsL (place : Nat → Option (Nat × Nat)) : Nat → List (Nat × Value) → Prop
  | _, [] => True
  | off, x :: ps => place x.1 = some (off, x.2.cells.size) ∧ FitsL place (off + x.2.cells.size) ps
theorem foldl_splice (off : Nat) : ∀ (cs : List Value) (k : Nat) (L : List Value), off + k + cs.length ≤ L.length → (cs.zipIdx k).foldl (fun cs (x : Value × Nat) => cs.setIfInBounds (off + x.2) x.1) L.toArray = (splice L (off + k) cs).toArray
  | [], k, L, _ => by
    have e : splice L (off + k) [] = L := by unfold splice; simp
    rw [e]; rfl
  | v :: cs, k, L, h => by
    rw [List.length_cons] at h
    rw [List.zipIdx_cons, List.foldl_cons]
    show List.foldl _ (L.toArray.setIfInBounds (off + k) v) (cs.zipIdx (k + 1)) = _
    rw [List.setIfInBounds_toArray, foldl_splice off cs (k + 1) (L.set (off + k) v) (by rw [List.length_set]; omega), ← Nat.add_assoc, splice_set _ _ _ _ (by omega)]
theorem fill_list (place : Nat → Option (Nat × Nat)) : ∀ (ps : List (Nat × Value)) (pre rest : List Value), FitsL place pre.length ps → (cellsOf ps).length ≤ rest.length →
    Instr.fill place (pre ++ rest).toArray ps = some (pre ++ (cellsOf ps ++ rest.drop (cellsOf ps).length)).toArray
  | [], pre, rest, _, _ => by rw [Instr.fill]; rfl
  | (i, v) :: ps, pre, rest, ⟨hp, hf⟩, hl => by
    have hl' : v.cells.toList.length + (cellsOf ps).length ≤ rest.length := by simpa [cellsOf] using hl
    have hvl : v.cells.toList.length = v.cells.size := by simp
    rw [fill_step place hp v rfl _ (by simp; omega), foldl_splice pre.length v.cells.toList 0 (pre ++ rest) (by simp; omega), splice_right]
    have e : splice rest 0 v.cells.toList = v.cells.toList ++ rest.drop v.cells.toList.length := by rw [splice, List.take_zero, List.nil_append, Nat.zero_add]
    rw [e, ← List.append_assoc]
    have h := fill_list place ps (pre ++ v.cells.toList) (rest.drop v.cells.toList.length) (by rw [List.length_append, hvl]; exact hf) (by rw [List.length_drop]; omega)
    rw [h]
    simp [cellsOf, List.drop_drop, List.append_assoc]
/-- All of it is filled. -/
theorem fill_struct (place : Nat → Option (Nat × Nat)) (zero : Array Value) (ps : List (Nat × Value)) (hf : FitsL place 0 ps) (hl : (cellsOf ps).length = zero.size) : Instr.fill place zero ps = some (cellsOf ps).toArray := by
  have h := fill_list place ps [] zero.toList hf (by simp; omega)
  rw [List.nil_append, List.nil_append, hl] at h
  rw [show zero.toList.toArray = zero by simp] at h
  rw [h]
  congr 2
  rw [List.drop_of_length_le (by simp), List.append_nil]
theorem build_struct {P : Program} (W : World) (t : TypeId) (parts : List (Nat × Value)) (place : Nat → Option (Nat × Nat)) (zero : Array Value) (e : P.built t parts = Instr.fill place zero parts) (hf : FitsL place 0 parts) (hl : (cellsOf parts).length = zero.size) :
    (Instr.build t parts.toArray).run P W = .ok (.agg (cellsOf parts).toArray) W := by
  refine run_build W t _ _ ?_
  show P.built t parts.toArray.toList = _
  rw [show parts.toArray.toList = parts by simp, e, fill_struct place zero parts hf hl]
/-- A row of one element of several cells. -/
theorem run_one {P : Program} (W : World) (t e : TypeId) (ie : TypeInfo) (z v : Value) (size : Nat) (ht : P.underlying t = some (.slice e)) (hi : P.info? e = some ie) (hz : ie.zero = some z) (hs : ie.size = size) (hzs : z.cells.size = size) (hv : v.cells.size = size) (h0 : 0 < size) (h1 : size ≤ 2 ^ 24) :
    (Instr.buildSlice t 1 #[(0, v)]).run P W = .ok (.slice (some ⟨W.heap.size, 0, none⟩) 1 1) (W.alloc (.cells v.cells e)) := by
  have hf := fill_struct (fun i => some (i * size, size)) ((Array.range (1 * size)).map (z.cells[· % z.cells.size]!)) [(0, v)] ⟨by rw [hv]; simp, trivial⟩ (by simp [cellsOf, hv])
  have hc : (cellsOf [(0, v)]).toArray = v.cells := by simp [cellsOf]
  rw [hc] at hf
  exact run_buildSlice W t e 1 _ _ ie z ht hi hz (by omega) (by omega) (by rw [hs]; exact hf)
/-- .. and by the element's row of the table. -/
theorem run_oneN {P : Program} {t e : TypeId} {z : Value} {size bytes : Nat} (E : EltN P t e z size bytes) (W : World) (v : Value) (hv : v.cells.size = size) (h1 : size ≤ 2 ^ 24) :
    (Instr.buildSlice t 1 #[(0, v)]).run P W = .ok (.slice (some ⟨W.heap.size, 0, none⟩) 1 1) (W.alloc (.cells v.cells e)) := by
  obtain ⟨i, hi, hz, hs, _⟩ := info_parts E.info
  exact run_one W t e i z v size E.under hi hz hs E.cells_ hv E.pos h1
theorem exec_buildSlice {P : Program} {w w' : World} {r : Operand → Value} {o : Oper} {v : Value} (t : TypeId) (n : Nat) (parts : Array (Nat × Operand)) (ho : o.op = .buildSlice t n parts) (h : (Instr.buildSlice t n (parts.map fun (i, x) => (i, r x))).run P w = .ok v w') :
    (execOp r o).run P w = .ok (.value v) w' := by
  unfold execOp
  simp only [ho, Sem.run_bind, h, Result.andThen_ok, Sem.run_pure]
theorem wp_buildSliceN {P : Program} {o : Oper} {a : Act} {w w' : World} {K : Act → World → Prop} {Q : Exit → Act → World → Prop} {v : Value} (t : TypeId) (n : Nat) (parts : Array (Nat × Operand)) (ho : o.op = .buildSlice t n parts) (h : (Instr.buildSlice t n (parts.map fun (i, x) => (i, a.eval x))).run P w = .ok v w')
    (hk : K (a.put o.dst v) w') : o.wp P a w K Q := by
  unfold Oper.wp
  rw [exec_buildSlice t n parts ho h]
  exact hk
end Go.Proofs.Ythdmdlnndbjcoaa
