/-
  Texts of this seat, one behind the other: CeCR4, CeCRight, CeCGet, CeCEncA, CeCEncB, CeCEncC, CeCDecA.
-/
import Derived.Deep.RegionHeld
import Derived.Deep.Cut
import Derived.Test.YthdmdlnndbjcoaaCa2
/-
  Right, as the document's answer tells it: kinds 6, 8.
-/
namespace Go.Proofs.Ythdmdlnndbjcoaa.Ce
open Go.RowKit
attribute [local go_sem ↓] Go.wp_at_zero Go.wp_at_succ

set_option maxRecDepth 100000 in
set_option maxHeartbeats 6400000 in
theorem cright6 (nm : Nat) (mn br vl bk : Int) (rf : Nat) (fr tl un : Int) (bd : List UInt8) (A : Option Addr) (c : Nat) (w : World) (h1 : 1 ≤ nm) (h2 : nm ≤ 65535) (g1 : 0 ≤ mn ∧ mn ≤ 1073741824) (hr : Rd w.heap.size w A (bv bd)) :
    Calls Try.prog 20 #[.agg #[.int .i64 6, .int .u64 nm, .int .i64 mn, .int .i64 br, .int .i64 vl, .int .i64 bk, .int .u64 rf, .int .i64 fr, .int .i64 tl, .int .i64 un, .slice A bd.length c]] w (RetB (.bool (decide (kindOk ⟨6, nm, mn, br, vl, bk, rf, fr, tl, un, bd⟩))) w) := by
  obtain ⟨q, hq⟩ : ∃ q, q = decide (kindOk ⟨6, nm, mn, br, vl, bk, rf, fr, tl, un, bd⟩) := ⟨_, rfl⟩
  rw [← hq]
  have HB := Lib.hid hq
  have HRD := Lib.hid hr
  clear hq hr
  have d1 : decide ((nm : Int) < 1) = false := decide_eq_false (by omega)
  have d2 : decide ((65535 : Int) < (nm : Int)) = false := decide_eq_false (by omega)
  by_cases g3 : 1 ≤ rf
  · have e3 : decide ((rf : Int) ≥ 1) = true := decide_eq_true (by omega)
    go_enter Try.func20, Try.ntmps20
    go_wp2_with fail
    refine (cminute_any _ _).mono ?_
    rintro e w' ⟨rfl, rfl⟩
    rw [decide_eq_true g1]
    go_upto_region 23 with fail
    refine wp_region_held_drew (S := (fun w' => w'.cell? ⟨w.heap.size, 3, none⟩ = some (.int .i64 br) ∧ w'.cell? ⟨w.heap.size, 4, none⟩ = some (.int .i64 vl) ∧ w'.cell? ⟨w.heap.size, 5, none⟩ = some (.int .i64 bk) ∧ w'.cell? ⟨w.heap.size, 6, none⟩ = some (.int .u64 rf) ∧ w'.cell? ⟨w.heap.size, 7, none⟩ = some (.int .i64 fr) ∧ w'.cell? ⟨w.heap.size, 8, none⟩ = some (.int .i64 tl) ∧ w'.cell? ⟨w.heap.size, 9, none⟩ = some (.int .i64 un) ∧ w'.cell? ⟨w.heap.size, 10, none⟩ = some (.slice A bd.length c))) (by kernel_rfl) ⟨by go_simp, by go_simp, by go_simp, by go_simp, by go_simp, by go_simp, by go_simp, by go_simp⟩ (fun hh => ?_)
    have HH := Lib.hid hh
    clear hh
    refine wpAnyH_take (i := 0) (v := ?vQ130) rfl (by kernel_rfl) (by kernel_rfl) (by kernel_rfl) (fun _ _ _ h => h) (Or.inl ⟨by rfl, fun w' _ => ?yQ130⟩) HH.out ?_
    case yQ130 => (go_simp; try with_reducible rfl)
    try simp only [List.getElem_toArray, List.getElem_cons_zero, Act.put, List.setIfInBounds_toArray, List.set_cons_zero, List.set_cons_succ]
    refine wpAnyH_take (i := 1) (v := .int .u64 rf) rfl (by kernel_rfl) (by kernel_rfl) (by kernel_rfl) (fun _ _ _ h => h) (Or.inl ⟨by rfl, fun w' hw' => ?yQ131⟩) HH.out ?_
    case yQ131 => (have hc := hw'.2.2.2.1; go_simp; try with_reducible rfl)
    try simp only [List.getElem_toArray, List.getElem_cons_succ, List.getElem_cons_zero, Act.put, List.setIfInBounds_toArray, List.set_cons_zero, List.set_cons_succ]
    refine wpAnyH_take (i := 2) (v := ?vQ132) rfl (by kernel_rfl) (by kernel_rfl) (by kernel_rfl) (fun _ _ _ h => h) (Or.inl ⟨by rfl, fun w' _ => ?yQ132⟩) HH.out ?_
    case yQ132 => (go_simp; try with_reducible rfl)
    try simp only [List.getElem_toArray, List.getElem_cons_succ, List.getElem_cons_zero, Act.put, List.setIfInBounds_toArray, List.set_cons_zero, List.set_cons_succ]
    refine wpAnyH_take (i := 3) (v := .int .i64 fr) rfl (by kernel_rfl) (by kernel_rfl) (by kernel_rfl) (fun _ _ _ h => h) (Or.inl ⟨by rfl, fun w' hw' => ?yQ133⟩) HH.out ?_
    case yQ133 => (have hc := hw'.2.2.2.2.1; go_simp; try with_reducible rfl)
    refine wpAnyH_take (i := 4) (v := ?vQ134) rfl (by kernel_rfl) (by kernel_rfl) (by kernel_rfl) (fun _ _ _ h => h) (Or.inl ⟨by rfl, fun w' _ => ?yQ134⟩) HH.out ?_
    case yQ134 => (go_simp; try with_reducible rfl)
    try simp only [List.getElem_toArray, List.getElem_cons_succ, List.getElem_cons_zero, Act.put, List.setIfInBounds_toArray, List.set_cons_zero, List.set_cons_succ]
    try simp only [List.getElem_toArray, List.getElem_cons_succ, List.getElem_cons_zero, Act.put, List.setIfInBounds_toArray, List.set_cons_zero, List.set_cons_succ]
    refine wpAnyH_take (i := 5) (v := .int .i64 tl) rfl (by kernel_rfl) (by kernel_rfl) (by kernel_rfl) (fun _ _ _ h => h) (Or.inl ⟨by rfl, fun w' hw' => ?yQ135⟩) HH.out ?_
    case yQ135 => (have hc := hw'.2.2.2.2.2.1; go_simp; try with_reducible rfl)
    refine wpAnyH_take (i := 6) (v := ?vQ136) rfl (by kernel_rfl) (by kernel_rfl) (by kernel_rfl) (fun _ _ _ h => h) (Or.inl ⟨by rfl, fun w' _ => ?yQ136⟩) HH.out ?_
    case yQ136 => (go_simp; try with_reducible rfl)
    try simp only [List.getElem_toArray, List.getElem_cons_succ, List.getElem_cons_zero, Act.put, List.setIfInBounds_toArray, List.set_cons_zero, List.set_cons_succ]
    refine wpAnyH_take (i := 7) (v := .int .i64 un) rfl (by kernel_rfl) (by kernel_rfl) (by kernel_rfl) (fun _ _ _ h => h) (Or.inl ⟨by rfl, fun w' hw' => ?yQ137⟩) HH.out ?_
    case yQ137 => (have hc := hw'.2.2.2.2.2.2.1; go_simp; try with_reducible rfl)
    try simp only [List.getElem_toArray, List.getElem_cons_succ, List.getElem_cons_zero, Act.put, List.setIfInBounds_toArray, List.set_cons_zero, List.set_cons_succ]
    refine wpAnyH_take (i := 8) (v := ?vQ138) rfl (by kernel_rfl) (by kernel_rfl) (by kernel_rfl) (fun _ _ _ h => h) (Or.inl ⟨by rfl, fun w' _ => ?yQ138⟩) HH.out ?_
    case yQ138 => (go_simp; try with_reducible rfl)
    try simp only [List.getElem_toArray, List.getElem_cons_succ, List.getElem_cons_zero, Act.put, List.setIfInBounds_toArray, List.set_cons_zero, List.set_cons_succ]
    refine wpAnyH_ready (rs := [9]) (by kernel_rfl) (by simp) (AllReadyH.cons rfl (fun K hK => ?_) AllReadyH.nil)
    go_simp
    refine hK.out _ _ ⟨by go_simp, by go_simp, by go_simp, by go_simp, by go_simp, by go_simp, by go_simp, by go_simp⟩ (fun hh => ?_)
    have HH' := Lib.hid hh
    clear hh hK K HH
    have HH := Lib.hid HH'.out
    clear HH'
    refine wpAnyH_take (i := 10) (v := ?vQ1310) rfl (by kernel_rfl) (by kernel_rfl) (by kernel_rfl) (fun _ _ _ h => h) (Or.inl ⟨by rfl, fun w' _ => ?yQ1310⟩) HH.out ?_
    case yQ1310 => (go_simp; try with_reducible rfl)
    try simp only [List.getElem_toArray, List.getElem_cons_succ, List.getElem_cons_zero, Act.put, List.setIfInBounds_toArray, List.set_cons_zero, List.set_cons_succ]
    try simp only [List.getElem_toArray, List.getElem_cons_succ, List.getElem_cons_zero, Act.put, List.setIfInBounds_toArray, List.set_cons_zero, List.set_cons_succ]
    refine wpAnyH_ready (rs := [11]) (by kernel_rfl) (by simp) (AllReadyH.cons rfl (fun K hK => ?_) AllReadyH.nil)
    go_simp
    refine hK.out _ _ ⟨by go_simp, by go_simp, by go_simp, by go_simp, by go_simp, by go_simp, by go_simp, by go_simp⟩ (fun hh => ?_)
    have HH' := Lib.hid hh
    clear hh hK K HH
    have HH := Lib.hid HH'.out
    clear HH'
    refine wpAnyH_take (i := 12) (v := ?vQ1312) rfl (by kernel_rfl) (by kernel_rfl) (by kernel_rfl) (fun _ _ _ h => h) (Or.inl ⟨by rfl, fun w' _ => ?yQ1312⟩) HH.out ?_
    case yQ1312 => (go_simp; try with_reducible rfl)
    try simp only [List.getElem_toArray, List.getElem_cons_succ, List.getElem_cons_zero, Act.put, List.setIfInBounds_toArray, List.set_cons_zero, List.set_cons_succ]
    refine wpAnyH_ready (rs := [13]) (by kernel_rfl) (by simp) (AllReadyH.cons rfl (fun K hK => ?_) AllReadyH.nil)
    go_simp
    refine hK.out _ _ ⟨by go_simp, by go_simp, by go_simp, by go_simp, by go_simp, by go_simp, by go_simp, by go_simp⟩ (fun hh => ?_)
    have HH' := Lib.hid hh
    clear hh hK K HH
    have HH := Lib.hid HH'.out
    clear HH'
    try simp only [List.getElem_toArray, List.getElem_cons_succ, List.getElem_cons_zero, Act.put, List.setIfInBounds_toArray, List.set_cons_zero, List.set_cons_succ]
    refine wpAnyH_take (i := 14) (v := ?vQ1314) rfl (by kernel_rfl) (by kernel_rfl) (by kernel_rfl) (fun _ _ _ h => h) (Or.inl ⟨by rfl, fun w' _ => ?yQ1314⟩) HH.out ?_
    case yQ1314 => (go_simp; try with_reducible rfl)
    try simp only [List.getElem_toArray, List.getElem_cons_succ, List.getElem_cons_zero, Act.put, List.setIfInBounds_toArray, List.set_cons_zero, List.set_cons_succ]
    refine wpAnyH_ready (rs := [15]) (by kernel_rfl) (by simp) (AllReadyH.cons rfl (fun K hK => ?_) AllReadyH.nil)
    go_simp
    refine hK.out _ _ ⟨by go_simp, by go_simp, by go_simp, by go_simp, by go_simp, by go_simp, by go_simp, by go_simp⟩ (fun hh => ?_)
    have HH' := Lib.hid hh
    clear hh hK K HH
    have HH := Lib.hid HH'.out
    clear HH'
    try simp only [List.getElem_toArray, List.getElem_cons_succ, List.getElem_cons_zero, Act.put, List.setIfInBounds_toArray, List.set_cons_zero, List.set_cons_succ]
    refine wpAnyH_done (by kernel_rfl) ?_ _
    go_wp2_with fail
    try any_goals (
      refine (cminute_any _ _).mono ?_
      rintro e w' ⟨rfl, rfl⟩
      by_cases hc2 : 0 ≤ fr ∧ fr ≤ 1073741824
      · rw [decide_eq_true hc2]
        go_wp2_with fail
        try any_goals (
          refine (cminute_any _ _).mono ?_
          rintro e w' ⟨rfl, rfl⟩
          by_cases hc4 : 0 ≤ tl ∧ tl ≤ 1073741824
          · rw [decide_eq_true hc4]
            go_wp2_with fail
            try any_goals (
              refine (cminute_any _ _).mono ?_
              rintro e w' ⟨rfl, rfl⟩
              by_cases hc6 : 0 ≤ un ∧ un ≤ 1073741824
              · rw [decide_eq_true hc6]
                go_wp2_with fail
                try any_goals (
                  refine (csame_any ⟨6, nm, mn, br, vl, bk, rf, fr, tl, un, bd⟩ ⟨6, nm, mn, 0, 0, 0, rf, fr, tl, un, []⟩ A none c 0 _ (HRD.out.below (by first | exact bel2 _ _ _ | exact (bel2 _ _ _).drew | exact bel3 _ _ _ _ | exact (bel3 _ _ _ _).drew | exact (bel4 _ _ _ _ _).drew | exact (bel2 _ _ _).drew.alloc (by simp <;> omega) _ | exact ((bel2 _ _ _).drew.alloc (by simp <;> omega) _).drew)) (Rd.none) (by simp <;> omega)).mono ?_
                  rintro e w' ⟨rfl, bw⟩
                  go_wp2_with fail
                  go_ret
                  refine ⟨ret_bool (bool_leaf HB.out ?_), (show Below w.heap.size w _ from (by first | exact bel2 _ _ _ | exact (bel2 _ _ _).drew | exact bel3 _ _ _ _ | exact (bel3 _ _ _ _).drew | exact (bel4 _ _ _ _ _).drew | exact (bel2 _ _ _).drew.alloc (by simp <;> omega) _ | exact ((bel2 _ _ _).drew.alloc (by simp <;> omega) _).drew)).trans (bw.mono (by simp <;> omega))⟩
                  try simp only [decide_eq_true_eq, ← List.length_eq_zero_iff] at *
                  unfold kindOk thereC elderC noS noP minC
                  try simp only
                  first | omega | (simp only [Int.reduceEq, true_and, false_and, false_or, or_false, Bool.and_eq_true, decide_eq_true_eq, ne_eq]; first | omega | (constructor <;> intro hz <;> omega)) | (simp; omega) | (simp_all; done) | (simp_all; omega))
                all_goals go_ret
                all_goals exact ⟨ret_bool (bool_leaf HB.out (by (try simp only [beq_iff_eq, beq_eq_false_iff_ne, ne_eq] at *); unfold kindOk thereC elderC noS noP minC; (try simp only [Int.reduceEq, true_and, false_and, false_or, or_false]); first | omega | (simp; done) | (simp; omega) | (simp_all; done) | (simp_all; omega))), (by first | exact bel2 _ _ _ | exact (bel2 _ _ _).drew | exact bel3 _ _ _ _ | exact (bel3 _ _ _ _).drew | exact (bel4 _ _ _ _ _).drew | exact (bel2 _ _ _).drew.alloc (by simp <;> omega) _ | exact ((bel2 _ _ _).drew.alloc (by simp <;> omega) _).drew)⟩
              · rw [decide_eq_false hc6]
                go_wp2_with fail
                all_goals go_ret
                all_goals exact ⟨ret_bool (bool_leaf HB.out (by (try simp only [beq_iff_eq, beq_eq_false_iff_ne, ne_eq] at *); unfold kindOk thereC elderC noS noP minC; (try simp only [Int.reduceEq, true_and, false_and, false_or, or_false]); first | omega | (simp; done) | (simp; omega) | (simp_all; done) | (simp_all; omega))), (by first | exact bel2 _ _ _ | exact (bel2 _ _ _).drew | exact bel3 _ _ _ _ | exact (bel3 _ _ _ _).drew | exact (bel4 _ _ _ _ _).drew | exact (bel2 _ _ _).drew.alloc (by simp <;> omega) _ | exact ((bel2 _ _ _).drew.alloc (by simp <;> omega) _).drew)⟩)
            all_goals go_ret
            all_goals exact ⟨ret_bool (bool_leaf HB.out (by (try simp only [beq_iff_eq, beq_eq_false_iff_ne, ne_eq] at *); unfold kindOk thereC elderC noS noP minC; (try simp only [Int.reduceEq, true_and, false_and, false_or, or_false]); first | omega | (simp; done) | (simp; omega) | (simp_all; done) | (simp_all; omega))), (by first | exact bel2 _ _ _ | exact (bel2 _ _ _).drew | exact bel3 _ _ _ _ | exact (bel3 _ _ _ _).drew | exact (bel4 _ _ _ _ _).drew | exact (bel2 _ _ _).drew.alloc (by simp <;> omega) _ | exact ((bel2 _ _ _).drew.alloc (by simp <;> omega) _).drew)⟩
          · rw [decide_eq_false hc4]
            go_wp2_with fail
            all_goals go_ret
            all_goals exact ⟨ret_bool (bool_leaf HB.out (by (try simp only [beq_iff_eq, beq_eq_false_iff_ne, ne_eq] at *); unfold kindOk thereC elderC noS noP minC; (try simp only [Int.reduceEq, true_and, false_and, false_or, or_false]); first | omega | (simp; done) | (simp; omega) | (simp_all; done) | (simp_all; omega))), (by first | exact bel2 _ _ _ | exact (bel2 _ _ _).drew | exact bel3 _ _ _ _ | exact (bel3 _ _ _ _).drew | exact (bel4 _ _ _ _ _).drew | exact (bel2 _ _ _).drew.alloc (by simp <;> omega) _ | exact ((bel2 _ _ _).drew.alloc (by simp <;> omega) _).drew)⟩)
        all_goals go_ret
        all_goals exact ⟨ret_bool (bool_leaf HB.out (by (try simp only [beq_iff_eq, beq_eq_false_iff_ne, ne_eq] at *); unfold kindOk thereC elderC noS noP minC; (try simp only [Int.reduceEq, true_and, false_and, false_or, or_false]); first | omega | (simp; done) | (simp; omega) | (simp_all; done) | (simp_all; omega))), (by first | exact bel2 _ _ _ | exact (bel2 _ _ _).drew | exact bel3 _ _ _ _ | exact (bel3 _ _ _ _).drew | exact (bel4 _ _ _ _ _).drew | exact (bel2 _ _ _).drew.alloc (by simp <;> omega) _ | exact ((bel2 _ _ _).drew.alloc (by simp <;> omega) _).drew)⟩
      · rw [decide_eq_false hc2]
        go_wp2_with fail
        all_goals go_ret
        all_goals exact ⟨ret_bool (bool_leaf HB.out (by (try simp only [beq_iff_eq, beq_eq_false_iff_ne, ne_eq] at *); unfold kindOk thereC elderC noS noP minC; (try simp only [Int.reduceEq, true_and, false_and, false_or, or_false]); first | omega | (simp; done) | (simp; omega) | (simp_all; done) | (simp_all; omega))), (by first | exact bel2 _ _ _ | exact (bel2 _ _ _).drew | exact bel3 _ _ _ _ | exact (bel3 _ _ _ _).drew | exact (bel4 _ _ _ _ _).drew | exact (bel2 _ _ _).drew.alloc (by simp <;> omega) _ | exact ((bel2 _ _ _).drew.alloc (by simp <;> omega) _).drew)⟩)
    all_goals go_ret
    all_goals exact ⟨ret_bool (bool_leaf HB.out (by (try simp only [beq_iff_eq, beq_eq_false_iff_ne, ne_eq] at *); unfold kindOk thereC elderC noS noP minC; (try simp only [Int.reduceEq, true_and, false_and, false_or, or_false]); first | omega | (simp; done) | (simp; omega) | (simp_all; done) | (simp_all; omega))), (by first | exact bel2 _ _ _ | exact (bel2 _ _ _).drew | exact bel3 _ _ _ _ | exact (bel3 _ _ _ _).drew | exact (bel4 _ _ _ _ _).drew | exact (bel2 _ _ _).drew.alloc (by simp <;> omega) _ | exact ((bel2 _ _ _).drew.alloc (by simp <;> omega) _).drew)⟩
  · have e3 : decide ((rf : Int) ≥ 1) = false := decide_eq_false (by omega)
    go_enter Try.func20, Try.ntmps20
    go_wp2_with fail
    refine (cminute_any _ _).mono ?_
    rintro e w' ⟨rfl, rfl⟩
    rw [decide_eq_true g1]
    go_upto_region 23 with fail
    refine wp_region_held_drew (S := (fun w' => w'.cell? ⟨w.heap.size, 3, none⟩ = some (.int .i64 br) ∧ w'.cell? ⟨w.heap.size, 4, none⟩ = some (.int .i64 vl) ∧ w'.cell? ⟨w.heap.size, 5, none⟩ = some (.int .i64 bk) ∧ w'.cell? ⟨w.heap.size, 6, none⟩ = some (.int .u64 rf) ∧ w'.cell? ⟨w.heap.size, 7, none⟩ = some (.int .i64 fr) ∧ w'.cell? ⟨w.heap.size, 8, none⟩ = some (.int .i64 tl) ∧ w'.cell? ⟨w.heap.size, 9, none⟩ = some (.int .i64 un) ∧ w'.cell? ⟨w.heap.size, 10, none⟩ = some (.slice A bd.length c))) (by kernel_rfl) ⟨by go_simp, by go_simp, by go_simp, by go_simp, by go_simp, by go_simp, by go_simp, by go_simp⟩ (fun hh => ?_)
    have HH := Lib.hid hh
    clear hh
    refine wpAnyH_take (i := 0) (v := ?vQ140) rfl (by kernel_rfl) (by kernel_rfl) (by kernel_rfl) (fun _ _ _ h => h) (Or.inl ⟨by rfl, fun w' _ => ?yQ140⟩) HH.out ?_
    case yQ140 => (go_simp; try with_reducible rfl)
    try simp only [List.getElem_toArray, List.getElem_cons_zero, Act.put, List.setIfInBounds_toArray, List.set_cons_zero, List.set_cons_succ]
    refine wpAnyH_take (i := 1) (v := .int .u64 rf) rfl (by kernel_rfl) (by kernel_rfl) (by kernel_rfl) (fun _ _ _ h => h) (Or.inl ⟨by rfl, fun w' hw' => ?yQ141⟩) HH.out ?_
    case yQ141 => (have hc := hw'.2.2.2.1; go_simp; try with_reducible rfl)
    try simp only [List.getElem_toArray, List.getElem_cons_succ, List.getElem_cons_zero, Act.put, List.setIfInBounds_toArray, List.set_cons_zero, List.set_cons_succ]
    refine wpAnyH_take (i := 2) (v := ?vQ142) rfl (by kernel_rfl) (by kernel_rfl) (by kernel_rfl) (fun _ _ _ h => h) (Or.inl ⟨by rfl, fun w' _ => ?yQ142⟩) HH.out ?_
    case yQ142 => (go_simp; try with_reducible rfl)
    try simp only [List.getElem_toArray, List.getElem_cons_succ, List.getElem_cons_zero, Act.put, List.setIfInBounds_toArray, List.set_cons_zero, List.set_cons_succ]
    refine wpAnyH_take (i := 3) (v := .int .i64 fr) rfl (by kernel_rfl) (by kernel_rfl) (by kernel_rfl) (fun _ _ _ h => h) (Or.inl ⟨by rfl, fun w' hw' => ?yQ143⟩) HH.out ?_
    case yQ143 => (have hc := hw'.2.2.2.2.1; go_simp; try with_reducible rfl)
    refine wpAnyH_take (i := 4) (v := ?vQ144) rfl (by kernel_rfl) (by kernel_rfl) (by kernel_rfl) (fun _ _ _ h => h) (Or.inl ⟨by rfl, fun w' _ => ?yQ144⟩) HH.out ?_
    case yQ144 => (go_simp; try with_reducible rfl)
    try simp only [List.getElem_toArray, List.getElem_cons_succ, List.getElem_cons_zero, Act.put, List.setIfInBounds_toArray, List.set_cons_zero, List.set_cons_succ]
    try simp only [List.getElem_toArray, List.getElem_cons_succ, List.getElem_cons_zero, Act.put, List.setIfInBounds_toArray, List.set_cons_zero, List.set_cons_succ]
    refine wpAnyH_take (i := 5) (v := .int .i64 tl) rfl (by kernel_rfl) (by kernel_rfl) (by kernel_rfl) (fun _ _ _ h => h) (Or.inl ⟨by rfl, fun w' hw' => ?yQ145⟩) HH.out ?_
    case yQ145 => (have hc := hw'.2.2.2.2.2.1; go_simp; try with_reducible rfl)
    refine wpAnyH_take (i := 6) (v := ?vQ146) rfl (by kernel_rfl) (by kernel_rfl) (by kernel_rfl) (fun _ _ _ h => h) (Or.inl ⟨by rfl, fun w' _ => ?yQ146⟩) HH.out ?_
    case yQ146 => (go_simp; try with_reducible rfl)
    try simp only [List.getElem_toArray, List.getElem_cons_succ, List.getElem_cons_zero, Act.put, List.setIfInBounds_toArray, List.set_cons_zero, List.set_cons_succ]
    refine wpAnyH_take (i := 7) (v := .int .i64 un) rfl (by kernel_rfl) (by kernel_rfl) (by kernel_rfl) (fun _ _ _ h => h) (Or.inl ⟨by rfl, fun w' hw' => ?yQ147⟩) HH.out ?_
    case yQ147 => (have hc := hw'.2.2.2.2.2.2.1; go_simp; try with_reducible rfl)
    try simp only [List.getElem_toArray, List.getElem_cons_succ, List.getElem_cons_zero, Act.put, List.setIfInBounds_toArray, List.set_cons_zero, List.set_cons_succ]
    refine wpAnyH_take (i := 8) (v := ?vQ148) rfl (by kernel_rfl) (by kernel_rfl) (by kernel_rfl) (fun _ _ _ h => h) (Or.inl ⟨by rfl, fun w' _ => ?yQ148⟩) HH.out ?_
    case yQ148 => (go_simp; try with_reducible rfl)
    try simp only [List.getElem_toArray, List.getElem_cons_succ, List.getElem_cons_zero, Act.put, List.setIfInBounds_toArray, List.set_cons_zero, List.set_cons_succ]
    refine wpAnyH_ready (rs := [9]) (by kernel_rfl) (by simp) (AllReadyH.cons rfl (fun K hK => ?_) AllReadyH.nil)
    go_simp
    refine hK.out _ _ ⟨by go_simp, by go_simp, by go_simp, by go_simp, by go_simp, by go_simp, by go_simp, by go_simp⟩ (fun hh => ?_)
    have HH' := Lib.hid hh
    clear hh hK K HH
    have HH := Lib.hid HH'.out
    clear HH'
    refine wpAnyH_take (i := 10) (v := ?vQ1410) rfl (by kernel_rfl) (by kernel_rfl) (by kernel_rfl) (fun _ _ _ h => h) (Or.inl ⟨by rfl, fun w' _ => ?yQ1410⟩) HH.out ?_
    case yQ1410 => (go_simp; try with_reducible rfl)
    try simp only [List.getElem_toArray, List.getElem_cons_succ, List.getElem_cons_zero, Act.put, List.setIfInBounds_toArray, List.set_cons_zero, List.set_cons_succ]
    try simp only [List.getElem_toArray, List.getElem_cons_succ, List.getElem_cons_zero, Act.put, List.setIfInBounds_toArray, List.set_cons_zero, List.set_cons_succ]
    refine wpAnyH_ready (rs := [11]) (by kernel_rfl) (by simp) (AllReadyH.cons rfl (fun K hK => ?_) AllReadyH.nil)
    go_simp
    refine hK.out _ _ ⟨by go_simp, by go_simp, by go_simp, by go_simp, by go_simp, by go_simp, by go_simp, by go_simp⟩ (fun hh => ?_)
    have HH' := Lib.hid hh
    clear hh hK K HH
    have HH := Lib.hid HH'.out
    clear HH'
    refine wpAnyH_take (i := 12) (v := ?vQ1412) rfl (by kernel_rfl) (by kernel_rfl) (by kernel_rfl) (fun _ _ _ h => h) (Or.inl ⟨by rfl, fun w' _ => ?yQ1412⟩) HH.out ?_
    case yQ1412 => (go_simp; try with_reducible rfl)
    try simp only [List.getElem_toArray, List.getElem_cons_succ, List.getElem_cons_zero, Act.put, List.setIfInBounds_toArray, List.set_cons_zero, List.set_cons_succ]
    refine wpAnyH_ready (rs := [13]) (by kernel_rfl) (by simp) (AllReadyH.cons rfl (fun K hK => ?_) AllReadyH.nil)
    go_simp
    refine hK.out _ _ ⟨by go_simp, by go_simp, by go_simp, by go_simp, by go_simp, by go_simp, by go_simp, by go_simp⟩ (fun hh => ?_)
    have HH' := Lib.hid hh
    clear hh hK K HH
    have HH := Lib.hid HH'.out
    clear HH'
    try simp only [List.getElem_toArray, List.getElem_cons_succ, List.getElem_cons_zero, Act.put, List.setIfInBounds_toArray, List.set_cons_zero, List.set_cons_succ]
    refine wpAnyH_take (i := 14) (v := ?vQ1414) rfl (by kernel_rfl) (by kernel_rfl) (by kernel_rfl) (fun _ _ _ h => h) (Or.inl ⟨by rfl, fun w' _ => ?yQ1414⟩) HH.out ?_
    case yQ1414 => (go_simp; try with_reducible rfl)
    try simp only [List.getElem_toArray, List.getElem_cons_succ, List.getElem_cons_zero, Act.put, List.setIfInBounds_toArray, List.set_cons_zero, List.set_cons_succ]
    refine wpAnyH_ready (rs := [15]) (by kernel_rfl) (by simp) (AllReadyH.cons rfl (fun K hK => ?_) AllReadyH.nil)
    go_simp
    refine hK.out _ _ ⟨by go_simp, by go_simp, by go_simp, by go_simp, by go_simp, by go_simp, by go_simp, by go_simp⟩ (fun hh => ?_)
    have HH' := Lib.hid hh
    clear hh hK K HH
    have HH := Lib.hid HH'.out
    clear HH'
    try simp only [List.getElem_toArray, List.getElem_cons_succ, List.getElem_cons_zero, Act.put, List.setIfInBounds_toArray, List.set_cons_zero, List.set_cons_succ]
    refine wpAnyH_done (by kernel_rfl) ?_ _
    go_wp2_with fail
    try any_goals (
      refine (cminute_any _ _).mono ?_
      rintro e w' ⟨rfl, rfl⟩
      by_cases hc2 : 0 ≤ fr ∧ fr ≤ 1073741824
      · rw [decide_eq_true hc2]
        go_wp2_with fail
        try any_goals (
          refine (cminute_any _ _).mono ?_
          rintro e w' ⟨rfl, rfl⟩
          by_cases hc4 : 0 ≤ tl ∧ tl ≤ 1073741824
          · rw [decide_eq_true hc4]
            go_wp2_with fail
            try any_goals (
              refine (cminute_any _ _).mono ?_
              rintro e w' ⟨rfl, rfl⟩
              by_cases hc6 : 0 ≤ un ∧ un ≤ 1073741824
              · rw [decide_eq_true hc6]
                go_wp2_with fail
                try any_goals (
                  refine (csame_any ⟨6, nm, mn, br, vl, bk, rf, fr, tl, un, bd⟩ ⟨6, nm, mn, 0, 0, 0, rf, fr, tl, un, []⟩ A none c 0 _ (HRD.out.below (by first | exact bel2 _ _ _ | exact (bel2 _ _ _).drew | exact bel3 _ _ _ _ | exact (bel3 _ _ _ _).drew | exact (bel4 _ _ _ _ _).drew | exact (bel2 _ _ _).drew.alloc (by simp <;> omega) _ | exact ((bel2 _ _ _).drew.alloc (by simp <;> omega) _).drew)) (Rd.none) (by simp <;> omega)).mono ?_
                  rintro e w' ⟨rfl, bw⟩
                  go_wp2_with fail
                  go_ret
                  refine ⟨ret_bool (bool_leaf HB.out ?_), (show Below w.heap.size w _ from (by first | exact bel2 _ _ _ | exact (bel2 _ _ _).drew | exact bel3 _ _ _ _ | exact (bel3 _ _ _ _).drew | exact (bel4 _ _ _ _ _).drew | exact (bel2 _ _ _).drew.alloc (by simp <;> omega) _ | exact ((bel2 _ _ _).drew.alloc (by simp <;> omega) _).drew)).trans (bw.mono (by simp <;> omega))⟩
                  try simp only [Cl.mk.injEq, beq_iff_eq, beq_eq_false_iff_ne, ne_eq, decide_eq_true_eq, ← List.length_eq_zero_iff] at *
                  unfold kindOk thereC elderC noS noP minC
                  try simp only
                  first | omega | (simp only [Int.reduceEq, true_and, false_and, false_or, or_false, Bool.and_eq_true, decide_eq_true_eq, bne_iff_ne, ne_eq]; first | omega | (constructor <;> intro hz <;> omega)) | (simp; omega) | (simp_all; done) | (simp_all; omega))
                all_goals go_ret
                all_goals exact ⟨ret_bool (bool_leaf HB.out (by (try simp only [beq_iff_eq, beq_eq_false_iff_ne, ne_eq] at *); unfold kindOk thereC elderC noS noP minC; (try simp only [Int.reduceEq, true_and, false_and, false_or, or_false]); first | omega | (simp; done) | (simp; omega) | (simp_all; done) | (simp_all; omega))), (by first | exact bel2 _ _ _ | exact (bel2 _ _ _).drew | exact bel3 _ _ _ _ | exact (bel3 _ _ _ _).drew | exact (bel4 _ _ _ _ _).drew | exact (bel2 _ _ _).drew.alloc (by simp <;> omega) _ | exact ((bel2 _ _ _).drew.alloc (by simp <;> omega) _).drew)⟩
              · rw [decide_eq_false hc6]
                go_wp2_with fail
                all_goals go_ret
                all_goals exact ⟨ret_bool (bool_leaf HB.out (by (try simp only [beq_iff_eq, beq_eq_false_iff_ne, ne_eq] at *); unfold kindOk thereC elderC noS noP minC; (try simp only [Int.reduceEq, true_and, false_and, false_or, or_false]); first | omega | (simp; done) | (simp; omega) | (simp_all; done) | (simp_all; omega))), (by first | exact bel2 _ _ _ | exact (bel2 _ _ _).drew | exact bel3 _ _ _ _ | exact (bel3 _ _ _ _).drew | exact (bel4 _ _ _ _ _).drew | exact (bel2 _ _ _).drew.alloc (by simp <;> omega) _ | exact ((bel2 _ _ _).drew.alloc (by simp <;> omega) _).drew)⟩)
            all_goals go_ret
            all_goals exact ⟨ret_bool (bool_leaf HB.out (by (try simp only [beq_iff_eq, beq_eq_false_iff_ne, ne_eq] at *); unfold kindOk thereC elderC noS noP minC; (try simp only [Int.reduceEq, true_and, false_and, false_or, or_false]); first | omega | (simp; done) | (simp; omega) | (simp_all; done) | (simp_all; omega))), (by first | exact bel2 _ _ _ | exact (bel2 _ _ _).drew | exact bel3 _ _ _ _ | exact (bel3 _ _ _ _).drew | exact (bel4 _ _ _ _ _).drew | exact (bel2 _ _ _).drew.alloc (by simp <;> omega) _ | exact ((bel2 _ _ _).drew.alloc (by simp <;> omega) _).drew)⟩
          · rw [decide_eq_false hc4]
            go_wp2_with fail
            all_goals go_ret
            all_goals exact ⟨ret_bool (bool_leaf HB.out (by (try simp only [beq_iff_eq, beq_eq_false_iff_ne, ne_eq] at *); unfold kindOk thereC elderC noS noP minC; (try simp only [Int.reduceEq, true_and, false_and, false_or, or_false]); first | omega | (simp; done) | (simp; omega) | (simp_all; done) | (simp_all; omega))), (by first | exact bel2 _ _ _ | exact (bel2 _ _ _).drew | exact bel3 _ _ _ _ | exact (bel3 _ _ _ _).drew | exact (bel4 _ _ _ _ _).drew | exact (bel2 _ _ _).drew.alloc (by simp <;> omega) _ | exact ((bel2 _ _ _).drew.alloc (by simp <;> omega) _).drew)⟩)
        all_goals go_ret
        all_goals exact ⟨ret_bool (bool_leaf HB.out (by (try simp only [beq_iff_eq, beq_eq_false_iff_ne, ne_eq] at *); unfold kindOk thereC elderC noS noP minC; (try simp only [Int.reduceEq, true_and, false_and, false_or, or_false]); first | omega | (simp; done) | (simp; omega) | (simp_all; done) | (simp_all; omega))), (by first | exact bel2 _ _ _ | exact (bel2 _ _ _).drew | exact bel3 _ _ _ _ | exact (bel3 _ _ _ _).drew | exact (bel4 _ _ _ _ _).drew | exact (bel2 _ _ _).drew.alloc (by simp <;> omega) _ | exact ((bel2 _ _ _).drew.alloc (by simp <;> omega) _).drew)⟩
      · rw [decide_eq_false hc2]
        go_wp2_with fail
        all_goals go_ret
        all_goals exact ⟨ret_bool (bool_leaf HB.out (by (try simp only [beq_iff_eq, beq_eq_false_iff_ne, ne_eq] at *); unfold kindOk thereC elderC noS noP minC; (try simp only [Int.reduceEq, true_and, false_and, false_or, or_false]); first | omega | (simp; done) | (simp; omega) | (simp_all; done) | (simp_all; omega))), (by first | exact bel2 _ _ _ | exact (bel2 _ _ _).drew | exact bel3 _ _ _ _ | exact (bel3 _ _ _ _).drew | exact (bel4 _ _ _ _ _).drew | exact (bel2 _ _ _).drew.alloc (by simp <;> omega) _ | exact ((bel2 _ _ _).drew.alloc (by simp <;> omega) _).drew)⟩)
    all_goals go_ret
    all_goals exact ⟨ret_bool (bool_leaf HB.out (by (try simp only [beq_iff_eq, beq_eq_false_iff_ne, ne_eq] at *); unfold kindOk thereC elderC noS noP minC; (try simp only [Int.reduceEq, true_and, false_and, false_or, or_false]); first | omega | (simp; done) | (simp; omega) | (simp_all; done) | (simp_all; omega))), (by first | exact bel2 _ _ _ | exact (bel2 _ _ _).drew | exact bel3 _ _ _ _ | exact (bel3 _ _ _ _).drew | exact (bel4 _ _ _ _ _).drew | exact (bel2 _ _ _).drew.alloc (by simp <;> omega) _ | exact ((bel2 _ _ _).drew.alloc (by simp <;> omega) _).drew)⟩
set_option maxRecDepth 100000 in
set_option maxHeartbeats 6400000 in
theorem cright8 (nm : Nat) (mn br vl bk : Int) (rf : Nat) (fr tl un : Int) (bd : List UInt8) (A : Option Addr) (c : Nat) (w : World) (h1 : 1 ≤ nm) (h2 : nm ≤ 65535) (g1 : 0 ≤ mn ∧ mn ≤ 1073741824) (hr : Rd w.heap.size w A (bv bd)) :
    Calls Try.prog 20 #[.agg #[.int .i64 8, .int .u64 nm, .int .i64 mn, .int .i64 br, .int .i64 vl, .int .i64 bk, .int .u64 rf, .int .i64 fr, .int .i64 tl, .int .i64 un, .slice A bd.length c]] w (RetB (.bool (decide (kindOk ⟨8, nm, mn, br, vl, bk, rf, fr, tl, un, bd⟩))) w) := by
  obtain ⟨q, hq⟩ : ∃ q, q = decide (kindOk ⟨8, nm, mn, br, vl, bk, rf, fr, tl, un, bd⟩) := ⟨_, rfl⟩
  rw [← hq]
  have HB := Lib.hid hq
  have HRD := Lib.hid hr
  clear hq hr
  have d1 : decide ((nm : Int) < 1) = false := decide_eq_false (by omega)
  have d2 : decide ((65535 : Int) < (nm : Int)) = false := decide_eq_false (by omega)
  by_cases g3 : 1 ≤ rf
  · have e3 : decide ((rf : Int) ≥ 1) = true := decide_eq_true (by omega)
    go_enter Try.func20, Try.ntmps20
    go_wp2_with fail
    refine (cminute_any _ _).mono ?_
    rintro e w' ⟨rfl, rfl⟩
    rw [decide_eq_true g1]
    go_wp2_with fail
    try any_goals (
      refine (csame_any ⟨8, nm, mn, br, vl, bk, rf, fr, tl, un, bd⟩ ⟨8, nm, mn, 0, 0, 0, 0, 0, 0, 0, []⟩ A none c 0 _ (HRD.out.below (by first | exact bel2 _ _ _ | exact (bel2 _ _ _).drew | exact bel3 _ _ _ _ | exact (bel3 _ _ _ _).drew | exact (bel4 _ _ _ _ _).drew | exact (bel2 _ _ _).drew.alloc (by simp <;> omega) _ | exact ((bel2 _ _ _).drew.alloc (by simp <;> omega) _).drew)) (Rd.none) (by simp <;> omega)).mono ?_
      rintro e w' ⟨rfl, bw⟩
      go_wp2_with fail
      go_ret
      refine ⟨ret_bool (bool_leaf HB.out ?_), (show Below w.heap.size w _ from (by first | exact bel2 _ _ _ | exact (bel2 _ _ _).drew | exact bel3 _ _ _ _ | exact (bel3 _ _ _ _).drew | exact (bel4 _ _ _ _ _).drew | exact (bel2 _ _ _).drew.alloc (by simp <;> omega) _ | exact ((bel2 _ _ _).drew.alloc (by simp <;> omega) _).drew)).trans (bw.mono (by simp <;> omega))⟩
      try simp only [decide_eq_true_eq, ← List.length_eq_zero_iff] at *
      unfold kindOk thereC elderC noS noP minC
      try simp only
      first | omega | (simp only [Int.reduceEq, true_and, false_and, false_or, Bool.and_eq_true, decide_eq_true_eq, ne_eq]; first | omega | (constructor <;> intro hz <;> omega)) | (simp; omega) | (simp_all; done) | (simp_all; omega))
    all_goals go_ret
    all_goals exact ⟨ret_bool (bool_leaf HB.out (by (try simp only [beq_iff_eq, beq_eq_false_iff_ne, ne_eq] at *); unfold kindOk thereC elderC noS noP minC; (try simp only [Int.reduceEq, true_and, false_and, false_or, or_false]); first | omega | (simp; done) | (simp; omega) | (simp_all; done) | (simp_all; omega))), (by first | exact bel2 _ _ _ | exact (bel2 _ _ _).drew | exact bel3 _ _ _ _ | exact (bel3 _ _ _ _).drew | exact (bel4 _ _ _ _ _).drew | exact (bel2 _ _ _).drew.alloc (by simp <;> omega) _ | exact ((bel2 _ _ _).drew.alloc (by simp <;> omega) _).drew)⟩
  · have e3 : decide ((rf : Int) ≥ 1) = false := decide_eq_false (by omega)
    go_enter Try.func20, Try.ntmps20
    go_wp2_with fail
    refine (cminute_any _ _).mono ?_
    rintro e w' ⟨rfl, rfl⟩
    rw [decide_eq_true g1]
    go_wp2_with fail
    try any_goals (
      refine (csame_any ⟨8, nm, mn, br, vl, bk, rf, fr, tl, un, bd⟩ ⟨8, nm, mn, 0, 0, 0, 0, 0, 0, 0, []⟩ A none c 0 _ (HRD.out.below (by first | exact bel2 _ _ _ | exact (bel2 _ _ _).drew | exact bel3 _ _ _ _ | exact (bel3 _ _ _ _).drew | exact (bel4 _ _ _ _ _).drew | exact (bel2 _ _ _).drew.alloc (by simp <;> omega) _ | exact ((bel2 _ _ _).drew.alloc (by simp <;> omega) _).drew)) (Rd.none) (by simp <;> omega)).mono ?_
      rintro e w' ⟨rfl, bw⟩
      go_wp2_with fail
      go_ret
      refine ⟨ret_bool (bool_leaf HB.out ?_), (show Below w.heap.size w _ from (by first | exact bel2 _ _ _ | exact (bel2 _ _ _).drew | exact bel3 _ _ _ _ | exact (bel3 _ _ _ _).drew | exact (bel4 _ _ _ _ _).drew | exact (bel2 _ _ _).drew.alloc (by simp <;> omega) _ | exact ((bel2 _ _ _).drew.alloc (by simp <;> omega) _).drew)).trans (bw.mono (by simp <;> omega))⟩
      try simp only [← List.length_eq_zero_iff] at *
      unfold kindOk thereC elderC noS noP minC
      try simp only
      first | omega | (simp only [Int.reduceEq, true_and, false_and, false_or, Bool.and_eq_true, decide_eq_true_eq, ne_eq]; first | omega | (constructor <;> intro hz <;> omega)) | (simp; omega) | (simp_all; done) | (simp_all; omega))
    all_goals go_ret
    all_goals exact ⟨ret_bool (bool_leaf HB.out (by (try simp only [beq_iff_eq, beq_eq_false_iff_ne, ne_eq] at *); unfold kindOk thereC elderC noS noP minC; (try simp only [Int.reduceEq, true_and, false_and, false_or, or_false]); first | omega | (simp; done) | (simp; omega) | (simp_all; done) | (simp_all; omega))), (by first | exact bel2 _ _ _ | exact (bel2 _ _ _).drew | exact bel3 _ _ _ _ | exact (bel3 _ _ _ _).drew | exact (bel4 _ _ _ _ _).drew | exact (bel2 _ _ _).drew.alloc (by simp <;> omega) _ | exact ((bel2 _ _ _).drew.alloc (by simp <;> omega) _).drew)⟩
end Go.Proofs.Ythdmdlnndbjcoaa.Ce
/-
  Right, as the document's answer tells it: whether a cell may be; which fields a kind has.
-/
namespace Go.Proofs.Ythdmdlnndbjcoaa.Ce
open Go.RowKit
attribute [local go_sem ↓] Go.wp_at_zero Go.wp_at_succ
set_option maxRecDepth 100000 in
set_option maxHeartbeats 6400000 in
theorem cright_any {B : Nat} (x : Cl) (A : Option Addr) (c : Nat) (w : World) (hr0 : Rd B w A (bv x.body)) (hB : B ≤ w.heap.size) : Calls Try.prog 20 #[.agg (clA x A c)] w (RetB (.bool (decide (okCl x))) w) := by
  have hr := hr0.more hB
  clear hr0 hB
  obtain ⟨kd, nm, mn, br, vl, bk, rf, fr, tl, un, bd⟩ := x
  unfold clA
  simp only at hr ⊢
  obtain ⟨q, hq⟩ : ∃ q, q = decide (okCl ⟨kd, nm, mn, br, vl, bk, rf, fr, tl, un, bd⟩) := ⟨_, rfl⟩
  rw [← hq]
  by_cases h1 : 1 ≤ nm
  · by_cases h2 : nm ≤ 65535
    · by_cases g1 : 0 ≤ mn ∧ mn ≤ 1073741824
      · have HE : okCl ⟨kd, nm, mn, br, vl, bk, rf, fr, tl, un, bd⟩ ↔ kindOk ⟨kd, nm, mn, br, vl, bk, rf, fr, tl, un, bd⟩ := by
          unfold okCl minC
          exact ⟨fun h => h.2.2, fun h => ⟨⟨h1, h2⟩, g1, h⟩⟩
        by_cases h11 : kd = 1
        · subst h11
          rw [hq, decide_eq_decide.2 HE]
          exact cright1 nm mn br vl bk rf fr tl un bd A c w h1 h2 g1 hr
        by_cases h12 : kd = 2
        · subst h12
          rw [hq, decide_eq_decide.2 HE]
          exact cright2 nm mn br vl bk rf fr tl un bd A c w h1 h2 g1 hr
        by_cases h13 : kd = 3
        · subst h13
          rw [hq, decide_eq_decide.2 HE]
          exact cright3 nm mn br vl bk rf fr tl un bd A c w h1 h2 g1 hr
        by_cases h14 : kd = 4
        · subst h14
          rw [hq, decide_eq_decide.2 HE]
          exact cright4 nm mn br vl bk rf fr tl un bd A c w h1 h2 g1 hr
        by_cases h15 : kd = 5
        · subst h15
          rw [hq, decide_eq_decide.2 HE]
          exact cright5 nm mn br vl bk rf fr tl un bd A c w h1 h2 g1 hr
        by_cases h16 : kd = 6
        · subst h16
          rw [hq, decide_eq_decide.2 HE]
          exact cright6 nm mn br vl bk rf fr tl un bd A c w h1 h2 g1 hr
        by_cases h17 : kd = 7
        · subst h17
          rw [hq, decide_eq_decide.2 HE]
          exact cright7 nm mn br vl bk rf fr tl un bd A c w h1 h2 g1 hr
        by_cases h18 : kd = 8
        · subst h18
          rw [hq, decide_eq_decide.2 HE]
          exact cright8 nm mn br vl bk rf fr tl un bd A c w h1 h2 g1 hr
        have HN : ¬ kindOk ⟨kd, nm, mn, br, vl, bk, rf, fr, tl, un, bd⟩ := fun h => by unfold kindOk at h; simp only at h; omega
        have HQ := Lib.hid (hq.trans (decide_eq_false (fun h => HN (HE.1 h))))
        clear hq HE HN hr
        have e1 : (kd == 1) = false := by simpa using h11
        have e2 : (kd == 2) = false := by simpa using h12
        have e3 : (kd == 3) = false := by simpa using h13
        have e4 : (kd == 4) = false := by simpa using h14
        have e5 : (kd == 5) = false := by simpa using h15
        have e6 : (kd == 6) = false := by simpa using h16
        have e7 : (kd == 7) = false := by simpa using h17
        have e8 : (kd == 8) = false := by simpa using h18
        have d1 : decide ((nm : Int) < 1) = false := decide_eq_false (by omega)
        have d2 : decide ((65535 : Int) < (nm : Int)) = false := decide_eq_false (by omega)
        go_enter Try.func20, Try.ntmps20
        go_wp2_with fail
        refine (cminute_any _ _).mono ?_
        rintro e w' ⟨rfl, rfl⟩
        rw [decide_eq_true g1]
        go_wp2_with fail
        all_goals go_ret
        all_goals exact ⟨ret_bool HQ.out.symm, (by first | exact bel2 _ _ _ | exact bel1 _ _)⟩
      · have HB := Lib.hid hq
        clear hq hr
        have d1 : decide ((nm : Int) < 1) = false := decide_eq_false (by omega)
        have d2 : decide ((65535 : Int) < (nm : Int)) = false := decide_eq_false (by omega)
        go_enter Try.func20, Try.ntmps20
        go_wp2_with fail
        refine (cminute_any _ _).mono ?_
        rintro e w' ⟨rfl, rfl⟩
        rw [decide_eq_false g1]
        go_wp2_with fail
        go_ret
        exact ⟨ret_bool (HB.out.trans (decide_eq_false (fun h => by have h1 := h.1; have h2 := h.2.1; unfold minC at h2; simp only at h1 h2; omega))).symm, (by first | exact bel1 _ _ | exact bel2 _ _ _)⟩
    · have HB := Lib.hid hq
      clear hq hr
      have d1 : decide ((nm : Int) < 1) = false := decide_eq_false (by omega)
      have d2 : decide ((65535 : Int) < (nm : Int)) = true := decide_eq_true (by omega)
      go_enter Try.func20, Try.ntmps20
      go_wp2_with fail
      all_goals go_ret
      all_goals exact ⟨ret_bool (HB.out.trans (decide_eq_false (fun h => by have h1 := h.1; have h2 := h.2.1; unfold minC at h2; simp only at h1 h2; omega))).symm, (by first | exact bel1 _ _ | exact bel2 _ _ _)⟩
  · have HB := Lib.hid hq
    clear hq hr
    have d1 : decide ((nm : Int) < 1) = true := decide_eq_true (by omega)
    go_enter Try.func20, Try.ntmps20
    go_wp2_with fail
    all_goals go_ret
    all_goals exact ⟨ret_bool (HB.out.trans (decide_eq_false (fun h => by have h1 := h.1; have h2 := h.2.1; unfold minC at h2; simp only at h1 h2; omega))).symm, (by first | exact bel1 _ _ | exact bel2 _ _ _)⟩
theorem results_t4 {P : Program} {fn : Func} {a b c d : Tmp} (h : fn.results = #[.tmp a, .tmp b, .tmp c, .tmp d]) (tmps : Array Value) (w : World) :
    (results fn tmps).run P w = .ok (.tuple #[tmps.getD a undef, tmps.getD b undef, tmps.getD c undef, tmps.getD d undef]) w := by
  simp [results, h]
set_option maxRecDepth 100000 in
set_option maxHeartbeats 3200000 in
theorem chas_any (k : Int) (w : World) : Calls Try.prog 78 #[.int .i64 k] w (RetS (.tuple #[.bool (hasP k), .bool (hasR k), .bool (hasS k), .bool (hasB k)]) w) := by
  by_cases h1 : k = 1
  · subst h1
    go_enter Try.func78, Try.ntmps78
    go_wp2_with fail
    exact bodyPost_ret (v := .tuple #[.bool true, .bool true, .bool false, .bool true]) (results_t4 Try.results78 _ _) rfl ⟨rfl, rfl⟩
  by_cases h2 : k = 2
  · subst h2
    go_enter Try.func78, Try.ntmps78
    go_wp2_with fail
    exact bodyPost_ret (v := .tuple #[.bool true, .bool true, .bool false, .bool false]) (results_t4 Try.results78 _ _) rfl ⟨rfl, rfl⟩
  by_cases h3 : k = 3
  · subst h3
    go_enter Try.func78, Try.ntmps78
    go_wp2_with fail
    exact bodyPost_ret (v := .tuple #[.bool true, .bool true, .bool false, .bool true]) (results_t4 Try.results78 _ _) rfl ⟨rfl, rfl⟩
  by_cases h4 : k = 4
  · subst h4
    go_enter Try.func78, Try.ntmps78
    go_wp2_with fail
    exact bodyPost_ret (v := .tuple #[.bool true, .bool true, .bool false, .bool false]) (results_t4 Try.results78 _ _) rfl ⟨rfl, rfl⟩
  by_cases h5 : k = 5
  · subst h5
    go_enter Try.func78, Try.ntmps78
    go_wp2_with fail
    exact bodyPost_ret (v := .tuple #[.bool true, .bool false, .bool false, .bool false]) (results_t4 Try.results78 _ _) rfl ⟨rfl, rfl⟩
  by_cases h6 : k = 6
  · subst h6
    go_enter Try.func78, Try.ntmps78
    go_wp2_with fail
    exact bodyPost_ret (v := .tuple #[.bool false, .bool true, .bool true, .bool false]) (results_t4 Try.results78 _ _) rfl ⟨rfl, rfl⟩
  by_cases h7 : k = 7
  · subst h7
    go_enter Try.func78, Try.ntmps78
    go_wp2_with fail
    exact bodyPost_ret (v := .tuple #[.bool false, .bool true, .bool false, .bool false]) (results_t4 Try.results78 _ _) rfl ⟨rfl, rfl⟩
  by_cases h8 : k = 8
  · subst h8
    go_enter Try.func78, Try.ntmps78
    go_wp2_with fail
    exact bodyPost_ret (v := .tuple #[.bool false, .bool false, .bool false, .bool false]) (results_t4 Try.results78 _ _) rfl ⟨rfl, rfl⟩
  have e1 : (k == 1) = false := by simpa using h1
  have e2 : (k == 2) = false := by simpa using h2
  have e3 : (k == 3) = false := by simpa using h3
  have e4 : (k == 4) = false := by simpa using h4
  have e5 : (k == 5) = false := by simpa using h5
  have e6 : (k == 6) = false := by simpa using h6
  have e7 : (k == 7) = false := by simpa using h7
  have e8 : (k == 8) = false := by simpa using h8
  rw [show hasP k = false from decide_eq_false (by omega), show hasR k = false from decide_eq_false (by omega), show hasS k = false from decide_eq_false (by omega), show hasB k = false from decide_eq_false (by omega)]
  go_enter Try.func78, Try.ntmps78
  go_wp2_with fail
  exact bodyPost_ret (v := .tuple #[.bool false, .bool false, .bool false, .bool false]) (results_t4 Try.results78 _ _) rfl ⟨rfl, rfl⟩
end Go.Proofs.Ythdmdlnndbjcoaa.Ce
/-
  The document's numbers of bytes, and bytes of numbers, of layer 12.
-/
namespace Go.Proofs.Ythdmdlnndbjcoaa.Ce
open Go.RowKit
attribute [local go_sem ↓] Go.wp_at_zero Go.wp_at_succ
theorem cget_add {l : List UInt8} {k Z : Nat} (hZ : Z = Wi.getL (l.take k)) (h : k < l.length) (h8 : l.length ≤ 8) :
    IntKind.u64.wrap (IntKind.u64.wrap ((Z : Int) * 256) + IntKind.u64.wrap (l[k].toNat : Int)) = ((Z * 256 + l[k].toNat : Nat) : Int) := by
  have hs := Wi.getL_small h h8
  have hb : l[k].toNat < 256 := UInt8.toNat_lt _
  rw [← hZ] at hs
  rw [IntWalk.u64_in ((Z : Int) * 256) (by omega), IntWalk.u64_in (l[k].toNat : Int) (by omega), IntWalk.u64_in _ (by omega)]
  omega
set_option maxRecDepth 100000 in
set_option maxHeartbeats 400000 in
theorem cget_any {B : Nat} (A : Option Addr) (n c : Nat) (l : List UInt8) (w : World) (hn : l.length = n) (ha : Rd B w A (bv l)) (h8 : n ≤ 8) :
    Calls Try.prog 81 #[.slice A n c] w (RetS (.int .u64 (Wi.getL l : Int)) w) := by
  subst hn
  go_enter Try.func81, Try.ntmps81
  go_wp2
  go_loop [3, 4] (fun m i => ∃ k Z : Nat, k ≤ l.length ∧ i = .int .i64 k ∧ m = .int .u64 (Z : Int) ∧ Hid (Z = Wi.getL (l.take k))) (fun _ i => l.length - (intOf i).toNat)
  case atStart => exact ⟨0, 0, Nat.zero_le _, rfl, rfl, rfl⟩
  case round =>
    obtain ⟨k, Z, hk, rfl, rfl, HZ⟩ := hrel
    by_cases hlt : k < l.length
    · obtain ⟨ad, rfl, _, hc⟩ := ha.at_ hlt
      go_wp2
      go_round
      case rel => exact ⟨k + 1, Z * 256 + l[k].toNat, by omega, by go_num, int_eq (cget_add HZ.out hlt h8), by show _ = _; rw [Wi.getL_step hlt, HZ.out]⟩
      case measure => simp [intOf]; omega
    · obtain rfl : k = l.length := by omega
      go_wp2
      go_ret
      exact ⟨ret_int (by rw [HZ.out, Wi.get_all]), rfl⟩
theorem putL_take {n s k : Nat} (h : k < s) : (Wi.putL n s).take (k + 1) = (Wi.putL n s).take k ++ [UInt8.ofNat (n / 2 ^ (8 * (s - 1 - k)) % 256)] := by
  rw [List.take_add_one, Wi.putL_get h]; rfl
set_option maxRecDepth 100000 in
set_option maxHeartbeats 1600000 in
theorem cput_in (N s : Nat) (w : World) (h1 : N < 18446744073709551616) (hs8 : s ≤ 8) :
    Calls Try.prog 77 #[.int .u64 N, .int .i64 s] w (RetRow 5 (bv (Wi.putL N s)) w) := by
  have HN := U64.mk (by omega : (N : Int) < 18446744073709551616)
  clear h1
  have ws : IntKind.i64.wrap ((s : Int) - 1) = (s : Int) - 1 := IntWalk.i64_in _ (by omega)
  go_enter Try.func77, Try.ntmps77
  go_wp2
  go_loopw [5, 6] (fun o i wr => ∃ (k : Nat) (A : Option Addr) (c : Nat), k ≤ s ∧ i = .int .i64 ((s : Int) - 1 - k) ∧ o = .slice A k c ∧ Below w.heap.size w wr ∧ wr.ownsRow w.heap.size 5 1 (.slice A k c) k (bv ((Wi.putL N s).take k))) (fun _ i _ => (intOf i + 1).toNat)
  case atStart => exact ⟨0, none, 0, Nat.zero_le _, by simp, rfl, Below.refl _ _, World.ownsRow_nil w _ _ _⟩
  case round =>
    obtain ⟨k, A, c, hk, rfl, rfl, hb, how⟩ := hrel
    by_cases hlt : k < s
    · obtain ⟨j, hj⟩ : ∃ j : Nat, (s : Int) - 1 - k = (j : Int) := ⟨s - 1 - k, by omega⟩
      rw [hj]
      have HJ := Lib.hid hj
      have hj7 : j ≤ 7 := by omega
      have w8 : IntKind.i64.wrap (8 * (j : Int)) = ((8 * j : Nat) : Int) := by rw [IntWalk.i64_in _ (by omega)]; omega
      have j0 : (0 : Int) ≤ (j : Int) := by omega
      have wj : IntKind.i64.wrap ((j : Int) - 1) = (j : Int) - 1 := IntWalk.i64_in _ (by omega)
      clear hj
      have e1 : (Value.int .u8 ((N : Int) / 2 ^ (8 * j) % 256)) = .int .u8 ((UInt8.ofNat (N / 2 ^ (8 * (s - 1 - k)) % 256)).toNat : Int) := by
        rw [Wi.ofNat_byte, show s - 1 - k = j by have := HJ.out; omega, Int.natCast_emod, Int.natCast_ediv, Int.natCast_pow]; rfl
      have E1 := Lib.hid e1
      have PT := Lib.hid (putL_take (n := N) hlt)
      have HK := Lib.hid hlt
      have k7 : k ≤ 7 := by omega
      clear e1 hlt
      go_wp2_with (at_builtin; refine wpList_app _ rfl (.tmp 13) (.tmp 19) _ rfl Wi.bytesElt (base := w.heap.size) (v := .slice A k c) rfl (own_below how ((Below.refl _ _).alloc (Nat.le_refl _) _)) rfl (Rd.lit wr 5 [.int .u8 ((N : Int) / 2 ^ (8 * j) % 256)]) rfl (by simp [Value.oneCell']) ?_ ?_ ?_; omega; (simp; have := hb.size; omega); intro A1 c1 w1 hown1 hg1 _)
      go_roundw
      case rel =>
        refine ⟨k + 1, A1, c1, HK.out, int_eq (by have := HJ.out; omega), rfl, app_below (hb.alloc hb.size _) (own_below how ((Below.refl _ _).alloc (Nat.le_refl _) _)) hg1 (Nat.le_refl _) (by simp; have := hb.size; omega), ?_⟩
        exact own_eq hown1 rfl (by rw [PT.out, bv_append, E1.out]; rfl)
      case measure => simp [intOf]
    · obtain rfl : k = s := by omega
      rw [List.take_of_length_le (by rw [Wi.putL_length]; exact Nat.le_refl _)] at how
      have hm : (k : Int) - 1 - k = -1 := by omega
      rw [hm]
      go_wp2
      go_ret
      exact RetRow.mk rfl how hb
end Go.Proofs.Ythdmdlnndbjcoaa.Ce
/-
  Encode, as the document's answer tells it: some kinds.
-/
namespace Go.Proofs.Ythdmdlnndbjcoaa.Ce
open Go.RowKit
attribute [local go_sem ↓] Go.wp_at_zero Go.wp_at_succ

set_option maxRecDepth 100000 in
set_option maxHeartbeats 12800000 in
theorem cenc_ma (x : Cl) (hk : x.kind = 8) (ok : okCl x) (A : Option Addr) (c : Nat) (w : World) (hr : Rd w.heap.size w A (bv x.body)) :
    Calls Try.prog 43 #[.agg (clA x A c)] w (RetRow 5 (bv (encCl x)) w) := by
  have HE : encCl x = Wi.putL x.kind.toNat 1 ++ Wi.putL x.num 2 ++ Wi.putL x.min.toNat 4 := by
    unfold encCl
    rw [show hasP x.kind = false from decide_eq_false (by omega), show hasR x.kind = false from decide_eq_false (by omega), show hasS x.kind = false from decide_eq_false (by omega), show hasB x.kind = false from decide_eq_false (by omega)]
    simp only [if_false, Bool.false_eq_true, List.append_nil, List.append_assoc]
  have hq := ok.2.2
  unfold kindOk thereC elderC noS noP minC at hq
  have hm1 := ok.2.1
  unfold minC at hm1
  have hn1 := ok.1
  obtain ⟨KD, hKD⟩ : ∃ K : Nat, x.kind = (K : Int) := ⟨x.kind.toNat, by omega⟩
  obtain ⟨M, hM⟩ : ∃ M : Nat, x.min = (M : Int) := ⟨x.min.toNat, by omega⟩
  have HPO := Lib.hid (show ∀ W, Calls Try.prog 78 #[.int .i64 (KD : Int)] W (RetS (.tuple #[.bool false, .bool false, .bool false, .bool false]) W) from fun W => by
    have h := chas_any x.kind W
    rw [show hasP x.kind = false from decide_eq_false (by omega), show hasR x.kind = false from decide_eq_false (by omega), show hasS x.kind = false from decide_eq_false (by omega), show hasB x.kind = false from decide_eq_false (by omega), hKD] at h
    exact h)
  rw [hKD, hM] at HE
  simp only [Int.toNat_natCast] at HE
  obtain ⟨cs, hcs⟩ : ∃ cs, cs = clA x A c := ⟨_, rfl⟩
  have HC := Lib.hid (show cs[0]? = some (.int .i64 (KD : Int)) ∧ cs[1]? = some (.int .u64 (x.num : Int)) ∧ cs[2]? = some (.int .i64 (M : Int)) ∧ cs[6]? = some (.int .u64 (x.ref : Int)) ∧ cs[10]? = some (.slice A x.body.length c) from by rw [hcs]; unfold clA; rw [hKD, hM]; exact ⟨rfl, rfl, rfl, rfl, rfl⟩)
  obtain ⟨w0, hw0⟩ : ∃ w0, w0 = w.alloc (.cells cs 44) := ⟨_, rfl⟩
  have BL := Lib.hid (show Below w.heap.size w w0 from by rw [hw0]; exact bel1 _ _)
  have X := Lib.hid (show Blk w0 w.heap.size cs 44 from by rw [hw0]; exact heap_alloc_new _ _)
  rw [← hcs]
  obtain ⟨N, hN⟩ : ∃ N, N = x.num := ⟨_, rfl⟩
  obtain ⟨RF, hRF⟩ : ∃ RF, RF = x.ref := ⟨_, rfl⟩
  obtain ⟨bd, hbd⟩ : ∃ bd, bd = x.body := ⟨_, rfl⟩
  obtain ⟨LN, hLN⟩ : ∃ n, n = bd.length := ⟨_, rfl⟩
  rw [← hN] at HE
  rw [← hN, ← hRF, ← hbd, ← hLN] at HC
  
  
  rw [← hbd] at hr
  have kN : N < 18446744073709551616 := by rw [hN]; omega
  have kK : KD < 18446744073709551616 := by omega
  have kM : M < 18446744073709551616 := by omega
  
  have kLN : LN < 200 := by rw [hLN, hbd]; have := (okCl_body ok).1; omega
  have HKN := Lib.hid kN
  have HKK := Lib.hid kK
  have HKM := Lib.hid kM
  
  have HKL := Lib.hid kLN
  have wK : IntKind.u64.wrap (KD : Int) = (KD : Int) := IntWalk.u64_in _ (by omega)
  have wM : IntKind.u64.wrap (M : Int) = (M : Int) := IntWalk.u64_in _ (by omega)
  have wL : IntKind.u8.wrap (LN : Int) = (LN : Int) := IntWalk.u8_in _ (by omega)
  have l0 : (0 : Int) ≤ (LN : Int) := by omega
  have l1 : (LN : Int) ≤ 255 := by omega
  have HEQ := Lib.hid HE
  have HRD := Lib.hid hr
  have HLN := Lib.hid hLN
  clear hq hm1 hn1 hKD hM hcs hN hRF hbd ok hk kN kK kM kLN hr HE hLN
  go_enter Try.func43, Try.ntmps43
  go_upto_region 1 with fail
  rw [← hw0]
  clear hw0
  have XD := Lib.hid (show Blk w0.drew w.heap.size cs 44 from X.out)
  have BD := Lib.hid BL.out.drew
  clear X BL
  have X := Lib.hid XD.out
  have BL := Lib.hid BD.out
  clear XD BD
  refine wp_region_held_drew (S := (fun w' => Blk w' w.heap.size cs 44 ∧ Below w.heap.size w w')) (by kernel_rfl) ⟨X.out, BL.out⟩ (fun hh => ?_)
  have HH := Lib.hid hh
  clear hh
  refine wpAnyH_take (i := 0) (v := ?vR110) rfl (by kernel_rfl) (by kernel_rfl) (by kernel_rfl) (fun _ _ _ h => h) (Or.inl ⟨by rfl, fun w' _ => ?yR110⟩) HH.out ?_
  case yR110 => (go_simp; try with_reducible rfl)
  try simp only [List.getElem_toArray, List.getElem_cons_zero, Act.put, List.setIfInBounds_toArray, List.set_cons_zero, List.set_cons_succ]
  refine wpAnyH_take (i := 1) (v := .int .i64 (KD : Int)) rfl (by kernel_rfl) (by kernel_rfl) (by kernel_rfl) (fun _ _ _ h => h) (Or.inl ⟨by rfl, fun w' hw' => ?yR11⟩) HH.out ?_
  case yR11 => (have hc := (hw'.1.cell 0).trans HC.out.1; go_simp; try with_reducible rfl)
  refine wpAnyH_take (i := 2) (v := ?vR122) rfl (by kernel_rfl) (by kernel_rfl) (by kernel_rfl) (fun _ _ _ h => h) (Or.inl ⟨by rfl, fun w' _ => ?yR122⟩) HH.out ?_
  case yR122 => (go_simp; try with_reducible rfl)
  refine wpAnyH_take (i := 4) (v := ?vR134) rfl (by kernel_rfl) (by kernel_rfl) (by kernel_rfl) (fun _ _ _ h => h) (Or.inl ⟨by rfl, fun w' _ => ?yR134⟩) HH.out ?_
  case yR134 => (go_simp; try with_reducible rfl)
  try simp only [List.getElem_toArray, List.getElem_cons_succ, List.getElem_cons_zero, Act.put, List.setIfInBounds_toArray, List.set_cons_zero, List.set_cons_succ]
  refine wpAnyH_take (i := 5) (v := .int .u64 (N : Int)) rfl (by kernel_rfl) (by kernel_rfl) (by kernel_rfl) (fun _ _ _ h => h) (Or.inl ⟨by rfl, fun w' hw' => ?yR15⟩) HH.out ?_
  case yR15 => (have hc := (hw'.1.cell 1).trans HC.out.2.1; go_simp; try with_reducible rfl)
  refine wpAnyH_take (i := 8) (v := ?vR148) rfl (by kernel_rfl) (by kernel_rfl) (by kernel_rfl) (fun _ _ _ h => h) (Or.inl ⟨by rfl, fun w' _ => ?yR148⟩) HH.out ?_
  case yR148 => (go_simp; try with_reducible rfl)
  try simp only [List.getElem_toArray, List.getElem_cons_succ, List.getElem_cons_zero, Act.put, List.setIfInBounds_toArray, List.set_cons_zero, List.set_cons_succ]
  refine wpAnyH_take (i := 9) (v := .int .i64 (M : Int)) rfl (by kernel_rfl) (by kernel_rfl) (by kernel_rfl) (fun _ _ _ h => h) (Or.inl ⟨by rfl, fun w' hw' => ?yR19⟩) HH.out ?_
  case yR19 => (have hc := (hw'.1.cell 2).trans HC.out.2.2.1; go_simp; try with_reducible rfl)
  refine wpAnyH_take (i := 10) (v := ?vR1510) rfl (by kernel_rfl) (by kernel_rfl) (by kernel_rfl) (fun _ _ _ h => h) (Or.inl ⟨by rfl, fun w' _ => ?yR1510⟩) HH.out ?_
  case yR1510 => (go_simp; try with_reducible rfl)
  try simp only [List.getElem_toArray, List.getElem_cons_succ, List.getElem_cons_zero, Act.put, List.setIfInBounds_toArray, List.set_cons_zero, List.set_cons_succ]
  refine wpAnyH_ready (rs := [3]) (by kernel_rfl) (by simp) (AllReadyH.cons rfl (fun K hK => ?_) AllReadyH.nil)
  go_simp
  refine (cput_in KD 1 _ HKK.out (by omega)).mono ?_
  rintro e v6 ⟨B6, m6, e6, rfl, ho, bw⟩
  obtain rfl : 1 = m6 := by have h1 := own_blen ho; rw [Wi.putL_length] at h1; exact h1
  have X' := Lib.hid (Blk.below X.out bw)
  have BL' := Lib.hid (BL.out.trans (bw.mono BL.out.size))
  have Q6 := Lib.hid (own_more ho BL.out.size)
  clear ho bw X BL
  have X := Lib.hid X'.out
  have BL := Lib.hid BL'.out
  clear X' BL'
  go_simp
  refine hK.out _ _ ⟨X.out, BL.out⟩ (fun hh => ?_)
  have HH' := Lib.hid hh
  clear hh hK K HH
  have HH := Lib.hid HH'.out
  clear HH'
  obtain ⟨a6, ha6⟩ : ∃ a, a = Wi.putL KD 1 := ⟨_, rfl⟩
  have O := Lib.hid (show v6.ownsRow w.heap.size 5 1 (.slice B6 1 e6) 1 (bv a6) from by rw [ha6]; exact Q6.out)
  have HD6 := Lib.hid ha6
  clear ha6 Q6
  try simp only [List.getElem_toArray, List.getElem_cons_succ, List.getElem_cons_zero, Act.put, List.setIfInBounds_toArray, List.set_cons_zero, List.set_cons_succ]
  refine wpAnyH_ready (rs := [6]) (by kernel_rfl) (by simp) (AllReadyH.cons rfl (fun K hK => ?_) AllReadyH.nil)
  go_simp
  refine (cput_in N 2 _ HKN.out (by omega)).mono ?_
  rintro e v7 ⟨B7, m7, e7, rfl, ho, bw⟩
  obtain rfl : 2 = m7 := by have h1 := own_blen ho; rw [Wi.putL_length] at h1; exact h1
  have X' := Lib.hid (Blk.below X.out bw)
  have BL' := Lib.hid (BL.out.trans (bw.mono BL.out.size))
  have Q7 := Lib.hid (own_more ho BL.out.size)
  have O' := Lib.hid (own_below O.out bw)
  clear ho bw X BL O
  have X := Lib.hid X'.out
  have BL := Lib.hid BL'.out
  have O := Lib.hid O'.out
  clear X' BL' O'
  go_simp
  refine hK.out _ _ ⟨X.out, BL.out⟩ (fun hh => ?_)
  have HH' := Lib.hid hh
  clear hh hK K HH
  have HH := Lib.hid HH'.out
  clear HH'
  try simp only [List.getElem_toArray, List.getElem_cons_succ, List.getElem_cons_zero, Act.put, List.setIfInBounds_toArray, List.set_cons_zero, List.set_cons_succ]
  refine wpAnyH_ready (rs := [7]) (by kernel_rfl) (by simp) (AllReadyH.cons rfl (fun K hK => ?_) AllReadyH.nil)
  refine step_app _ (by rfl) (.tmp 11) (.tmp 14) _ rfl Wi.bytesElt (base := w.heap.size) (v := .slice B6 1 e6) rfl O.out (m := 2) rfl (Rd.own Q7.out) ((bv_length _).trans (Wi.putL_length _ _)) (bv_one _) (by omega) BL.out.size ?_
  intro B8 e8 v8 ho hg _
  obtain ⟨n8, hn⟩ : ∃ n, n = 1 + 2 := ⟨_, rfl⟩
  obtain ⟨a8, ha⟩ : ∃ a, a = a6 ++ Wi.putL N 2 := ⟨_, rfl⟩
  rw [← bv_append, ← hn, ← ha] at ho
  rw [← hn]
  have HN8 := Lib.hid (show n8 ≤ 3 from by rw [hn]; omega)
  have HD8 := Lib.hid ha
  have BL' := Lib.hid (app_below BL.out O.out hg (Nat.le_refl _) BL.out.size)
  have X' := Lib.hid (X.out.but (show But (fun q => (Value.slice B6 1 e6).ownBlock = some q) v7 v8 from (But.refl _).grown hg (fun q hq => .inl hq)) (fun hq => by
    obtain ⟨_, cs', hc⟩ := row_typeC O.out _ hq
    have hx : v7.heap[w.heap.size]? = some (.cells _ 44 (0, 0)) := X.out
    rw [hx] at hc
    injection hc with hc; injection hc with _ hc; exact absurd hc (by decide)))
  clear O X BL Q7 hg hn ha
  have O := Lib.hid ho
  have X := Lib.hid X'.out
  have BL := Lib.hid BL'.out
  clear ho X' BL'
  refine hK.out _ _ ⟨X.out, BL.out⟩ (fun hh => ?_)
  have HH' := Lib.hid hh
  clear hh hK K HH
  have HH := Lib.hid HH'.out
  clear HH'
  try simp only [List.getElem_toArray, List.getElem_cons_succ, List.getElem_cons_zero, Act.put, List.setIfInBounds_toArray, List.set_cons_zero, List.set_cons_succ]
  refine wpAnyH_ready (rs := [11]) (by kernel_rfl) (by simp) (AllReadyH.cons rfl (fun K hK => ?_) AllReadyH.nil)
  go_simp
  refine (cput_in M 4 _ HKM.out (by omega)).mono ?_
  rintro e v9 ⟨B9, m9, e9, rfl, ho, bw⟩
  obtain rfl : 4 = m9 := by have h1 := own_blen ho; rw [Wi.putL_length] at h1; exact h1
  have X' := Lib.hid (Blk.below X.out bw)
  have BL' := Lib.hid (BL.out.trans (bw.mono BL.out.size))
  have Q9 := Lib.hid (own_more ho BL.out.size)
  have O' := Lib.hid (own_below O.out bw)
  clear ho bw X BL O
  have X := Lib.hid X'.out
  have BL := Lib.hid BL'.out
  have O := Lib.hid O'.out
  clear X' BL' O'
  go_simp
  refine hK.out _ _ ⟨X.out, BL.out⟩ (fun hh => ?_)
  have HH' := Lib.hid hh
  clear hh hK K HH
  have HH := Lib.hid HH'.out
  clear HH'
  try simp only [List.getElem_toArray, List.getElem_cons_succ, List.getElem_cons_zero, Act.put, List.setIfInBounds_toArray, List.set_cons_zero, List.set_cons_succ]
  refine wpAnyH_ready (rs := [12]) (by kernel_rfl) (by simp) (AllReadyH.cons rfl (fun K hK => ?_) AllReadyH.nil)
  refine step_app _ (by rfl) (.tmp 15) (.tmp 19) _ rfl Wi.bytesElt (base := w.heap.size) (v := .slice B8 n8 e8) rfl O.out (m := 4) rfl (Rd.own Q9.out) ((bv_length _).trans (Wi.putL_length _ _)) (bv_one _) (by have := HN8.out; omega) BL.out.size ?_
  intro B10 e10 v10 ho hg _
  obtain ⟨n10, hn⟩ : ∃ n, n = n8 + 4 := ⟨_, rfl⟩
  obtain ⟨a10, ha⟩ : ∃ a, a = a8 ++ Wi.putL M 4 := ⟨_, rfl⟩
  rw [← bv_append, ← hn, ← ha] at ho
  rw [← hn]
  have HN10 := Lib.hid (show n10 ≤ 7 from by rw [hn]; have := HN8.out; omega)
  have HD10 := Lib.hid ha
  have BL' := Lib.hid (app_below BL.out O.out hg (Nat.le_refl _) BL.out.size)
  have X' := Lib.hid (X.out.but (show But (fun q => (Value.slice B8 n8 e8).ownBlock = some q) v9 v10 from (But.refl _).grown hg (fun q hq => .inl hq)) (fun hq => by
    obtain ⟨_, cs', hc⟩ := row_typeC O.out _ hq
    have hx : v9.heap[w.heap.size]? = some (.cells _ 44 (0, 0)) := X.out
    rw [hx] at hc
    injection hc with hc; injection hc with _ hc; exact absurd hc (by decide)))
  clear O X BL Q9 hg hn ha
  have O := Lib.hid ho
  have X := Lib.hid X'.out
  have BL := Lib.hid BL'.out
  clear ho X' BL'
  refine hK.out _ _ ⟨X.out, BL.out⟩ (fun hh => ?_)
  have HH' := Lib.hid hh
  clear hh hK K HH
  have HH := Lib.hid HH'.out
  clear HH'
  refine wpAnyH_take (i := 13) (v := ?vR11113) rfl (by kernel_rfl) (by kernel_rfl) (by kernel_rfl) (fun _ _ _ h => h) (Or.inl ⟨by rfl, fun w' _ => ?yR11113⟩) HH.out ?_
  case yR11113 => (go_simp; try with_reducible rfl)
  try simp only [List.getElem_toArray, List.getElem_cons_succ, List.getElem_cons_zero, Act.put, List.setIfInBounds_toArray, List.set_cons_zero, List.set_cons_succ]
  refine wpAnyH_done (by kernel_rfl) ?_ _
  have c0 := (X.out.cell 0).trans HC.out.1
  go_wp2_with fail
  refine (HPO.out _).mono ?_
  rintro e vh ⟨rfl, rfl⟩
  clear c0
  go_wp2_with fail
  go_ret
  refine RetRow.mk (n := n10) rfl ?_ BL.out
  rw [HEQ.out, show Wi.putL KD 1 ++ Wi.putL N 2 ++ Wi.putL M 4 = a10 from by rw [HD10.out, HD8.out, HD6.out]]
  exact O.out
set_option maxRecDepth 100000 in
set_option maxHeartbeats 12800000 in
theorem cenc_li (x : Cl) (hk : x.kind = 7) (ok : okCl x) (A : Option Addr) (c : Nat) (w : World) (hr : Rd w.heap.size w A (bv x.body)) :
    Calls Try.prog 43 #[.agg (clA x A c)] w (RetRow 5 (bv (encCl x)) w) := by
  have HE : encCl x = Wi.putL x.kind.toNat 1 ++ Wi.putL x.num 2 ++ Wi.putL x.min.toNat 4 ++ Wi.putL x.ref 2 := by
    unfold encCl
    rw [show hasP x.kind = false from decide_eq_false (by omega), show hasR x.kind = true from decide_eq_true (by omega), show hasS x.kind = false from decide_eq_false (by omega), show hasB x.kind = false from decide_eq_false (by omega)]
    simp only [if_true, if_false, Bool.false_eq_true, List.append_nil, List.append_assoc]
  have hq := ok.2.2
  unfold kindOk thereC elderC noS noP minC at hq
  have hm1 := ok.2.1
  unfold minC at hm1
  have hn1 := ok.1
  obtain ⟨KD, hKD⟩ : ∃ K : Nat, x.kind = (K : Int) := ⟨x.kind.toNat, by omega⟩
  obtain ⟨M, hM⟩ : ∃ M : Nat, x.min = (M : Int) := ⟨x.min.toNat, by omega⟩
  have HPO := Lib.hid (show ∀ W, Calls Try.prog 78 #[.int .i64 (KD : Int)] W (RetS (.tuple #[.bool false, .bool true, .bool false, .bool false]) W) from fun W => by
    have h := chas_any x.kind W
    rw [show hasP x.kind = false from decide_eq_false (by omega), show hasR x.kind = true from decide_eq_true (by omega), show hasS x.kind = false from decide_eq_false (by omega), show hasB x.kind = false from decide_eq_false (by omega), hKD] at h
    exact h)
  rw [hKD, hM] at HE
  simp only [Int.toNat_natCast] at HE
  obtain ⟨cs, hcs⟩ : ∃ cs, cs = clA x A c := ⟨_, rfl⟩
  have HC := Lib.hid (show cs[0]? = some (.int .i64 (KD : Int)) ∧ cs[1]? = some (.int .u64 (x.num : Int)) ∧ cs[2]? = some (.int .i64 (M : Int)) ∧ cs[6]? = some (.int .u64 (x.ref : Int)) ∧ cs[10]? = some (.slice A x.body.length c) from by rw [hcs]; unfold clA; rw [hKD, hM]; exact ⟨rfl, rfl, rfl, rfl, rfl⟩)
  obtain ⟨w0, hw0⟩ : ∃ w0, w0 = w.alloc (.cells cs 44) := ⟨_, rfl⟩
  have BL := Lib.hid (show Below w.heap.size w w0 from by rw [hw0]; exact bel1 _ _)
  have X := Lib.hid (show Blk w0 w.heap.size cs 44 from by rw [hw0]; exact heap_alloc_new _ _)
  rw [← hcs]
  obtain ⟨N, hN⟩ : ∃ N, N = x.num := ⟨_, rfl⟩
  obtain ⟨RF, hRF⟩ : ∃ RF, RF = x.ref := ⟨_, rfl⟩
  obtain ⟨bd, hbd⟩ : ∃ bd, bd = x.body := ⟨_, rfl⟩
  obtain ⟨LN, hLN⟩ : ∃ n, n = bd.length := ⟨_, rfl⟩
  rw [← hN] at HE
  rw [← hN, ← hRF, ← hbd, ← hLN] at HC
  rw [← hRF] at HE
  
  rw [← hbd] at hr
  have kN : N < 18446744073709551616 := by rw [hN]; omega
  have kK : KD < 18446744073709551616 := by omega
  have kM : M < 18446744073709551616 := by omega
  have kRF : RF < 18446744073709551616 := by rw [hRF]; omega
  have kLN : LN < 200 := by rw [hLN, hbd]; have := (okCl_body ok).1; omega
  have HKN := Lib.hid kN
  have HKK := Lib.hid kK
  have HKM := Lib.hid kM
  have HKR := Lib.hid kRF
  have HKL := Lib.hid kLN
  have wK : IntKind.u64.wrap (KD : Int) = (KD : Int) := IntWalk.u64_in _ (by omega)
  have wM : IntKind.u64.wrap (M : Int) = (M : Int) := IntWalk.u64_in _ (by omega)
  have wL : IntKind.u8.wrap (LN : Int) = (LN : Int) := IntWalk.u8_in _ (by omega)
  have l0 : (0 : Int) ≤ (LN : Int) := by omega
  have l1 : (LN : Int) ≤ 255 := by omega
  have HEQ := Lib.hid HE
  have HRD := Lib.hid hr
  have HLN := Lib.hid hLN
  clear hq hm1 hn1 hKD hM hcs hN hRF hbd ok hk kN kK kM kLN kRF hr HE hLN
  go_enter Try.func43, Try.ntmps43
  go_upto_region 1 with fail
  rw [← hw0]
  clear hw0
  have XD := Lib.hid (show Blk w0.drew w.heap.size cs 44 from X.out)
  have BD := Lib.hid BL.out.drew
  clear X BL
  have X := Lib.hid XD.out
  have BL := Lib.hid BD.out
  clear XD BD
  refine wp_region_held_drew (S := (fun w' => Blk w' w.heap.size cs 44 ∧ Below w.heap.size w w')) (by kernel_rfl) ⟨X.out, BL.out⟩ (fun hh => ?_)
  have HH := Lib.hid hh
  clear hh
  refine wpAnyH_take (i := 0) (v := ?vR110) rfl (by kernel_rfl) (by kernel_rfl) (by kernel_rfl) (fun _ _ _ h => h) (Or.inl ⟨by rfl, fun w' _ => ?yR110⟩) HH.out ?_
  case yR110 => (go_simp; try with_reducible rfl)
  try simp only [List.getElem_toArray, List.getElem_cons_zero, Act.put, List.setIfInBounds_toArray, List.set_cons_zero, List.set_cons_succ]
  refine wpAnyH_take (i := 1) (v := .int .i64 (KD : Int)) rfl (by kernel_rfl) (by kernel_rfl) (by kernel_rfl) (fun _ _ _ h => h) (Or.inl ⟨by rfl, fun w' hw' => ?yR11⟩) HH.out ?_
  case yR11 => (have hc := (hw'.1.cell 0).trans HC.out.1; go_simp; try with_reducible rfl)
  refine wpAnyH_take (i := 2) (v := ?vR122) rfl (by kernel_rfl) (by kernel_rfl) (by kernel_rfl) (fun _ _ _ h => h) (Or.inl ⟨by rfl, fun w' _ => ?yR122⟩) HH.out ?_
  case yR122 => (go_simp; try with_reducible rfl)
  refine wpAnyH_take (i := 4) (v := ?vR134) rfl (by kernel_rfl) (by kernel_rfl) (by kernel_rfl) (fun _ _ _ h => h) (Or.inl ⟨by rfl, fun w' _ => ?yR134⟩) HH.out ?_
  case yR134 => (go_simp; try with_reducible rfl)
  try simp only [List.getElem_toArray, List.getElem_cons_succ, List.getElem_cons_zero, Act.put, List.setIfInBounds_toArray, List.set_cons_zero, List.set_cons_succ]
  refine wpAnyH_take (i := 5) (v := .int .u64 (N : Int)) rfl (by kernel_rfl) (by kernel_rfl) (by kernel_rfl) (fun _ _ _ h => h) (Or.inl ⟨by rfl, fun w' hw' => ?yR15⟩) HH.out ?_
  case yR15 => (have hc := (hw'.1.cell 1).trans HC.out.2.1; go_simp; try with_reducible rfl)
  refine wpAnyH_take (i := 8) (v := ?vR148) rfl (by kernel_rfl) (by kernel_rfl) (by kernel_rfl) (fun _ _ _ h => h) (Or.inl ⟨by rfl, fun w' _ => ?yR148⟩) HH.out ?_
  case yR148 => (go_simp; try with_reducible rfl)
  try simp only [List.getElem_toArray, List.getElem_cons_succ, List.getElem_cons_zero, Act.put, List.setIfInBounds_toArray, List.set_cons_zero, List.set_cons_succ]
  refine wpAnyH_take (i := 9) (v := .int .i64 (M : Int)) rfl (by kernel_rfl) (by kernel_rfl) (by kernel_rfl) (fun _ _ _ h => h) (Or.inl ⟨by rfl, fun w' hw' => ?yR19⟩) HH.out ?_
  case yR19 => (have hc := (hw'.1.cell 2).trans HC.out.2.2.1; go_simp; try with_reducible rfl)
  refine wpAnyH_take (i := 10) (v := ?vR1510) rfl (by kernel_rfl) (by kernel_rfl) (by kernel_rfl) (fun _ _ _ h => h) (Or.inl ⟨by rfl, fun w' _ => ?yR1510⟩) HH.out ?_
  case yR1510 => (go_simp; try with_reducible rfl)
  try simp only [List.getElem_toArray, List.getElem_cons_succ, List.getElem_cons_zero, Act.put, List.setIfInBounds_toArray, List.set_cons_zero, List.set_cons_succ]
  refine wpAnyH_ready (rs := [3]) (by kernel_rfl) (by simp) (AllReadyH.cons rfl (fun K hK => ?_) AllReadyH.nil)
  go_simp
  refine (cput_in KD 1 _ HKK.out (by omega)).mono ?_
  rintro e v6 ⟨B6, m6, e6, rfl, ho, bw⟩
  obtain rfl : 1 = m6 := by have h1 := own_blen ho; rw [Wi.putL_length] at h1; exact h1
  have X' := Lib.hid (Blk.below X.out bw)
  have BL' := Lib.hid (BL.out.trans (bw.mono BL.out.size))
  have Q6 := Lib.hid (own_more ho BL.out.size)
  clear ho bw X BL
  have X := Lib.hid X'.out
  have BL := Lib.hid BL'.out
  clear X' BL'
  go_simp
  refine hK.out _ _ ⟨X.out, BL.out⟩ (fun hh => ?_)
  have HH' := Lib.hid hh
  clear hh hK K HH
  have HH := Lib.hid HH'.out
  clear HH'
  obtain ⟨a6, ha6⟩ : ∃ a, a = Wi.putL KD 1 := ⟨_, rfl⟩
  have O := Lib.hid (show v6.ownsRow w.heap.size 5 1 (.slice B6 1 e6) 1 (bv a6) from by rw [ha6]; exact Q6.out)
  have HD6 := Lib.hid ha6
  clear ha6 Q6
  try simp only [List.getElem_toArray, List.getElem_cons_succ, List.getElem_cons_zero, Act.put, List.setIfInBounds_toArray, List.set_cons_zero, List.set_cons_succ]
  refine wpAnyH_ready (rs := [6]) (by kernel_rfl) (by simp) (AllReadyH.cons rfl (fun K hK => ?_) AllReadyH.nil)
  go_simp
  refine (cput_in N 2 _ HKN.out (by omega)).mono ?_
  rintro e v7 ⟨B7, m7, e7, rfl, ho, bw⟩
  obtain rfl : 2 = m7 := by have h1 := own_blen ho; rw [Wi.putL_length] at h1; exact h1
  have X' := Lib.hid (Blk.below X.out bw)
  have BL' := Lib.hid (BL.out.trans (bw.mono BL.out.size))
  have Q7 := Lib.hid (own_more ho BL.out.size)
  have O' := Lib.hid (own_below O.out bw)
  clear ho bw X BL O
  have X := Lib.hid X'.out
  have BL := Lib.hid BL'.out
  have O := Lib.hid O'.out
  clear X' BL' O'
  go_simp
  refine hK.out _ _ ⟨X.out, BL.out⟩ (fun hh => ?_)
  have HH' := Lib.hid hh
  clear hh hK K HH
  have HH := Lib.hid HH'.out
  clear HH'
  try simp only [List.getElem_toArray, List.getElem_cons_succ, List.getElem_cons_zero, Act.put, List.setIfInBounds_toArray, List.set_cons_zero, List.set_cons_succ]
  refine wpAnyH_ready (rs := [7]) (by kernel_rfl) (by simp) (AllReadyH.cons rfl (fun K hK => ?_) AllReadyH.nil)
  refine step_app _ (by rfl) (.tmp 11) (.tmp 14) _ rfl Wi.bytesElt (base := w.heap.size) (v := .slice B6 1 e6) rfl O.out (m := 2) rfl (Rd.own Q7.out) ((bv_length _).trans (Wi.putL_length _ _)) (bv_one _) (by omega) BL.out.size ?_
  intro B8 e8 v8 ho hg _
  obtain ⟨n8, hn⟩ : ∃ n, n = 1 + 2 := ⟨_, rfl⟩
  obtain ⟨a8, ha⟩ : ∃ a, a = a6 ++ Wi.putL N 2 := ⟨_, rfl⟩
  rw [← bv_append, ← hn, ← ha] at ho
  rw [← hn]
  have HN8 := Lib.hid (show n8 ≤ 3 from by rw [hn]; omega)
  have HD8 := Lib.hid ha
  have BL' := Lib.hid (app_below BL.out O.out hg (Nat.le_refl _) BL.out.size)
  have X' := Lib.hid (X.out.but (show But (fun q => (Value.slice B6 1 e6).ownBlock = some q) v7 v8 from (But.refl _).grown hg (fun q hq => .inl hq)) (fun hq => by
    obtain ⟨_, cs', hc⟩ := row_typeC O.out _ hq
    have hx : v7.heap[w.heap.size]? = some (.cells _ 44 (0, 0)) := X.out
    rw [hx] at hc
    injection hc with hc; injection hc with _ hc; exact absurd hc (by decide)))
  clear O X BL Q7 hg hn ha
  have O := Lib.hid ho
  have X := Lib.hid X'.out
  have BL := Lib.hid BL'.out
  clear ho X' BL'
  refine hK.out _ _ ⟨X.out, BL.out⟩ (fun hh => ?_)
  have HH' := Lib.hid hh
  clear hh hK K HH
  have HH := Lib.hid HH'.out
  clear HH'
  try simp only [List.getElem_toArray, List.getElem_cons_succ, List.getElem_cons_zero, Act.put, List.setIfInBounds_toArray, List.set_cons_zero, List.set_cons_succ]
  refine wpAnyH_ready (rs := [11]) (by kernel_rfl) (by simp) (AllReadyH.cons rfl (fun K hK => ?_) AllReadyH.nil)
  go_simp
  refine (cput_in M 4 _ HKM.out (by omega)).mono ?_
  rintro e v9 ⟨B9, m9, e9, rfl, ho, bw⟩
  obtain rfl : 4 = m9 := by have h1 := own_blen ho; rw [Wi.putL_length] at h1; exact h1
  have X' := Lib.hid (Blk.below X.out bw)
  have BL' := Lib.hid (BL.out.trans (bw.mono BL.out.size))
  have Q9 := Lib.hid (own_more ho BL.out.size)
  have O' := Lib.hid (own_below O.out bw)
  clear ho bw X BL O
  have X := Lib.hid X'.out
  have BL := Lib.hid BL'.out
  have O := Lib.hid O'.out
  clear X' BL' O'
  go_simp
  refine hK.out _ _ ⟨X.out, BL.out⟩ (fun hh => ?_)
  have HH' := Lib.hid hh
  clear hh hK K HH
  have HH := Lib.hid HH'.out
  clear HH'
  try simp only [List.getElem_toArray, List.getElem_cons_succ, List.getElem_cons_zero, Act.put, List.setIfInBounds_toArray, List.set_cons_zero, List.set_cons_succ]
  refine wpAnyH_ready (rs := [12]) (by kernel_rfl) (by simp) (AllReadyH.cons rfl (fun K hK => ?_) AllReadyH.nil)
  refine step_app _ (by rfl) (.tmp 15) (.tmp 19) _ rfl Wi.bytesElt (base := w.heap.size) (v := .slice B8 n8 e8) rfl O.out (m := 4) rfl (Rd.own Q9.out) ((bv_length _).trans (Wi.putL_length _ _)) (bv_one _) (by have := HN8.out; omega) BL.out.size ?_
  intro B10 e10 v10 ho hg _
  obtain ⟨n10, hn⟩ : ∃ n, n = n8 + 4 := ⟨_, rfl⟩
  obtain ⟨a10, ha⟩ : ∃ a, a = a8 ++ Wi.putL M 4 := ⟨_, rfl⟩
  rw [← bv_append, ← hn, ← ha] at ho
  rw [← hn]
  have HN10 := Lib.hid (show n10 ≤ 7 from by rw [hn]; have := HN8.out; omega)
  have HD10 := Lib.hid ha
  have BL' := Lib.hid (app_below BL.out O.out hg (Nat.le_refl _) BL.out.size)
  have X' := Lib.hid (X.out.but (show But (fun q => (Value.slice B8 n8 e8).ownBlock = some q) v9 v10 from (But.refl _).grown hg (fun q hq => .inl hq)) (fun hq => by
    obtain ⟨_, cs', hc⟩ := row_typeC O.out _ hq
    have hx : v9.heap[w.heap.size]? = some (.cells _ 44 (0, 0)) := X.out
    rw [hx] at hc
    injection hc with hc; injection hc with _ hc; exact absurd hc (by decide)))
  clear O X BL Q9 hg hn ha
  have O := Lib.hid ho
  have X := Lib.hid X'.out
  have BL := Lib.hid BL'.out
  clear ho X' BL'
  refine hK.out _ _ ⟨X.out, BL.out⟩ (fun hh => ?_)
  have HH' := Lib.hid hh
  clear hh hK K HH
  have HH := Lib.hid HH'.out
  clear HH'
  refine wpAnyH_take (i := 13) (v := ?vR11113) rfl (by kernel_rfl) (by kernel_rfl) (by kernel_rfl) (fun _ _ _ h => h) (Or.inl ⟨by rfl, fun w' _ => ?yR11113⟩) HH.out ?_
  case yR11113 => (go_simp; try with_reducible rfl)
  try simp only [List.getElem_toArray, List.getElem_cons_succ, List.getElem_cons_zero, Act.put, List.setIfInBounds_toArray, List.set_cons_zero, List.set_cons_succ]
  refine wpAnyH_done (by kernel_rfl) ?_ _
  have c0 := (X.out.cell 0).trans HC.out.1
  go_wp2_with fail
  refine (HPO.out _).mono ?_
  rintro e vh ⟨rfl, rfl⟩
  clear c0
  have c6 := (X.out.cell 6).trans HC.out.2.2.2.1
  go_wp2_with fail
  refine (cput_in RF 2 _ HKR.out (by omega)).mono ?_
  rintro e v12 ⟨B12, m12, e12, rfl, ho, bw⟩
  obtain rfl : 2 = m12 := by have h1 := own_blen ho; rw [Wi.putL_length] at h1; exact h1
  have X' := Lib.hid (Blk.below X.out bw)
  have BL' := Lib.hid (BL.out.trans (bw.mono BL.out.size))
  have Q12 := Lib.hid (own_more ho BL.out.size)
  have O' := Lib.hid (own_below O.out bw)
  clear ho bw X BL O
  have X := Lib.hid X'.out
  have BL := Lib.hid BL'.out
  have O := Lib.hid O'.out
  clear X' BL' O'
  clear c6
  go_wp2_with (at_builtin; refine wpList_app _ rfl (.tmp 50) (.tmp 53) _ rfl Wi.bytesElt (base := w.heap.size) (v := .slice B10 n10 e10) rfl O.out (m := 2) rfl (Rd.own Q12.out) ((bv_length _).trans (Wi.putL_length _ _)) (bv_one _) ?_ ?_ ?_; (have := HN10.out; omega); (exact BL.out.size); intro B13 e13 v13 ho hg _; apply Classical.byContradiction; intro hneg)
  refine hneg ?_
  clear hneg
  obtain ⟨n13, hn⟩ : ∃ n, n = n10 + 2 := ⟨_, rfl⟩
  obtain ⟨a13, ha⟩ : ∃ a, a = a10 ++ Wi.putL RF 2 := ⟨_, rfl⟩
  rw [← bv_append, ← hn, ← ha] at ho
  rw [← hn]
  have HN13 := Lib.hid (show n13 ≤ 9 from by rw [hn]; have := HN10.out; omega)
  have HD13 := Lib.hid ha
  have BL' := Lib.hid (app_below BL.out O.out hg (Nat.le_refl _) BL.out.size)
  have X' := Lib.hid (X.out.but (show But (fun q => (Value.slice B10 n10 e10).ownBlock = some q) v12 v13 from (But.refl _).grown hg (fun q hq => .inl hq)) (fun hq => by
    obtain ⟨_, cs', hc⟩ := row_typeC O.out _ hq
    have hx : v12.heap[w.heap.size]? = some (.cells _ 44 (0, 0)) := X.out
    rw [hx] at hc
    injection hc with hc; injection hc with _ hc; exact absurd hc (by decide)))
  clear O X BL Q12 hg hn ha
  have O := Lib.hid ho
  have X := Lib.hid X'.out
  have BL := Lib.hid BL'.out
  clear ho X' BL' 
  go_wp2_with fail
  go_ret
  refine RetRow.mk (n := n13) rfl ?_ BL.out
  rw [HEQ.out, show Wi.putL KD 1 ++ Wi.putL N 2 ++ Wi.putL M 4 ++ Wi.putL RF 2 = a13 from by rw [HD13.out, HD10.out, HD8.out, HD6.out]]
  exact O.out
end Go.Proofs.Ythdmdlnndbjcoaa.Ce
/-
  Encode, as the document's answer tells it: some kinds.
-/
namespace Go.Proofs.Ythdmdlnndbjcoaa.Ce
open Go.RowKit
attribute [local go_sem ↓] Go.wp_at_zero Go.wp_at_succ

set_option maxRecDepth 100000 in
set_option maxHeartbeats 12800000 in
theorem cenc_wn (x : Cl) (hk : x.kind = 2 ∨ x.kind = 4) (ok : okCl x) (A : Option Addr) (c : Nat) (w : World) (hr : Rd w.heap.size w A (bv x.body)) :
    Calls Try.prog 43 #[.agg (clA x A c)] w (RetRow 5 (bv (encCl x)) w) := by
  have HE : encCl x = Wi.putL x.kind.toNat 1 ++ Wi.putL x.num 2 ++ Wi.putL x.min.toNat 4 ++ Wi.putL x.br.toNat 1 ++ Wi.putL x.vol.toNat 1 ++ Wi.putL x.blk.toNat 2 ++ Wi.putL x.ref 2 := by
    unfold encCl
    rw [show hasP x.kind = true from decide_eq_true (by omega), show hasR x.kind = true from decide_eq_true (by omega), show hasS x.kind = false from decide_eq_false (by omega), show hasB x.kind = false from decide_eq_false (by omega)]
    simp only [if_true, if_false, Bool.false_eq_true, List.append_nil, List.append_assoc]
  have hq := ok.2.2
  unfold kindOk thereC elderC noS noP minC at hq
  have hm1 := ok.2.1
  unfold minC at hm1
  have hn1 := ok.1
  obtain ⟨KD, hKD⟩ : ∃ K : Nat, x.kind = (K : Int) := ⟨x.kind.toNat, by omega⟩
  obtain ⟨M, hM⟩ : ∃ M : Nat, x.min = (M : Int) := ⟨x.min.toNat, by omega⟩
  have HPO := Lib.hid (show ∀ W, Calls Try.prog 78 #[.int .i64 (KD : Int)] W (RetS (.tuple #[.bool true, .bool true, .bool false, .bool false]) W) from fun W => by
    have h := chas_any x.kind W
    rw [show hasP x.kind = true from decide_eq_true (by omega), show hasR x.kind = true from decide_eq_true (by omega), show hasS x.kind = false from decide_eq_false (by omega), show hasB x.kind = false from decide_eq_false (by omega), hKD] at h
    exact h)
  obtain ⟨BR, hBR⟩ : ∃ n : Nat, x.br = (n : Int) := ⟨x.br.toNat, by omega⟩
  obtain ⟨VO, hVO⟩ : ∃ n : Nat, x.vol = (n : Int) := ⟨x.vol.toNat, by omega⟩
  obtain ⟨BK, hBK⟩ : ∃ n : Nat, x.blk = (n : Int) := ⟨x.blk.toNat, by omega⟩
  rw [hKD, hM, hBR, hVO, hBK] at HE
  simp only [Int.toNat_natCast] at HE
  obtain ⟨cs, hcs⟩ : ∃ cs, cs = clA x A c := ⟨_, rfl⟩
  have HC := Lib.hid (show cs[0]? = some (.int .i64 (KD : Int)) ∧ cs[1]? = some (.int .u64 (x.num : Int)) ∧ cs[2]? = some (.int .i64 (M : Int)) ∧ cs[3]? = some (.int .i64 (BR : Int)) ∧ cs[4]? = some (.int .i64 (VO : Int)) ∧ cs[5]? = some (.int .i64 (BK : Int)) ∧ cs[6]? = some (.int .u64 (x.ref : Int)) ∧ cs[10]? = some (.slice A x.body.length c) from by rw [hcs]; unfold clA; rw [hKD, hM, hBR, hVO, hBK]; exact ⟨rfl, rfl, rfl, rfl, rfl, rfl, rfl, rfl⟩)
  obtain ⟨w0, hw0⟩ : ∃ w0, w0 = w.alloc (.cells cs 44) := ⟨_, rfl⟩
  have BL := Lib.hid (show Below w.heap.size w w0 from by rw [hw0]; exact bel1 _ _)
  have X := Lib.hid (show Blk w0 w.heap.size cs 44 from by rw [hw0]; exact heap_alloc_new _ _)
  rw [← hcs]
  obtain ⟨N, hN⟩ : ∃ N, N = x.num := ⟨_, rfl⟩
  obtain ⟨RF, hRF⟩ : ∃ RF, RF = x.ref := ⟨_, rfl⟩
  obtain ⟨bd, hbd⟩ : ∃ bd, bd = x.body := ⟨_, rfl⟩
  obtain ⟨LN, hLN⟩ : ∃ n, n = bd.length := ⟨_, rfl⟩
  rw [← hN] at HE
  rw [← hN, ← hRF, ← hbd, ← hLN] at HC
  rw [← hRF] at HE
  
  rw [← hbd] at hr
  have kN : N < 18446744073709551616 := by rw [hN]; omega
  have kK : KD < 18446744073709551616 := by omega
  have kM : M < 18446744073709551616 := by omega
  have kRF : RF < 18446744073709551616 := by rw [hRF]; omega
  have kLN : LN < 200 := by rw [hLN, hbd]; have := (okCl_body ok).1; omega
  have HKN := Lib.hid kN
  have HKK := Lib.hid kK
  have HKM := Lib.hid kM
  have HKR := Lib.hid kRF
  have HKL := Lib.hid kLN
  have wK : IntKind.u64.wrap (KD : Int) = (KD : Int) := IntWalk.u64_in _ (by omega)
  have wM : IntKind.u64.wrap (M : Int) = (M : Int) := IntWalk.u64_in _ (by omega)
  have wL : IntKind.u8.wrap (LN : Int) = (LN : Int) := IntWalk.u8_in _ (by omega)
  have l0 : (0 : Int) ≤ (LN : Int) := by omega
  have l1 : (LN : Int) ≤ 255 := by omega
  have HKBR := Lib.hid (show BR < 18446744073709551616 by omega)
  have wBR : IntKind.u64.wrap (BR : Int) = (BR : Int) := IntWalk.u64_in _ (by omega)
  have HKVO := Lib.hid (show VO < 18446744073709551616 by omega)
  have wVO : IntKind.u64.wrap (VO : Int) = (VO : Int) := IntWalk.u64_in _ (by omega)
  have HKBK := Lib.hid (show BK < 18446744073709551616 by omega)
  have wBK : IntKind.u64.wrap (BK : Int) = (BK : Int) := IntWalk.u64_in _ (by omega)
  have HEQ := Lib.hid HE
  have HRD := Lib.hid hr
  have HLN := Lib.hid hLN
  clear hq hm1 hn1 hKD hM hBR hVO hBK hcs hN hRF hbd ok hk kN kK kM kLN kRF hr HE hLN
  go_enter Try.func43, Try.ntmps43
  go_upto_region 1 with fail
  rw [← hw0]
  clear hw0
  have XD := Lib.hid (show Blk w0.drew w.heap.size cs 44 from X.out)
  have BD := Lib.hid BL.out.drew
  clear X BL
  have X := Lib.hid XD.out
  have BL := Lib.hid BD.out
  clear XD BD
  refine wp_region_held_drew (S := (fun w' => Blk w' w.heap.size cs 44 ∧ Below w.heap.size w w')) (by kernel_rfl) ⟨X.out, BL.out⟩ (fun hh => ?_)
  have HH := Lib.hid hh
  clear hh
  refine wpAnyH_take (i := 0) (v := ?vR110) rfl (by kernel_rfl) (by kernel_rfl) (by kernel_rfl) (fun _ _ _ h => h) (Or.inl ⟨by rfl, fun w' _ => ?yR110⟩) HH.out ?_
  case yR110 => (go_simp; try with_reducible rfl)
  try simp only [List.getElem_toArray, List.getElem_cons_zero, Act.put, List.setIfInBounds_toArray, List.set_cons_zero, List.set_cons_succ]
  refine wpAnyH_take (i := 1) (v := .int .i64 (KD : Int)) rfl (by kernel_rfl) (by kernel_rfl) (by kernel_rfl) (fun _ _ _ h => h) (Or.inl ⟨by rfl, fun w' hw' => ?yR11⟩) HH.out ?_
  case yR11 => (have hc := (hw'.1.cell 0).trans HC.out.1; go_simp; try with_reducible rfl)
  refine wpAnyH_take (i := 2) (v := ?vR122) rfl (by kernel_rfl) (by kernel_rfl) (by kernel_rfl) (fun _ _ _ h => h) (Or.inl ⟨by rfl, fun w' _ => ?yR122⟩) HH.out ?_
  case yR122 => (go_simp; try with_reducible rfl)
  refine wpAnyH_take (i := 4) (v := ?vR134) rfl (by kernel_rfl) (by kernel_rfl) (by kernel_rfl) (fun _ _ _ h => h) (Or.inl ⟨by rfl, fun w' _ => ?yR134⟩) HH.out ?_
  case yR134 => (go_simp; try with_reducible rfl)
  try simp only [List.getElem_toArray, List.getElem_cons_succ, List.getElem_cons_zero, Act.put, List.setIfInBounds_toArray, List.set_cons_zero, List.set_cons_succ]
  refine wpAnyH_take (i := 5) (v := .int .u64 (N : Int)) rfl (by kernel_rfl) (by kernel_rfl) (by kernel_rfl) (fun _ _ _ h => h) (Or.inl ⟨by rfl, fun w' hw' => ?yR15⟩) HH.out ?_
  case yR15 => (have hc := (hw'.1.cell 1).trans HC.out.2.1; go_simp; try with_reducible rfl)
  refine wpAnyH_take (i := 8) (v := ?vR148) rfl (by kernel_rfl) (by kernel_rfl) (by kernel_rfl) (fun _ _ _ h => h) (Or.inl ⟨by rfl, fun w' _ => ?yR148⟩) HH.out ?_
  case yR148 => (go_simp; try with_reducible rfl)
  try simp only [List.getElem_toArray, List.getElem_cons_succ, List.getElem_cons_zero, Act.put, List.setIfInBounds_toArray, List.set_cons_zero, List.set_cons_succ]
  refine wpAnyH_take (i := 9) (v := .int .i64 (M : Int)) rfl (by kernel_rfl) (by kernel_rfl) (by kernel_rfl) (fun _ _ _ h => h) (Or.inl ⟨by rfl, fun w' hw' => ?yR19⟩) HH.out ?_
  case yR19 => (have hc := (hw'.1.cell 2).trans HC.out.2.2.1; go_simp; try with_reducible rfl)
  refine wpAnyH_take (i := 10) (v := ?vR1510) rfl (by kernel_rfl) (by kernel_rfl) (by kernel_rfl) (fun _ _ _ h => h) (Or.inl ⟨by rfl, fun w' _ => ?yR1510⟩) HH.out ?_
  case yR1510 => (go_simp; try with_reducible rfl)
  try simp only [List.getElem_toArray, List.getElem_cons_succ, List.getElem_cons_zero, Act.put, List.setIfInBounds_toArray, List.set_cons_zero, List.set_cons_succ]
  refine wpAnyH_ready (rs := [3]) (by kernel_rfl) (by simp) (AllReadyH.cons rfl (fun K hK => ?_) AllReadyH.nil)
  go_simp
  refine (cput_in KD 1 _ HKK.out (by omega)).mono ?_
  rintro e v6 ⟨B6, m6, e6, rfl, ho, bw⟩
  obtain rfl : 1 = m6 := by have h1 := own_blen ho; rw [Wi.putL_length] at h1; exact h1
  have X' := Lib.hid (Blk.below X.out bw)
  have BL' := Lib.hid (BL.out.trans (bw.mono BL.out.size))
  have Q6 := Lib.hid (own_more ho BL.out.size)
  clear ho bw X BL
  have X := Lib.hid X'.out
  have BL := Lib.hid BL'.out
  clear X' BL'
  go_simp
  refine hK.out _ _ ⟨X.out, BL.out⟩ (fun hh => ?_)
  have HH' := Lib.hid hh
  clear hh hK K HH
  have HH := Lib.hid HH'.out
  clear HH'
  obtain ⟨a6, ha6⟩ : ∃ a, a = Wi.putL KD 1 := ⟨_, rfl⟩
  have O := Lib.hid (show v6.ownsRow w.heap.size 5 1 (.slice B6 1 e6) 1 (bv a6) from by rw [ha6]; exact Q6.out)
  have HD6 := Lib.hid ha6
  clear ha6 Q6
  try simp only [List.getElem_toArray, List.getElem_cons_succ, List.getElem_cons_zero, Act.put, List.setIfInBounds_toArray, List.set_cons_zero, List.set_cons_succ]
  refine wpAnyH_ready (rs := [6]) (by kernel_rfl) (by simp) (AllReadyH.cons rfl (fun K hK => ?_) AllReadyH.nil)
  go_simp
  refine (cput_in N 2 _ HKN.out (by omega)).mono ?_
  rintro e v7 ⟨B7, m7, e7, rfl, ho, bw⟩
  obtain rfl : 2 = m7 := by have h1 := own_blen ho; rw [Wi.putL_length] at h1; exact h1
  have X' := Lib.hid (Blk.below X.out bw)
  have BL' := Lib.hid (BL.out.trans (bw.mono BL.out.size))
  have Q7 := Lib.hid (own_more ho BL.out.size)
  have O' := Lib.hid (own_below O.out bw)
  clear ho bw X BL O
  have X := Lib.hid X'.out
  have BL := Lib.hid BL'.out
  have O := Lib.hid O'.out
  clear X' BL' O'
  go_simp
  refine hK.out _ _ ⟨X.out, BL.out⟩ (fun hh => ?_)
  have HH' := Lib.hid hh
  clear hh hK K HH
  have HH := Lib.hid HH'.out
  clear HH'
  try simp only [List.getElem_toArray, List.getElem_cons_succ, List.getElem_cons_zero, Act.put, List.setIfInBounds_toArray, List.set_cons_zero, List.set_cons_succ]
  refine wpAnyH_ready (rs := [7]) (by kernel_rfl) (by simp) (AllReadyH.cons rfl (fun K hK => ?_) AllReadyH.nil)
  refine step_app _ (by rfl) (.tmp 11) (.tmp 14) _ rfl Wi.bytesElt (base := w.heap.size) (v := .slice B6 1 e6) rfl O.out (m := 2) rfl (Rd.own Q7.out) ((bv_length _).trans (Wi.putL_length _ _)) (bv_one _) (by omega) BL.out.size ?_
  intro B8 e8 v8 ho hg _
  obtain ⟨n8, hn⟩ : ∃ n, n = 1 + 2 := ⟨_, rfl⟩
  obtain ⟨a8, ha⟩ : ∃ a, a = a6 ++ Wi.putL N 2 := ⟨_, rfl⟩
  rw [← bv_append, ← hn, ← ha] at ho
  rw [← hn]
  have HN8 := Lib.hid (show n8 ≤ 3 from by rw [hn]; omega)
  have HD8 := Lib.hid ha
  have BL' := Lib.hid (app_below BL.out O.out hg (Nat.le_refl _) BL.out.size)
  have X' := Lib.hid (X.out.but (show But (fun q => (Value.slice B6 1 e6).ownBlock = some q) v7 v8 from (But.refl _).grown hg (fun q hq => .inl hq)) (fun hq => by
    obtain ⟨_, cs', hc⟩ := row_typeC O.out _ hq
    have hx : v7.heap[w.heap.size]? = some (.cells _ 44 (0, 0)) := X.out
    rw [hx] at hc
    injection hc with hc; injection hc with _ hc; exact absurd hc (by decide)))
  clear O X BL Q7 hg hn ha
  have O := Lib.hid ho
  have X := Lib.hid X'.out
  have BL := Lib.hid BL'.out
  clear ho X' BL'
  refine hK.out _ _ ⟨X.out, BL.out⟩ (fun hh => ?_)
  have HH' := Lib.hid hh
  clear hh hK K HH
  have HH := Lib.hid HH'.out
  clear HH'
  try simp only [List.getElem_toArray, List.getElem_cons_succ, List.getElem_cons_zero, Act.put, List.setIfInBounds_toArray, List.set_cons_zero, List.set_cons_succ]
  refine wpAnyH_ready (rs := [11]) (by kernel_rfl) (by simp) (AllReadyH.cons rfl (fun K hK => ?_) AllReadyH.nil)
  go_simp
  refine (cput_in M 4 _ HKM.out (by omega)).mono ?_
  rintro e v9 ⟨B9, m9, e9, rfl, ho, bw⟩
  obtain rfl : 4 = m9 := by have h1 := own_blen ho; rw [Wi.putL_length] at h1; exact h1
  have X' := Lib.hid (Blk.below X.out bw)
  have BL' := Lib.hid (BL.out.trans (bw.mono BL.out.size))
  have Q9 := Lib.hid (own_more ho BL.out.size)
  have O' := Lib.hid (own_below O.out bw)
  clear ho bw X BL O
  have X := Lib.hid X'.out
  have BL := Lib.hid BL'.out
  have O := Lib.hid O'.out
  clear X' BL' O'
  go_simp
  refine hK.out _ _ ⟨X.out, BL.out⟩ (fun hh => ?_)
  have HH' := Lib.hid hh
  clear hh hK K HH
  have HH := Lib.hid HH'.out
  clear HH'
  try simp only [List.getElem_toArray, List.getElem_cons_succ, List.getElem_cons_zero, Act.put, List.setIfInBounds_toArray, List.set_cons_zero, List.set_cons_succ]
  refine wpAnyH_ready (rs := [12]) (by kernel_rfl) (by simp) (AllReadyH.cons rfl (fun K hK => ?_) AllReadyH.nil)
  refine step_app _ (by rfl) (.tmp 15) (.tmp 19) _ rfl Wi.bytesElt (base := w.heap.size) (v := .slice B8 n8 e8) rfl O.out (m := 4) rfl (Rd.own Q9.out) ((bv_length _).trans (Wi.putL_length _ _)) (bv_one _) (by have := HN8.out; omega) BL.out.size ?_
  intro B10 e10 v10 ho hg _
  obtain ⟨n10, hn⟩ : ∃ n, n = n8 + 4 := ⟨_, rfl⟩
  obtain ⟨a10, ha⟩ : ∃ a, a = a8 ++ Wi.putL M 4 := ⟨_, rfl⟩
  rw [← bv_append, ← hn, ← ha] at ho
  rw [← hn]
  have HN10 := Lib.hid (show n10 ≤ 7 from by rw [hn]; have := HN8.out; omega)
  have HD10 := Lib.hid ha
  have BL' := Lib.hid (app_below BL.out O.out hg (Nat.le_refl _) BL.out.size)
  have X' := Lib.hid (X.out.but (show But (fun q => (Value.slice B8 n8 e8).ownBlock = some q) v9 v10 from (But.refl _).grown hg (fun q hq => .inl hq)) (fun hq => by
    obtain ⟨_, cs', hc⟩ := row_typeC O.out _ hq
    have hx : v9.heap[w.heap.size]? = some (.cells _ 44 (0, 0)) := X.out
    rw [hx] at hc
    injection hc with hc; injection hc with _ hc; exact absurd hc (by decide)))
  clear O X BL Q9 hg hn ha
  have O := Lib.hid ho
  have X := Lib.hid X'.out
  have BL := Lib.hid BL'.out
  clear ho X' BL'
  refine hK.out _ _ ⟨X.out, BL.out⟩ (fun hh => ?_)
  have HH' := Lib.hid hh
  clear hh hK K HH
  have HH := Lib.hid HH'.out
  clear HH'
  refine wpAnyH_take (i := 13) (v := ?vR11113) rfl (by kernel_rfl) (by kernel_rfl) (by kernel_rfl) (fun _ _ _ h => h) (Or.inl ⟨by rfl, fun w' _ => ?yR11113⟩) HH.out ?_
  case yR11113 => (go_simp; try with_reducible rfl)
  try simp only [List.getElem_toArray, List.getElem_cons_succ, List.getElem_cons_zero, Act.put, List.setIfInBounds_toArray, List.set_cons_zero, List.set_cons_succ]
  refine wpAnyH_done (by kernel_rfl) ?_ _
  have c0 := (X.out.cell 0).trans HC.out.1
  go_wp2_with fail
  refine (HPO.out _).mono ?_
  rintro e vh ⟨rfl, rfl⟩
  clear c0
  go_upto_region 4 with fail
  have XD := Lib.hid (show Blk vh.drew w.heap.size cs 44 from X.out)
  have BD := Lib.hid BL.out.drew
  have OD := Lib.hid (show vh.drew.ownsRow w.heap.size 5 1 (.slice B10 n10 e10) n10 (bv a10) from O.out)
  clear X BL O
  have X := Lib.hid XD.out
  have BL := Lib.hid BD.out
  have O := Lib.hid OD.out
  clear XD BD OD
  refine wp_region_held_drew (S := (fun w' => Blk w' w.heap.size cs 44 ∧ Below w.heap.size w w')) (by kernel_rfl) ⟨X.out, BL.out⟩ (fun hh => ?_)
  have HH := Lib.hid hh
  clear hh
  refine wpAnyH_take (i := 0) (v := ?vR4120) rfl (by kernel_rfl) (by kernel_rfl) (by kernel_rfl) (fun _ _ _ h => h) (Or.inl ⟨by rfl, fun w' _ => ?yR4120⟩) HH.out ?_
  case yR4120 => (go_simp; try with_reducible rfl)
  refine wpAnyH_take (i := 1) (v := ?vR4131) rfl (by kernel_rfl) (by kernel_rfl) (by kernel_rfl) (fun _ _ _ h => h) (Or.inl ⟨by rfl, fun w' _ => ?yR4131⟩) HH.out ?_
  case yR4131 => (go_simp; try with_reducible rfl)
  refine wpAnyH_take (i := 2) (v := ?vR4142) rfl (by kernel_rfl) (by kernel_rfl) (by kernel_rfl) (fun _ _ _ h => h) (Or.inl ⟨by rfl, fun w' _ => ?yR4142⟩) HH.out ?_
  case yR4142 => (go_simp; try with_reducible rfl)
  try simp only [List.getElem_toArray, List.getElem_cons_succ, List.getElem_cons_zero, Act.put, List.setIfInBounds_toArray, List.set_cons_zero, List.set_cons_succ]
  refine wpAnyH_take (i := 3) (v := .int .i64 (BR : Int)) rfl (by kernel_rfl) (by kernel_rfl) (by kernel_rfl) (fun _ _ _ h => h) (Or.inl ⟨by rfl, fun w' hw' => ?yR43⟩) HH.out ?_
  case yR43 => (have hc := (hw'.1.cell 3).trans HC.out.2.2.2.1; go_simp; try with_reducible rfl)
  refine wpAnyH_take (i := 4) (v := ?vR4154) rfl (by kernel_rfl) (by kernel_rfl) (by kernel_rfl) (fun _ _ _ h => h) (Or.inl ⟨by rfl, fun w' _ => ?yR4154⟩) HH.out ?_
  case yR4154 => (go_simp; try with_reducible rfl)
  refine wpAnyH_take (i := 7) (v := ?vR4167) rfl (by kernel_rfl) (by kernel_rfl) (by kernel_rfl) (fun _ _ _ h => h) (Or.inl ⟨by rfl, fun w' _ => ?yR4167⟩) HH.out ?_
  case yR4167 => (go_simp; try with_reducible rfl)
  refine wpAnyH_take (i := 8) (v := ?vR4178) rfl (by kernel_rfl) (by kernel_rfl) (by kernel_rfl) (fun _ _ _ h => h) (Or.inl ⟨by rfl, fun w' _ => ?yR4178⟩) HH.out ?_
  case yR4178 => (go_simp; try with_reducible rfl)
  try simp only [List.getElem_toArray, List.getElem_cons_succ, List.getElem_cons_zero, Act.put, List.setIfInBounds_toArray, List.set_cons_zero, List.set_cons_succ]
  refine wpAnyH_take (i := 9) (v := .int .i64 (VO : Int)) rfl (by kernel_rfl) (by kernel_rfl) (by kernel_rfl) (fun _ _ _ h => h) (Or.inl ⟨by rfl, fun w' hw' => ?yR49⟩) HH.out ?_
  case yR49 => (have hc := (hw'.1.cell 4).trans HC.out.2.2.2.2.1; go_simp; try with_reducible rfl)
  refine wpAnyH_take (i := 10) (v := ?vR41810) rfl (by kernel_rfl) (by kernel_rfl) (by kernel_rfl) (fun _ _ _ h => h) (Or.inl ⟨by rfl, fun w' _ => ?yR41810⟩) HH.out ?_
  case yR41810 => (go_simp; try with_reducible rfl)
  refine wpAnyH_take (i := 13) (v := ?vR41913) rfl (by kernel_rfl) (by kernel_rfl) (by kernel_rfl) (fun _ _ _ h => h) (Or.inl ⟨by rfl, fun w' _ => ?yR41913⟩) HH.out ?_
  case yR41913 => (go_simp; try with_reducible rfl)
  refine wpAnyH_take (i := 14) (v := ?vR42014) rfl (by kernel_rfl) (by kernel_rfl) (by kernel_rfl) (fun _ _ _ h => h) (Or.inl ⟨by rfl, fun w' _ => ?yR42014⟩) HH.out ?_
  case yR42014 => (go_simp; try with_reducible rfl)
  try simp only [List.getElem_toArray, List.getElem_cons_succ, List.getElem_cons_zero, Act.put, List.setIfInBounds_toArray, List.set_cons_zero, List.set_cons_succ]
  refine wpAnyH_take (i := 15) (v := .int .i64 (BK : Int)) rfl (by kernel_rfl) (by kernel_rfl) (by kernel_rfl) (fun _ _ _ h => h) (Or.inl ⟨by rfl, fun w' hw' => ?yR415⟩) HH.out ?_
  case yR415 => (have hc := (hw'.1.cell 5).trans HC.out.2.2.2.2.2.1; go_simp; try with_reducible rfl)
  refine wpAnyH_take (i := 16) (v := ?vR42116) rfl (by kernel_rfl) (by kernel_rfl) (by kernel_rfl) (fun _ _ _ h => h) (Or.inl ⟨by rfl, fun w' _ => ?yR42116⟩) HH.out ?_
  case yR42116 => (go_simp; try with_reducible rfl)
  try simp only [List.getElem_toArray, List.getElem_cons_succ, List.getElem_cons_zero, Act.put, List.setIfInBounds_toArray, List.set_cons_zero, List.set_cons_succ]
  refine wpAnyH_ready (rs := [5]) (by kernel_rfl) (by simp) (AllReadyH.cons rfl (fun K hK => ?_) AllReadyH.nil)
  go_simp
  refine (cput_in BR 1 _ HKBR.out (by omega)).mono ?_
  rintro e v22 ⟨B22, m22, e22, rfl, ho, bw⟩
  obtain rfl : 1 = m22 := by have h1 := own_blen ho; rw [Wi.putL_length] at h1; exact h1
  have X' := Lib.hid (Blk.below X.out bw)
  have BL' := Lib.hid (BL.out.trans (bw.mono BL.out.size))
  have Q22 := Lib.hid (own_more ho BL.out.size)
  have O' := Lib.hid (own_below O.out bw)
  clear ho bw X BL O
  have X := Lib.hid X'.out
  have BL := Lib.hid BL'.out
  have O := Lib.hid O'.out
  clear X' BL' O'
  go_simp
  refine hK.out _ _ ⟨X.out, BL.out⟩ (fun hh => ?_)
  have HH' := Lib.hid hh
  clear hh hK K HH
  have HH := Lib.hid HH'.out
  clear HH'
  try simp only [List.getElem_toArray, List.getElem_cons_succ, List.getElem_cons_zero, Act.put, List.setIfInBounds_toArray, List.set_cons_zero, List.set_cons_succ]
  refine wpAnyH_ready (rs := [6]) (by kernel_rfl) (by simp) (AllReadyH.cons rfl (fun K hK => ?_) AllReadyH.nil)
  refine step_app _ (by rfl) (.tmp 30) (.tmp 35) _ rfl Wi.bytesElt (base := w.heap.size) (v := .slice B10 n10 e10) rfl O.out (m := 1) rfl (Rd.own Q22.out) ((bv_length _).trans (Wi.putL_length _ _)) (bv_one _) (by have := HN10.out; omega) BL.out.size ?_
  intro B23 e23 v23 ho hg _
  obtain ⟨n23, hn⟩ : ∃ n, n = n10 + 1 := ⟨_, rfl⟩
  obtain ⟨a23, ha⟩ : ∃ a, a = a10 ++ Wi.putL BR 1 := ⟨_, rfl⟩
  rw [← bv_append, ← hn, ← ha] at ho
  rw [← hn]
  have HN23 := Lib.hid (show n23 ≤ 8 from by rw [hn]; have := HN10.out; omega)
  have HD23 := Lib.hid ha
  have BL' := Lib.hid (app_below BL.out O.out hg (Nat.le_refl _) BL.out.size)
  have X' := Lib.hid (X.out.but (show But (fun q => (Value.slice B10 n10 e10).ownBlock = some q) v22 v23 from (But.refl _).grown hg (fun q hq => .inl hq)) (fun hq => by
    obtain ⟨_, cs', hc⟩ := row_typeC O.out _ hq
    have hx : v22.heap[w.heap.size]? = some (.cells _ 44 (0, 0)) := X.out
    rw [hx] at hc
    injection hc with hc; injection hc with _ hc; exact absurd hc (by decide)))
  clear O X BL Q22 hg hn ha
  have O := Lib.hid ho
  have X := Lib.hid X'.out
  have BL := Lib.hid BL'.out
  clear ho X' BL'
  refine hK.out _ _ ⟨X.out, BL.out⟩ (fun hh => ?_)
  have HH' := Lib.hid hh
  clear hh hK K HH
  have HH := Lib.hid HH'.out
  clear HH'
  try simp only [List.getElem_toArray, List.getElem_cons_succ, List.getElem_cons_zero, Act.put, List.setIfInBounds_toArray, List.set_cons_zero, List.set_cons_succ]
  refine wpAnyH_ready (rs := [11]) (by kernel_rfl) (by simp) (AllReadyH.cons rfl (fun K hK => ?_) AllReadyH.nil)
  go_simp
  refine (cput_in VO 1 _ HKVO.out (by omega)).mono ?_
  rintro e v24 ⟨B24, m24, e24, rfl, ho, bw⟩
  obtain rfl : 1 = m24 := by have h1 := own_blen ho; rw [Wi.putL_length] at h1; exact h1
  have X' := Lib.hid (Blk.below X.out bw)
  have BL' := Lib.hid (BL.out.trans (bw.mono BL.out.size))
  have Q24 := Lib.hid (own_more ho BL.out.size)
  have O' := Lib.hid (own_below O.out bw)
  clear ho bw X BL O
  have X := Lib.hid X'.out
  have BL := Lib.hid BL'.out
  have O := Lib.hid O'.out
  clear X' BL' O'
  go_simp
  refine hK.out _ _ ⟨X.out, BL.out⟩ (fun hh => ?_)
  have HH' := Lib.hid hh
  clear hh hK K HH
  have HH := Lib.hid HH'.out
  clear HH'
  try simp only [List.getElem_toArray, List.getElem_cons_succ, List.getElem_cons_zero, Act.put, List.setIfInBounds_toArray, List.set_cons_zero, List.set_cons_succ]
  refine wpAnyH_ready (rs := [12]) (by kernel_rfl) (by simp) (AllReadyH.cons rfl (fun K hK => ?_) AllReadyH.nil)
  refine step_app _ (by rfl) (.tmp 36) (.tmp 41) _ rfl Wi.bytesElt (base := w.heap.size) (v := .slice B23 n23 e23) rfl O.out (m := 1) rfl (Rd.own Q24.out) ((bv_length _).trans (Wi.putL_length _ _)) (bv_one _) (by have := HN23.out; omega) BL.out.size ?_
  intro B25 e25 v25 ho hg _
  obtain ⟨n25, hn⟩ : ∃ n, n = n23 + 1 := ⟨_, rfl⟩
  obtain ⟨a25, ha⟩ : ∃ a, a = a23 ++ Wi.putL VO 1 := ⟨_, rfl⟩
  rw [← bv_append, ← hn, ← ha] at ho
  rw [← hn]
  have HN25 := Lib.hid (show n25 ≤ 9 from by rw [hn]; have := HN23.out; omega)
  have HD25 := Lib.hid ha
  have BL' := Lib.hid (app_below BL.out O.out hg (Nat.le_refl _) BL.out.size)
  have X' := Lib.hid (X.out.but (show But (fun q => (Value.slice B23 n23 e23).ownBlock = some q) v24 v25 from (But.refl _).grown hg (fun q hq => .inl hq)) (fun hq => by
    obtain ⟨_, cs', hc⟩ := row_typeC O.out _ hq
    have hx : v24.heap[w.heap.size]? = some (.cells _ 44 (0, 0)) := X.out
    rw [hx] at hc
    injection hc with hc; injection hc with _ hc; exact absurd hc (by decide)))
  clear O X BL Q24 hg hn ha
  have O := Lib.hid ho
  have X := Lib.hid X'.out
  have BL := Lib.hid BL'.out
  clear ho X' BL'
  refine hK.out _ _ ⟨X.out, BL.out⟩ (fun hh => ?_)
  have HH' := Lib.hid hh
  clear hh hK K HH
  have HH := Lib.hid HH'.out
  clear HH'
  try simp only [List.getElem_toArray, List.getElem_cons_succ, List.getElem_cons_zero, Act.put, List.setIfInBounds_toArray, List.set_cons_zero, List.set_cons_succ]
  refine wpAnyH_ready (rs := [17]) (by kernel_rfl) (by simp) (AllReadyH.cons rfl (fun K hK => ?_) AllReadyH.nil)
  go_simp
  refine (cput_in BK 2 _ HKBK.out (by omega)).mono ?_
  rintro e v26 ⟨B26, m26, e26, rfl, ho, bw⟩
  obtain rfl : 2 = m26 := by have h1 := own_blen ho; rw [Wi.putL_length] at h1; exact h1
  have X' := Lib.hid (Blk.below X.out bw)
  have BL' := Lib.hid (BL.out.trans (bw.mono BL.out.size))
  have Q26 := Lib.hid (own_more ho BL.out.size)
  have O' := Lib.hid (own_below O.out bw)
  clear ho bw X BL O
  have X := Lib.hid X'.out
  have BL := Lib.hid BL'.out
  have O := Lib.hid O'.out
  clear X' BL' O'
  go_simp
  refine hK.out _ _ ⟨X.out, BL.out⟩ (fun hh => ?_)
  have HH' := Lib.hid hh
  clear hh hK K HH
  have HH := Lib.hid HH'.out
  clear HH'
  try simp only [List.getElem_toArray, List.getElem_cons_succ, List.getElem_cons_zero, Act.put, List.setIfInBounds_toArray, List.set_cons_zero, List.set_cons_succ]
  refine wpAnyH_ready (rs := [18]) (by kernel_rfl) (by simp) (AllReadyH.cons rfl (fun K hK => ?_) AllReadyH.nil)
  refine step_app _ (by rfl) (.tmp 42) (.tmp 47) _ rfl Wi.bytesElt (base := w.heap.size) (v := .slice B25 n25 e25) rfl O.out (m := 2) rfl (Rd.own Q26.out) ((bv_length _).trans (Wi.putL_length _ _)) (bv_one _) (by have := HN25.out; omega) BL.out.size ?_
  intro B27 e27 v27 ho hg _
  obtain ⟨n27, hn⟩ : ∃ n, n = n25 + 2 := ⟨_, rfl⟩
  obtain ⟨a27, ha⟩ : ∃ a, a = a25 ++ Wi.putL BK 2 := ⟨_, rfl⟩
  rw [← bv_append, ← hn, ← ha] at ho
  rw [← hn]
  have HN27 := Lib.hid (show n27 ≤ 11 from by rw [hn]; have := HN25.out; omega)
  have HD27 := Lib.hid ha
  have BL' := Lib.hid (app_below BL.out O.out hg (Nat.le_refl _) BL.out.size)
  have X' := Lib.hid (X.out.but (show But (fun q => (Value.slice B25 n25 e25).ownBlock = some q) v26 v27 from (But.refl _).grown hg (fun q hq => .inl hq)) (fun hq => by
    obtain ⟨_, cs', hc⟩ := row_typeC O.out _ hq
    have hx : v26.heap[w.heap.size]? = some (.cells _ 44 (0, 0)) := X.out
    rw [hx] at hc
    injection hc with hc; injection hc with _ hc; exact absurd hc (by decide)))
  clear O X BL Q26 hg hn ha
  have O := Lib.hid ho
  have X := Lib.hid X'.out
  have BL := Lib.hid BL'.out
  clear ho X' BL'
  refine hK.out _ _ ⟨X.out, BL.out⟩ (fun hh => ?_)
  have HH' := Lib.hid hh
  clear hh hK K HH
  have HH := Lib.hid HH'.out
  clear HH'
  refine wpAnyH_take (i := 19) (v := ?vR42819) rfl (by kernel_rfl) (by kernel_rfl) (by kernel_rfl) (fun _ _ _ h => h) (Or.inl ⟨by rfl, fun w' _ => ?yR42819⟩) HH.out ?_
  case yR42819 => (go_simp; try with_reducible rfl)
  try simp only [List.getElem_toArray, List.getElem_cons_succ, List.getElem_cons_zero, Act.put, List.setIfInBounds_toArray, List.set_cons_zero, List.set_cons_succ]
  refine wpAnyH_done (by kernel_rfl) ?_ _
  have c6 := (X.out.cell 6).trans HC.out.2.2.2.2.2.2.1
  go_wp2_with fail
  refine (cput_in RF 2 _ HKR.out (by omega)).mono ?_
  rintro e v29 ⟨B29, m29, e29, rfl, ho, bw⟩
  obtain rfl : 2 = m29 := by have h1 := own_blen ho; rw [Wi.putL_length] at h1; exact h1
  have X' := Lib.hid (Blk.below X.out bw)
  have BL' := Lib.hid (BL.out.trans (bw.mono BL.out.size))
  have Q29 := Lib.hid (own_more ho BL.out.size)
  have O' := Lib.hid (own_below O.out bw)
  clear ho bw X BL O
  have X := Lib.hid X'.out
  have BL := Lib.hid BL'.out
  have O := Lib.hid O'.out
  clear X' BL' O'
  clear c6
  go_wp2_with (at_builtin; refine wpList_app _ rfl (.tmp 50) (.tmp 53) _ rfl Wi.bytesElt (base := w.heap.size) (v := .slice B27 n27 e27) rfl O.out (m := 2) rfl (Rd.own Q29.out) ((bv_length _).trans (Wi.putL_length _ _)) (bv_one _) ?_ ?_ ?_; (have := HN27.out; omega); (exact BL.out.size); intro B30 e30 v30 ho hg _; apply Classical.byContradiction; intro hneg)
  refine hneg ?_
  clear hneg
  obtain ⟨n30, hn⟩ : ∃ n, n = n27 + 2 := ⟨_, rfl⟩
  obtain ⟨a30, ha⟩ : ∃ a, a = a27 ++ Wi.putL RF 2 := ⟨_, rfl⟩
  rw [← bv_append, ← hn, ← ha] at ho
  rw [← hn]
  have HN30 := Lib.hid (show n30 ≤ 13 from by rw [hn]; have := HN27.out; omega)
  have HD30 := Lib.hid ha
  have BL' := Lib.hid (app_below BL.out O.out hg (Nat.le_refl _) BL.out.size)
  have X' := Lib.hid (X.out.but (show But (fun q => (Value.slice B27 n27 e27).ownBlock = some q) v29 v30 from (But.refl _).grown hg (fun q hq => .inl hq)) (fun hq => by
    obtain ⟨_, cs', hc⟩ := row_typeC O.out _ hq
    have hx : v29.heap[w.heap.size]? = some (.cells _ 44 (0, 0)) := X.out
    rw [hx] at hc
    injection hc with hc; injection hc with _ hc; exact absurd hc (by decide)))
  clear O X BL Q29 hg hn ha
  have O := Lib.hid ho
  have X := Lib.hid X'.out
  have BL := Lib.hid BL'.out
  clear ho X' BL' 
  go_wp2_with fail
  go_ret
  refine RetRow.mk (n := n30) rfl ?_ BL.out
  rw [HEQ.out, show Wi.putL KD 1 ++ Wi.putL N 2 ++ Wi.putL M 4 ++ Wi.putL BR 1 ++ Wi.putL VO 1 ++ Wi.putL BK 2 ++ Wi.putL RF 2 = a30 from by rw [HD30.out, HD27.out, HD25.out, HD23.out, HD10.out, HD8.out, HD6.out]]
  exact O.out
set_option maxRecDepth 100000 in
set_option maxHeartbeats 12800000 in
theorem cenc_wb (x : Cl) (hk : x.kind = 1 ∨ x.kind = 3) (ok : okCl x) (A : Option Addr) (c : Nat) (w : World) (hr : Rd w.heap.size w A (bv x.body)) :
    Calls Try.prog 43 #[.agg (clA x A c)] w (RetRow 5 (bv (encCl x)) w) := by
  have HE : encCl x = Wi.putL x.kind.toNat 1 ++ Wi.putL x.num 2 ++ Wi.putL x.min.toNat 4 ++ Wi.putL x.br.toNat 1 ++ Wi.putL x.vol.toNat 1 ++ Wi.putL x.blk.toNat 2 ++ Wi.putL x.ref 2 ++ Wi.putL x.body.length 1 ++ x.body := by
    unfold encCl
    rw [show hasP x.kind = true from decide_eq_true (by omega), show hasR x.kind = true from decide_eq_true (by omega), show hasS x.kind = false from decide_eq_false (by omega), show hasB x.kind = true from decide_eq_true (by omega)]
    simp only [if_true, if_false, Bool.false_eq_true, List.append_nil, List.append_assoc]
  have hq := ok.2.2
  unfold kindOk thereC elderC noS noP minC at hq
  have hm1 := ok.2.1
  unfold minC at hm1
  have hn1 := ok.1
  obtain ⟨KD, hKD⟩ : ∃ K : Nat, x.kind = (K : Int) := ⟨x.kind.toNat, by omega⟩
  obtain ⟨M, hM⟩ : ∃ M : Nat, x.min = (M : Int) := ⟨x.min.toNat, by omega⟩
  have HPO := Lib.hid (show ∀ W, Calls Try.prog 78 #[.int .i64 (KD : Int)] W (RetS (.tuple #[.bool true, .bool true, .bool false, .bool true]) W) from fun W => by
    have h := chas_any x.kind W
    rw [show hasP x.kind = true from decide_eq_true (by omega), show hasR x.kind = true from decide_eq_true (by omega), show hasS x.kind = false from decide_eq_false (by omega), show hasB x.kind = true from decide_eq_true (by omega), hKD] at h
    exact h)
  obtain ⟨BR, hBR⟩ : ∃ n : Nat, x.br = (n : Int) := ⟨x.br.toNat, by omega⟩
  obtain ⟨VO, hVO⟩ : ∃ n : Nat, x.vol = (n : Int) := ⟨x.vol.toNat, by omega⟩
  obtain ⟨BK, hBK⟩ : ∃ n : Nat, x.blk = (n : Int) := ⟨x.blk.toNat, by omega⟩
  rw [hKD, hM, hBR, hVO, hBK] at HE
  simp only [Int.toNat_natCast] at HE
  obtain ⟨cs, hcs⟩ : ∃ cs, cs = clA x A c := ⟨_, rfl⟩
  have HC := Lib.hid (show cs[0]? = some (.int .i64 (KD : Int)) ∧ cs[1]? = some (.int .u64 (x.num : Int)) ∧ cs[2]? = some (.int .i64 (M : Int)) ∧ cs[3]? = some (.int .i64 (BR : Int)) ∧ cs[4]? = some (.int .i64 (VO : Int)) ∧ cs[5]? = some (.int .i64 (BK : Int)) ∧ cs[6]? = some (.int .u64 (x.ref : Int)) ∧ cs[10]? = some (.slice A x.body.length c) from by rw [hcs]; unfold clA; rw [hKD, hM, hBR, hVO, hBK]; exact ⟨rfl, rfl, rfl, rfl, rfl, rfl, rfl, rfl⟩)
  obtain ⟨w0, hw0⟩ : ∃ w0, w0 = w.alloc (.cells cs 44) := ⟨_, rfl⟩
  have BL := Lib.hid (show Below w.heap.size w w0 from by rw [hw0]; exact bel1 _ _)
  have X := Lib.hid (show Blk w0 w.heap.size cs 44 from by rw [hw0]; exact heap_alloc_new _ _)
  rw [← hcs]
  obtain ⟨N, hN⟩ : ∃ N, N = x.num := ⟨_, rfl⟩
  obtain ⟨RF, hRF⟩ : ∃ RF, RF = x.ref := ⟨_, rfl⟩
  obtain ⟨bd, hbd⟩ : ∃ bd, bd = x.body := ⟨_, rfl⟩
  obtain ⟨LN, hLN⟩ : ∃ n, n = bd.length := ⟨_, rfl⟩
  rw [← hN] at HE
  rw [← hN, ← hRF, ← hbd, ← hLN] at HC
  rw [← hRF] at HE
  rw [← hbd, ← hLN] at HE
  rw [← hbd] at hr
  have kN : N < 18446744073709551616 := by rw [hN]; omega
  have kK : KD < 18446744073709551616 := by omega
  have kM : M < 18446744073709551616 := by omega
  have kRF : RF < 18446744073709551616 := by rw [hRF]; omega
  have kLN : LN < 200 := by rw [hLN, hbd]; have := (okCl_body ok).1; omega
  have HKN := Lib.hid kN
  have HKK := Lib.hid kK
  have HKM := Lib.hid kM
  have HKR := Lib.hid kRF
  have HKL := Lib.hid kLN
  have wK : IntKind.u64.wrap (KD : Int) = (KD : Int) := IntWalk.u64_in _ (by omega)
  have wM : IntKind.u64.wrap (M : Int) = (M : Int) := IntWalk.u64_in _ (by omega)
  have wL : IntKind.u8.wrap (LN : Int) = (LN : Int) := IntWalk.u8_in _ (by omega)
  have l0 : (0 : Int) ≤ (LN : Int) := by omega
  have l1 : (LN : Int) ≤ 255 := by omega
  have HKBR := Lib.hid (show BR < 18446744073709551616 by omega)
  have wBR : IntKind.u64.wrap (BR : Int) = (BR : Int) := IntWalk.u64_in _ (by omega)
  have HKVO := Lib.hid (show VO < 18446744073709551616 by omega)
  have wVO : IntKind.u64.wrap (VO : Int) = (VO : Int) := IntWalk.u64_in _ (by omega)
  have HKBK := Lib.hid (show BK < 18446744073709551616 by omega)
  have wBK : IntKind.u64.wrap (BK : Int) = (BK : Int) := IntWalk.u64_in _ (by omega)
  have HEQ := Lib.hid HE
  have HRD := Lib.hid hr
  have HLN := Lib.hid hLN
  clear hq hm1 hn1 hKD hM hBR hVO hBK hcs hN hRF hbd ok hk kN kK kM kLN kRF hr HE hLN
  go_enter Try.func43, Try.ntmps43
  go_upto_region 1 with fail
  rw [← hw0]
  clear hw0
  have XD := Lib.hid (show Blk w0.drew w.heap.size cs 44 from X.out)
  have BD := Lib.hid BL.out.drew
  clear X BL
  have X := Lib.hid XD.out
  have BL := Lib.hid BD.out
  clear XD BD
  refine wp_region_held_drew (S := (fun w' => Blk w' w.heap.size cs 44 ∧ Below w.heap.size w w')) (by kernel_rfl) ⟨X.out, BL.out⟩ (fun hh => ?_)
  have HH := Lib.hid hh
  clear hh
  refine wpAnyH_take (i := 0) (v := ?vR110) rfl (by kernel_rfl) (by kernel_rfl) (by kernel_rfl) (fun _ _ _ h => h) (Or.inl ⟨by rfl, fun w' _ => ?yR110⟩) HH.out ?_
  case yR110 => (go_simp; try with_reducible rfl)
  try simp only [List.getElem_toArray, List.getElem_cons_zero, Act.put, List.setIfInBounds_toArray, List.set_cons_zero, List.set_cons_succ]
  refine wpAnyH_take (i := 1) (v := .int .i64 (KD : Int)) rfl (by kernel_rfl) (by kernel_rfl) (by kernel_rfl) (fun _ _ _ h => h) (Or.inl ⟨by rfl, fun w' hw' => ?yR11⟩) HH.out ?_
  case yR11 => (have hc := (hw'.1.cell 0).trans HC.out.1; go_simp; try with_reducible rfl)
  refine wpAnyH_take (i := 2) (v := ?vR122) rfl (by kernel_rfl) (by kernel_rfl) (by kernel_rfl) (fun _ _ _ h => h) (Or.inl ⟨by rfl, fun w' _ => ?yR122⟩) HH.out ?_
  case yR122 => (go_simp; try with_reducible rfl)
  refine wpAnyH_take (i := 4) (v := ?vR134) rfl (by kernel_rfl) (by kernel_rfl) (by kernel_rfl) (fun _ _ _ h => h) (Or.inl ⟨by rfl, fun w' _ => ?yR134⟩) HH.out ?_
  case yR134 => (go_simp; try with_reducible rfl)
  try simp only [List.getElem_toArray, List.getElem_cons_succ, List.getElem_cons_zero, Act.put, List.setIfInBounds_toArray, List.set_cons_zero, List.set_cons_succ]
  refine wpAnyH_take (i := 5) (v := .int .u64 (N : Int)) rfl (by kernel_rfl) (by kernel_rfl) (by kernel_rfl) (fun _ _ _ h => h) (Or.inl ⟨by rfl, fun w' hw' => ?yR15⟩) HH.out ?_
  case yR15 => (have hc := (hw'.1.cell 1).trans HC.out.2.1; go_simp; try with_reducible rfl)
  refine wpAnyH_take (i := 8) (v := ?vR148) rfl (by kernel_rfl) (by kernel_rfl) (by kernel_rfl) (fun _ _ _ h => h) (Or.inl ⟨by rfl, fun w' _ => ?yR148⟩) HH.out ?_
  case yR148 => (go_simp; try with_reducible rfl)
  try simp only [List.getElem_toArray, List.getElem_cons_succ, List.getElem_cons_zero, Act.put, List.setIfInBounds_toArray, List.set_cons_zero, List.set_cons_succ]
  refine wpAnyH_take (i := 9) (v := .int .i64 (M : Int)) rfl (by kernel_rfl) (by kernel_rfl) (by kernel_rfl) (fun _ _ _ h => h) (Or.inl ⟨by rfl, fun w' hw' => ?yR19⟩) HH.out ?_
  case yR19 => (have hc := (hw'.1.cell 2).trans HC.out.2.2.1; go_simp; try with_reducible rfl)
  refine wpAnyH_take (i := 10) (v := ?vR1510) rfl (by kernel_rfl) (by kernel_rfl) (by kernel_rfl) (fun _ _ _ h => h) (Or.inl ⟨by rfl, fun w' _ => ?yR1510⟩) HH.out ?_
  case yR1510 => (go_simp; try with_reducible rfl)
  try simp only [List.getElem_toArray, List.getElem_cons_succ, List.getElem_cons_zero, Act.put, List.setIfInBounds_toArray, List.set_cons_zero, List.set_cons_succ]
  refine wpAnyH_ready (rs := [3]) (by kernel_rfl) (by simp) (AllReadyH.cons rfl (fun K hK => ?_) AllReadyH.nil)
  go_simp
  refine (cput_in KD 1 _ HKK.out (by omega)).mono ?_
  rintro e v6 ⟨B6, m6, e6, rfl, ho, bw⟩
  obtain rfl : 1 = m6 := by have h1 := own_blen ho; rw [Wi.putL_length] at h1; exact h1
  have X' := Lib.hid (Blk.below X.out bw)
  have BL' := Lib.hid (BL.out.trans (bw.mono BL.out.size))
  have Q6 := Lib.hid (own_more ho BL.out.size)
  clear ho bw X BL
  have X := Lib.hid X'.out
  have BL := Lib.hid BL'.out
  clear X' BL'
  go_simp
  refine hK.out _ _ ⟨X.out, BL.out⟩ (fun hh => ?_)
  have HH' := Lib.hid hh
  clear hh hK K HH
  have HH := Lib.hid HH'.out
  clear HH'
  obtain ⟨a6, ha6⟩ : ∃ a, a = Wi.putL KD 1 := ⟨_, rfl⟩
  have O := Lib.hid (show v6.ownsRow w.heap.size 5 1 (.slice B6 1 e6) 1 (bv a6) from by rw [ha6]; exact Q6.out)
  have HD6 := Lib.hid ha6
  clear ha6 Q6
  try simp only [List.getElem_toArray, List.getElem_cons_succ, List.getElem_cons_zero, Act.put, List.setIfInBounds_toArray, List.set_cons_zero, List.set_cons_succ]
  refine wpAnyH_ready (rs := [6]) (by kernel_rfl) (by simp) (AllReadyH.cons rfl (fun K hK => ?_) AllReadyH.nil)
  go_simp
  refine (cput_in N 2 _ HKN.out (by omega)).mono ?_
  rintro e v7 ⟨B7, m7, e7, rfl, ho, bw⟩
  obtain rfl : 2 = m7 := by have h1 := own_blen ho; rw [Wi.putL_length] at h1; exact h1
  have X' := Lib.hid (Blk.below X.out bw)
  have BL' := Lib.hid (BL.out.trans (bw.mono BL.out.size))
  have Q7 := Lib.hid (own_more ho BL.out.size)
  have O' := Lib.hid (own_below O.out bw)
  clear ho bw X BL O
  have X := Lib.hid X'.out
  have BL := Lib.hid BL'.out
  have O := Lib.hid O'.out
  clear X' BL' O'
  go_simp
  refine hK.out _ _ ⟨X.out, BL.out⟩ (fun hh => ?_)
  have HH' := Lib.hid hh
  clear hh hK K HH
  have HH := Lib.hid HH'.out
  clear HH'
  try simp only [List.getElem_toArray, List.getElem_cons_succ, List.getElem_cons_zero, Act.put, List.setIfInBounds_toArray, List.set_cons_zero, List.set_cons_succ]
  refine wpAnyH_ready (rs := [7]) (by kernel_rfl) (by simp) (AllReadyH.cons rfl (fun K hK => ?_) AllReadyH.nil)
  refine step_app _ (by rfl) (.tmp 11) (.tmp 14) _ rfl Wi.bytesElt (base := w.heap.size) (v := .slice B6 1 e6) rfl O.out (m := 2) rfl (Rd.own Q7.out) ((bv_length _).trans (Wi.putL_length _ _)) (bv_one _) (by omega) BL.out.size ?_
  intro B8 e8 v8 ho hg _
  obtain ⟨n8, hn⟩ : ∃ n, n = 1 + 2 := ⟨_, rfl⟩
  obtain ⟨a8, ha⟩ : ∃ a, a = a6 ++ Wi.putL N 2 := ⟨_, rfl⟩
  rw [← bv_append, ← hn, ← ha] at ho
  rw [← hn]
  have HN8 := Lib.hid (show n8 ≤ 3 from by rw [hn]; omega)
  have HD8 := Lib.hid ha
  have BL' := Lib.hid (app_below BL.out O.out hg (Nat.le_refl _) BL.out.size)
  have X' := Lib.hid (X.out.but (show But (fun q => (Value.slice B6 1 e6).ownBlock = some q) v7 v8 from (But.refl _).grown hg (fun q hq => .inl hq)) (fun hq => by
    obtain ⟨_, cs', hc⟩ := row_typeC O.out _ hq
    have hx : v7.heap[w.heap.size]? = some (.cells _ 44 (0, 0)) := X.out
    rw [hx] at hc
    injection hc with hc; injection hc with _ hc; exact absurd hc (by decide)))
  clear O X BL Q7 hg hn ha
  have O := Lib.hid ho
  have X := Lib.hid X'.out
  have BL := Lib.hid BL'.out
  clear ho X' BL'
  refine hK.out _ _ ⟨X.out, BL.out⟩ (fun hh => ?_)
  have HH' := Lib.hid hh
  clear hh hK K HH
  have HH := Lib.hid HH'.out
  clear HH'
  try simp only [List.getElem_toArray, List.getElem_cons_succ, List.getElem_cons_zero, Act.put, List.setIfInBounds_toArray, List.set_cons_zero, List.set_cons_succ]
  refine wpAnyH_ready (rs := [11]) (by kernel_rfl) (by simp) (AllReadyH.cons rfl (fun K hK => ?_) AllReadyH.nil)
  go_simp
  refine (cput_in M 4 _ HKM.out (by omega)).mono ?_
  rintro e v9 ⟨B9, m9, e9, rfl, ho, bw⟩
  obtain rfl : 4 = m9 := by have h1 := own_blen ho; rw [Wi.putL_length] at h1; exact h1
  have X' := Lib.hid (Blk.below X.out bw)
  have BL' := Lib.hid (BL.out.trans (bw.mono BL.out.size))
  have Q9 := Lib.hid (own_more ho BL.out.size)
  have O' := Lib.hid (own_below O.out bw)
  clear ho bw X BL O
  have X := Lib.hid X'.out
  have BL := Lib.hid BL'.out
  have O := Lib.hid O'.out
  clear X' BL' O'
  go_simp
  refine hK.out _ _ ⟨X.out, BL.out⟩ (fun hh => ?_)
  have HH' := Lib.hid hh
  clear hh hK K HH
  have HH := Lib.hid HH'.out
  clear HH'
  try simp only [List.getElem_toArray, List.getElem_cons_succ, List.getElem_cons_zero, Act.put, List.setIfInBounds_toArray, List.set_cons_zero, List.set_cons_succ]
  refine wpAnyH_ready (rs := [12]) (by kernel_rfl) (by simp) (AllReadyH.cons rfl (fun K hK => ?_) AllReadyH.nil)
  refine step_app _ (by rfl) (.tmp 15) (.tmp 19) _ rfl Wi.bytesElt (base := w.heap.size) (v := .slice B8 n8 e8) rfl O.out (m := 4) rfl (Rd.own Q9.out) ((bv_length _).trans (Wi.putL_length _ _)) (bv_one _) (by have := HN8.out; omega) BL.out.size ?_
  intro B10 e10 v10 ho hg _
  obtain ⟨n10, hn⟩ : ∃ n, n = n8 + 4 := ⟨_, rfl⟩
  obtain ⟨a10, ha⟩ : ∃ a, a = a8 ++ Wi.putL M 4 := ⟨_, rfl⟩
  rw [← bv_append, ← hn, ← ha] at ho
  rw [← hn]
  have HN10 := Lib.hid (show n10 ≤ 7 from by rw [hn]; have := HN8.out; omega)
  have HD10 := Lib.hid ha
  have BL' := Lib.hid (app_below BL.out O.out hg (Nat.le_refl _) BL.out.size)
  have X' := Lib.hid (X.out.but (show But (fun q => (Value.slice B8 n8 e8).ownBlock = some q) v9 v10 from (But.refl _).grown hg (fun q hq => .inl hq)) (fun hq => by
    obtain ⟨_, cs', hc⟩ := row_typeC O.out _ hq
    have hx : v9.heap[w.heap.size]? = some (.cells _ 44 (0, 0)) := X.out
    rw [hx] at hc
    injection hc with hc; injection hc with _ hc; exact absurd hc (by decide)))
  clear O X BL Q9 hg hn ha
  have O := Lib.hid ho
  have X := Lib.hid X'.out
  have BL := Lib.hid BL'.out
  clear ho X' BL'
  refine hK.out _ _ ⟨X.out, BL.out⟩ (fun hh => ?_)
  have HH' := Lib.hid hh
  clear hh hK K HH
  have HH := Lib.hid HH'.out
  clear HH'
  refine wpAnyH_take (i := 13) (v := ?vR11113) rfl (by kernel_rfl) (by kernel_rfl) (by kernel_rfl) (fun _ _ _ h => h) (Or.inl ⟨by rfl, fun w' _ => ?yR11113⟩) HH.out ?_
  case yR11113 => (go_simp; try with_reducible rfl)
  try simp only [List.getElem_toArray, List.getElem_cons_succ, List.getElem_cons_zero, Act.put, List.setIfInBounds_toArray, List.set_cons_zero, List.set_cons_succ]
  refine wpAnyH_done (by kernel_rfl) ?_ _
  have c0 := (X.out.cell 0).trans HC.out.1
  go_wp2_with fail
  refine (HPO.out _).mono ?_
  rintro e vh ⟨rfl, rfl⟩
  clear c0
  go_upto_region 4 with fail
  have XD := Lib.hid (show Blk vh.drew w.heap.size cs 44 from X.out)
  have BD := Lib.hid BL.out.drew
  have OD := Lib.hid (show vh.drew.ownsRow w.heap.size 5 1 (.slice B10 n10 e10) n10 (bv a10) from O.out)
  clear X BL O
  have X := Lib.hid XD.out
  have BL := Lib.hid BD.out
  have O := Lib.hid OD.out
  clear XD BD OD
  refine wp_region_held_drew (S := (fun w' => Blk w' w.heap.size cs 44 ∧ Below w.heap.size w w')) (by kernel_rfl) ⟨X.out, BL.out⟩ (fun hh => ?_)
  have HH := Lib.hid hh
  clear hh
  refine wpAnyH_take (i := 0) (v := ?vR4120) rfl (by kernel_rfl) (by kernel_rfl) (by kernel_rfl) (fun _ _ _ h => h) (Or.inl ⟨by rfl, fun w' _ => ?yR4120⟩) HH.out ?_
  case yR4120 => (go_simp; try with_reducible rfl)
  refine wpAnyH_take (i := 1) (v := ?vR4131) rfl (by kernel_rfl) (by kernel_rfl) (by kernel_rfl) (fun _ _ _ h => h) (Or.inl ⟨by rfl, fun w' _ => ?yR4131⟩) HH.out ?_
  case yR4131 => (go_simp; try with_reducible rfl)
  refine wpAnyH_take (i := 2) (v := ?vR4142) rfl (by kernel_rfl) (by kernel_rfl) (by kernel_rfl) (fun _ _ _ h => h) (Or.inl ⟨by rfl, fun w' _ => ?yR4142⟩) HH.out ?_
  case yR4142 => (go_simp; try with_reducible rfl)
  try simp only [List.getElem_toArray, List.getElem_cons_succ, List.getElem_cons_zero, Act.put, List.setIfInBounds_toArray, List.set_cons_zero, List.set_cons_succ]
  refine wpAnyH_take (i := 3) (v := .int .i64 (BR : Int)) rfl (by kernel_rfl) (by kernel_rfl) (by kernel_rfl) (fun _ _ _ h => h) (Or.inl ⟨by rfl, fun w' hw' => ?yR43⟩) HH.out ?_
  case yR43 => (have hc := (hw'.1.cell 3).trans HC.out.2.2.2.1; go_simp; try with_reducible rfl)
  refine wpAnyH_take (i := 4) (v := ?vR4154) rfl (by kernel_rfl) (by kernel_rfl) (by kernel_rfl) (fun _ _ _ h => h) (Or.inl ⟨by rfl, fun w' _ => ?yR4154⟩) HH.out ?_
  case yR4154 => (go_simp; try with_reducible rfl)
  refine wpAnyH_take (i := 7) (v := ?vR4167) rfl (by kernel_rfl) (by kernel_rfl) (by kernel_rfl) (fun _ _ _ h => h) (Or.inl ⟨by rfl, fun w' _ => ?yR4167⟩) HH.out ?_
  case yR4167 => (go_simp; try with_reducible rfl)
  refine wpAnyH_take (i := 8) (v := ?vR4178) rfl (by kernel_rfl) (by kernel_rfl) (by kernel_rfl) (fun _ _ _ h => h) (Or.inl ⟨by rfl, fun w' _ => ?yR4178⟩) HH.out ?_
  case yR4178 => (go_simp; try with_reducible rfl)
  try simp only [List.getElem_toArray, List.getElem_cons_succ, List.getElem_cons_zero, Act.put, List.setIfInBounds_toArray, List.set_cons_zero, List.set_cons_succ]
  refine wpAnyH_take (i := 9) (v := .int .i64 (VO : Int)) rfl (by kernel_rfl) (by kernel_rfl) (by kernel_rfl) (fun _ _ _ h => h) (Or.inl ⟨by rfl, fun w' hw' => ?yR49⟩) HH.out ?_
  case yR49 => (have hc := (hw'.1.cell 4).trans HC.out.2.2.2.2.1; go_simp; try with_reducible rfl)
  refine wpAnyH_take (i := 10) (v := ?vR41810) rfl (by kernel_rfl) (by kernel_rfl) (by kernel_rfl) (fun _ _ _ h => h) (Or.inl ⟨by rfl, fun w' _ => ?yR41810⟩) HH.out ?_
  case yR41810 => (go_simp; try with_reducible rfl)
  refine wpAnyH_take (i := 13) (v := ?vR41913) rfl (by kernel_rfl) (by kernel_rfl) (by kernel_rfl) (fun _ _ _ h => h) (Or.inl ⟨by rfl, fun w' _ => ?yR41913⟩) HH.out ?_
  case yR41913 => (go_simp; try with_reducible rfl)
  refine wpAnyH_take (i := 14) (v := ?vR42014) rfl (by kernel_rfl) (by kernel_rfl) (by kernel_rfl) (fun _ _ _ h => h) (Or.inl ⟨by rfl, fun w' _ => ?yR42014⟩) HH.out ?_
  case yR42014 => (go_simp; try with_reducible rfl)
  try simp only [List.getElem_toArray, List.getElem_cons_succ, List.getElem_cons_zero, Act.put, List.setIfInBounds_toArray, List.set_cons_zero, List.set_cons_succ]
  refine wpAnyH_take (i := 15) (v := .int .i64 (BK : Int)) rfl (by kernel_rfl) (by kernel_rfl) (by kernel_rfl) (fun _ _ _ h => h) (Or.inl ⟨by rfl, fun w' hw' => ?yR415⟩) HH.out ?_
  case yR415 => (have hc := (hw'.1.cell 5).trans HC.out.2.2.2.2.2.1; go_simp; try with_reducible rfl)
  refine wpAnyH_take (i := 16) (v := ?vR42116) rfl (by kernel_rfl) (by kernel_rfl) (by kernel_rfl) (fun _ _ _ h => h) (Or.inl ⟨by rfl, fun w' _ => ?yR42116⟩) HH.out ?_
  case yR42116 => (go_simp; try with_reducible rfl)
  try simp only [List.getElem_toArray, List.getElem_cons_succ, List.getElem_cons_zero, Act.put, List.setIfInBounds_toArray, List.set_cons_zero, List.set_cons_succ]
  refine wpAnyH_ready (rs := [5]) (by kernel_rfl) (by simp) (AllReadyH.cons rfl (fun K hK => ?_) AllReadyH.nil)
  go_simp
  refine (cput_in BR 1 _ HKBR.out (by omega)).mono ?_
  rintro e v22 ⟨B22, m22, e22, rfl, ho, bw⟩
  obtain rfl : 1 = m22 := by have h1 := own_blen ho; rw [Wi.putL_length] at h1; exact h1
  have X' := Lib.hid (Blk.below X.out bw)
  have BL' := Lib.hid (BL.out.trans (bw.mono BL.out.size))
  have Q22 := Lib.hid (own_more ho BL.out.size)
  have O' := Lib.hid (own_below O.out bw)
  clear ho bw X BL O
  have X := Lib.hid X'.out
  have BL := Lib.hid BL'.out
  have O := Lib.hid O'.out
  clear X' BL' O'
  go_simp
  refine hK.out _ _ ⟨X.out, BL.out⟩ (fun hh => ?_)
  have HH' := Lib.hid hh
  clear hh hK K HH
  have HH := Lib.hid HH'.out
  clear HH'
  try simp only [List.getElem_toArray, List.getElem_cons_succ, List.getElem_cons_zero, Act.put, List.setIfInBounds_toArray, List.set_cons_zero, List.set_cons_succ]
  refine wpAnyH_ready (rs := [6]) (by kernel_rfl) (by simp) (AllReadyH.cons rfl (fun K hK => ?_) AllReadyH.nil)
  refine step_app _ (by rfl) (.tmp 30) (.tmp 35) _ rfl Wi.bytesElt (base := w.heap.size) (v := .slice B10 n10 e10) rfl O.out (m := 1) rfl (Rd.own Q22.out) ((bv_length _).trans (Wi.putL_length _ _)) (bv_one _) (by have := HN10.out; omega) BL.out.size ?_
  intro B23 e23 v23 ho hg _
  obtain ⟨n23, hn⟩ : ∃ n, n = n10 + 1 := ⟨_, rfl⟩
  obtain ⟨a23, ha⟩ : ∃ a, a = a10 ++ Wi.putL BR 1 := ⟨_, rfl⟩
  rw [← bv_append, ← hn, ← ha] at ho
  rw [← hn]
  have HN23 := Lib.hid (show n23 ≤ 8 from by rw [hn]; have := HN10.out; omega)
  have HD23 := Lib.hid ha
  have BL' := Lib.hid (app_below BL.out O.out hg (Nat.le_refl _) BL.out.size)
  have X' := Lib.hid (X.out.but (show But (fun q => (Value.slice B10 n10 e10).ownBlock = some q) v22 v23 from (But.refl _).grown hg (fun q hq => .inl hq)) (fun hq => by
    obtain ⟨_, cs', hc⟩ := row_typeC O.out _ hq
    have hx : v22.heap[w.heap.size]? = some (.cells _ 44 (0, 0)) := X.out
    rw [hx] at hc
    injection hc with hc; injection hc with _ hc; exact absurd hc (by decide)))
  clear O X BL Q22 hg hn ha
  have O := Lib.hid ho
  have X := Lib.hid X'.out
  have BL := Lib.hid BL'.out
  clear ho X' BL'
  refine hK.out _ _ ⟨X.out, BL.out⟩ (fun hh => ?_)
  have HH' := Lib.hid hh
  clear hh hK K HH
  have HH := Lib.hid HH'.out
  clear HH'
  try simp only [List.getElem_toArray, List.getElem_cons_succ, List.getElem_cons_zero, Act.put, List.setIfInBounds_toArray, List.set_cons_zero, List.set_cons_succ]
  refine wpAnyH_ready (rs := [11]) (by kernel_rfl) (by simp) (AllReadyH.cons rfl (fun K hK => ?_) AllReadyH.nil)
  go_simp
  refine (cput_in VO 1 _ HKVO.out (by omega)).mono ?_
  rintro e v24 ⟨B24, m24, e24, rfl, ho, bw⟩
  obtain rfl : 1 = m24 := by have h1 := own_blen ho; rw [Wi.putL_length] at h1; exact h1
  have X' := Lib.hid (Blk.below X.out bw)
  have BL' := Lib.hid (BL.out.trans (bw.mono BL.out.size))
  have Q24 := Lib.hid (own_more ho BL.out.size)
  have O' := Lib.hid (own_below O.out bw)
  clear ho bw X BL O
  have X := Lib.hid X'.out
  have BL := Lib.hid BL'.out
  have O := Lib.hid O'.out
  clear X' BL' O'
  go_simp
  refine hK.out _ _ ⟨X.out, BL.out⟩ (fun hh => ?_)
  have HH' := Lib.hid hh
  clear hh hK K HH
  have HH := Lib.hid HH'.out
  clear HH'
  try simp only [List.getElem_toArray, List.getElem_cons_succ, List.getElem_cons_zero, Act.put, List.setIfInBounds_toArray, List.set_cons_zero, List.set_cons_succ]
  refine wpAnyH_ready (rs := [12]) (by kernel_rfl) (by simp) (AllReadyH.cons rfl (fun K hK => ?_) AllReadyH.nil)
  refine step_app _ (by rfl) (.tmp 36) (.tmp 41) _ rfl Wi.bytesElt (base := w.heap.size) (v := .slice B23 n23 e23) rfl O.out (m := 1) rfl (Rd.own Q24.out) ((bv_length _).trans (Wi.putL_length _ _)) (bv_one _) (by have := HN23.out; omega) BL.out.size ?_
  intro B25 e25 v25 ho hg _
  obtain ⟨n25, hn⟩ : ∃ n, n = n23 + 1 := ⟨_, rfl⟩
  obtain ⟨a25, ha⟩ : ∃ a, a = a23 ++ Wi.putL VO 1 := ⟨_, rfl⟩
  rw [← bv_append, ← hn, ← ha] at ho
  rw [← hn]
  have HN25 := Lib.hid (show n25 ≤ 9 from by rw [hn]; have := HN23.out; omega)
  have HD25 := Lib.hid ha
  have BL' := Lib.hid (app_below BL.out O.out hg (Nat.le_refl _) BL.out.size)
  have X' := Lib.hid (X.out.but (show But (fun q => (Value.slice B23 n23 e23).ownBlock = some q) v24 v25 from (But.refl _).grown hg (fun q hq => .inl hq)) (fun hq => by
    obtain ⟨_, cs', hc⟩ := row_typeC O.out _ hq
    have hx : v24.heap[w.heap.size]? = some (.cells _ 44 (0, 0)) := X.out
    rw [hx] at hc
    injection hc with hc; injection hc with _ hc; exact absurd hc (by decide)))
  clear O X BL Q24 hg hn ha
  have O := Lib.hid ho
  have X := Lib.hid X'.out
  have BL := Lib.hid BL'.out
  clear ho X' BL'
  refine hK.out _ _ ⟨X.out, BL.out⟩ (fun hh => ?_)
  have HH' := Lib.hid hh
  clear hh hK K HH
  have HH := Lib.hid HH'.out
  clear HH'
  try simp only [List.getElem_toArray, List.getElem_cons_succ, List.getElem_cons_zero, Act.put, List.setIfInBounds_toArray, List.set_cons_zero, List.set_cons_succ]
  refine wpAnyH_ready (rs := [17]) (by kernel_rfl) (by simp) (AllReadyH.cons rfl (fun K hK => ?_) AllReadyH.nil)
  go_simp
  refine (cput_in BK 2 _ HKBK.out (by omega)).mono ?_
  rintro e v26 ⟨B26, m26, e26, rfl, ho, bw⟩
  obtain rfl : 2 = m26 := by have h1 := own_blen ho; rw [Wi.putL_length] at h1; exact h1
  have X' := Lib.hid (Blk.below X.out bw)
  have BL' := Lib.hid (BL.out.trans (bw.mono BL.out.size))
  have Q26 := Lib.hid (own_more ho BL.out.size)
  have O' := Lib.hid (own_below O.out bw)
  clear ho bw X BL O
  have X := Lib.hid X'.out
  have BL := Lib.hid BL'.out
  have O := Lib.hid O'.out
  clear X' BL' O'
  go_simp
  refine hK.out _ _ ⟨X.out, BL.out⟩ (fun hh => ?_)
  have HH' := Lib.hid hh
  clear hh hK K HH
  have HH := Lib.hid HH'.out
  clear HH'
  try simp only [List.getElem_toArray, List.getElem_cons_succ, List.getElem_cons_zero, Act.put, List.setIfInBounds_toArray, List.set_cons_zero, List.set_cons_succ]
  refine wpAnyH_ready (rs := [18]) (by kernel_rfl) (by simp) (AllReadyH.cons rfl (fun K hK => ?_) AllReadyH.nil)
  refine step_app _ (by rfl) (.tmp 42) (.tmp 47) _ rfl Wi.bytesElt (base := w.heap.size) (v := .slice B25 n25 e25) rfl O.out (m := 2) rfl (Rd.own Q26.out) ((bv_length _).trans (Wi.putL_length _ _)) (bv_one _) (by have := HN25.out; omega) BL.out.size ?_
  intro B27 e27 v27 ho hg _
  obtain ⟨n27, hn⟩ : ∃ n, n = n25 + 2 := ⟨_, rfl⟩
  obtain ⟨a27, ha⟩ : ∃ a, a = a25 ++ Wi.putL BK 2 := ⟨_, rfl⟩
  rw [← bv_append, ← hn, ← ha] at ho
  rw [← hn]
  have HN27 := Lib.hid (show n27 ≤ 11 from by rw [hn]; have := HN25.out; omega)
  have HD27 := Lib.hid ha
  have BL' := Lib.hid (app_below BL.out O.out hg (Nat.le_refl _) BL.out.size)
  have X' := Lib.hid (X.out.but (show But (fun q => (Value.slice B25 n25 e25).ownBlock = some q) v26 v27 from (But.refl _).grown hg (fun q hq => .inl hq)) (fun hq => by
    obtain ⟨_, cs', hc⟩ := row_typeC O.out _ hq
    have hx : v26.heap[w.heap.size]? = some (.cells _ 44 (0, 0)) := X.out
    rw [hx] at hc
    injection hc with hc; injection hc with _ hc; exact absurd hc (by decide)))
  clear O X BL Q26 hg hn ha
  have O := Lib.hid ho
  have X := Lib.hid X'.out
  have BL := Lib.hid BL'.out
  clear ho X' BL'
  refine hK.out _ _ ⟨X.out, BL.out⟩ (fun hh => ?_)
  have HH' := Lib.hid hh
  clear hh hK K HH
  have HH := Lib.hid HH'.out
  clear HH'
  refine wpAnyH_take (i := 19) (v := ?vR42819) rfl (by kernel_rfl) (by kernel_rfl) (by kernel_rfl) (fun _ _ _ h => h) (Or.inl ⟨by rfl, fun w' _ => ?yR42819⟩) HH.out ?_
  case yR42819 => (go_simp; try with_reducible rfl)
  try simp only [List.getElem_toArray, List.getElem_cons_succ, List.getElem_cons_zero, Act.put, List.setIfInBounds_toArray, List.set_cons_zero, List.set_cons_succ]
  refine wpAnyH_done (by kernel_rfl) ?_ _
  have c6 := (X.out.cell 6).trans HC.out.2.2.2.2.2.2.1
  go_wp2_with fail
  refine (cput_in RF 2 _ HKR.out (by omega)).mono ?_
  rintro e v29 ⟨B29, m29, e29, rfl, ho, bw⟩
  obtain rfl : 2 = m29 := by have h1 := own_blen ho; rw [Wi.putL_length] at h1; exact h1
  have X' := Lib.hid (Blk.below X.out bw)
  have BL' := Lib.hid (BL.out.trans (bw.mono BL.out.size))
  have Q29 := Lib.hid (own_more ho BL.out.size)
  have O' := Lib.hid (own_below O.out bw)
  clear ho bw X BL O
  have X := Lib.hid X'.out
  have BL := Lib.hid BL'.out
  have O := Lib.hid O'.out
  clear X' BL' O'
  clear c6
  go_wp2_with (at_builtin; refine wpList_app _ rfl (.tmp 50) (.tmp 53) _ rfl Wi.bytesElt (base := w.heap.size) (v := .slice B27 n27 e27) rfl O.out (m := 2) rfl (Rd.own Q29.out) ((bv_length _).trans (Wi.putL_length _ _)) (bv_one _) ?_ ?_ ?_; (have := HN27.out; omega); (exact BL.out.size); intro B30 e30 v30 ho hg _; apply Classical.byContradiction; intro hneg)
  refine hneg ?_
  clear hneg
  obtain ⟨n30, hn⟩ : ∃ n, n = n27 + 2 := ⟨_, rfl⟩
  obtain ⟨a30, ha⟩ : ∃ a, a = a27 ++ Wi.putL RF 2 := ⟨_, rfl⟩
  rw [← bv_append, ← hn, ← ha] at ho
  rw [← hn]
  have HN30 := Lib.hid (show n30 ≤ 13 from by rw [hn]; have := HN27.out; omega)
  have HD30 := Lib.hid ha
  have BL' := Lib.hid (app_below BL.out O.out hg (Nat.le_refl _) BL.out.size)
  have X' := Lib.hid (X.out.but (show But (fun q => (Value.slice B27 n27 e27).ownBlock = some q) v29 v30 from (But.refl _).grown hg (fun q hq => .inl hq)) (fun hq => by
    obtain ⟨_, cs', hc⟩ := row_typeC O.out _ hq
    have hx : v29.heap[w.heap.size]? = some (.cells _ 44 (0, 0)) := X.out
    rw [hx] at hc
    injection hc with hc; injection hc with _ hc; exact absurd hc (by decide)))
  clear O X BL Q29 hg hn ha
  have O := Lib.hid ho
  have X := Lib.hid X'.out
  have BL := Lib.hid BL'.out
  clear ho X' BL' 
  go_upto_region 10 with fail
  have XD := Lib.hid (show Blk v30.drew w.heap.size cs 44 from X.out)
  have BD := Lib.hid BL.out.drew
  have OD := Lib.hid (show v30.drew.ownsRow w.heap.size 5 1 (.slice B30 n30 e30) n30 (bv a30) from O.out)
  clear X BL O
  have X := Lib.hid XD.out
  have BL := Lib.hid BD.out
  have O := Lib.hid OD.out
  clear XD BD OD
  refine wp_region_held_drew (S := (fun w' => Blk w' w.heap.size cs 44 ∧ Below w.heap.size w w')) (by kernel_rfl) ⟨X.out, BL.out⟩ (fun hh => ?_)
  have HH := Lib.hid hh
  clear hh
  refine wpAnyH_take (i := 0) (v := ?vRA330) rfl (by kernel_rfl) (by kernel_rfl) (by kernel_rfl) (fun _ _ _ h => h) (Or.inl ⟨by rfl, fun w' _ => ?yRA330⟩) HH.out ?_
  case yRA330 => (go_simp; try with_reducible rfl)
  refine wpAnyH_take (i := 1) (v := ?vRA341) rfl (by kernel_rfl) (by kernel_rfl) (by kernel_rfl) (fun _ _ _ h => h) (Or.inl ⟨by rfl, fun w' _ => ?yRA341⟩) HH.out ?_
  case yRA341 => (go_simp; try with_reducible rfl)
  try simp only [List.getElem_toArray, List.getElem_cons_succ, List.getElem_cons_zero, Act.put, List.setIfInBounds_toArray, List.set_cons_zero, List.set_cons_succ]
  refine wpAnyH_take (i := 2) (v := .slice A LN c) rfl (by kernel_rfl) (by kernel_rfl) (by kernel_rfl) (fun _ _ _ h => h) (Or.inl ⟨by rfl, fun w' hw' => ?yRA2⟩) HH.out ?_
  case yRA2 => (have hc := (hw'.1.cell 10).trans HC.out.2.2.2.2.2.2.2; go_simp; try with_reducible rfl)
  refine wpAnyH_take (i := 3) (v := ?vRA353) rfl (by kernel_rfl) (by kernel_rfl) (by kernel_rfl) (fun _ _ _ h => h) (Or.inl ⟨by rfl, fun w' _ => ?yRA353⟩) HH.out ?_
  case yRA353 => (go_simp; try with_reducible rfl)
  refine wpAnyH_take (i := 4) (v := ?vRA364) rfl (by kernel_rfl) (by kernel_rfl) (by kernel_rfl) (fun _ _ _ h => h) (Or.inl ⟨by rfl, fun w' _ => ?yRA364⟩) HH.out ?_
  case yRA364 => (go_simp; try with_reducible rfl)
  refine wpAnyH_take (i := 7) (v := ?vRA377) rfl (by kernel_rfl) (by kernel_rfl) (by kernel_rfl) (fun _ _ _ h => h) (Or.inl ⟨by rfl, fun w' _ => ?yRA377⟩) HH.out ?_
  case yRA377 => (go_simp; try with_reducible rfl)
  try simp only [List.getElem_toArray, List.getElem_cons_succ, List.getElem_cons_zero, Act.put, List.setIfInBounds_toArray, List.set_cons_zero, List.set_cons_succ]
  refine wpAnyH_take (i := 8) (v := .slice A LN c) rfl (by kernel_rfl) (by kernel_rfl) (by kernel_rfl) (fun _ _ _ h => h) (Or.inl ⟨by rfl, fun w' hw' => ?yRA8⟩) HH.out ?_
  case yRA8 => (have hc := (hw'.1.cell 10).trans HC.out.2.2.2.2.2.2.2; go_simp; try with_reducible rfl)
  try simp only [List.getElem_toArray, List.getElem_cons_succ, List.getElem_cons_zero, Act.put, List.setIfInBounds_toArray, List.set_cons_zero, List.set_cons_succ]
  refine wpAnyH_ready (rs := [5]) (by kernel_rfl) (by simp) (AllReadyH.cons rfl (fun K hK => ?_) AllReadyH.nil)
  go_simp
  obtain ⟨u1, hu1⟩ : ∃ v, v = (World.alloc v30 (.cells #[.int .u8 (LN : Int)] 5)).drew := ⟨_, rfl⟩
  rw [← hu1]
  have bu : Below v30.heap.size v30 u1 := by rw [hu1]; exact (bel1 v30 _).drew
  have X' := Lib.hid (Blk.below (w := v30) X.out bu)
  have BL' := Lib.hid ((show Below w.heap.size w v30 from ⟨BL.out.os, BL.out.tape, BL.out.output, BL.out.size, BL.out.block⟩).trans (bu.mono BL.out.size))
  have O' := Lib.hid (own_below (w := v30) O.out bu)
  have RL := Lib.hid (show Rd (v30.heap.size + 1) u1 (some ⟨v30.heap.size, 0, none⟩) [.int .u8 (LN : Int)] from by rw [hu1]; exact (Rd.lit v30 5 [.int .u8 (LN : Int)]).drewN 1)
  obtain ⟨gu, hgu⟩ : ∃ g, g = v30.heap.size := ⟨_, rfl⟩
  rw [← hgu] at RL ⊢
  clear hu1 bu X BL O hgu
  have X := Lib.hid X'.out
  have BL := Lib.hid BL'.out
  have O := Lib.hid O'.out
  clear X' BL' O'
  refine hK.out _ _ ⟨X.out, BL.out⟩ (fun hh => ?_)
  have HH' := Lib.hid hh
  clear hh hK K HH
  have HH := Lib.hid HH'.out
  clear HH'
  try simp only [List.getElem_toArray, List.getElem_cons_succ, List.getElem_cons_zero, Act.put, List.setIfInBounds_toArray, List.set_cons_zero, List.set_cons_succ]
  refine wpAnyH_ready (rs := [6]) (by kernel_rfl) (by simp) (AllReadyH.cons rfl (fun K hK => ?_) AllReadyH.nil)
  refine step_app _ (by rfl) (.tmp 73) (.tmp 78) _ rfl Wi.bytesElt (base := w.heap.size) (v := .slice B30 n30 e30) rfl O.out (m := 1) rfl RL.out rfl (by simp [Value.oneCell']) (by have := HN30.out; omega) BL.out.size ?_
  intro B31 e31 v31 ho hg _
  obtain ⟨n31, hn⟩ : ∃ n, n = n30 + 1 := ⟨_, rfl⟩
  obtain ⟨a31, ha⟩ : ∃ a, a = a30 ++ Wi.putL LN 1 := ⟨_, rfl⟩
  have e1 : [Value.int .u8 (LN : Int)] = bv (Wi.putL LN 1) := by rw [put1]; unfold bv; simp; have := HKL.out; omega
  rw [e1, ← bv_append, ← hn, ← ha] at ho
  rw [← hn]
  have HN31 := Lib.hid (show n31 ≤ 14 from by rw [hn]; have := HN30.out; omega)
  have HD31 := Lib.hid ha
  have BL' := Lib.hid (app_below BL.out O.out hg (Nat.le_refl _) BL.out.size)
  have X' := Lib.hid (X.out.but (show But (fun q => (Value.slice B30 n30 e30).ownBlock = some q) u1 v31 from (But.refl _).grown hg (fun q hq => .inl hq)) (fun hq => by
    obtain ⟨_, cs', hc⟩ := row_typeC O.out _ hq
    have hx : u1.heap[w.heap.size]? = some (.cells _ 44 (0, 0)) := X.out
    rw [hx] at hc
    injection hc with hc; injection hc with _ hc; exact absurd hc (by decide)))
  clear O X BL RL hg hn ha e1
  have O := Lib.hid ho
  have X := Lib.hid X'.out
  have BL := Lib.hid BL'.out
  clear ho X' BL'
  refine hK.out _ _ ⟨X.out, BL.out⟩ (fun hh => ?_)
  have HH' := Lib.hid hh
  clear hh hK K HH
  have HH := Lib.hid HH'.out
  clear HH'
  try simp only [List.getElem_toArray, List.getElem_cons_succ, List.getElem_cons_zero, Act.put, List.setIfInBounds_toArray, List.set_cons_zero, List.set_cons_succ]
  refine wpAnyH_ready (rs := [9]) (by kernel_rfl) (by simp) (AllReadyH.cons rfl (fun K hK => ?_) AllReadyH.nil)
  refine step_app _ (by rfl) (.tmp 79) (.tmp 81) _ rfl Wi.bytesElt (base := w.heap.size) (v := .slice B31 n31 e31) rfl O.out (m := LN) rfl (HRD.out.below BL.out) ((bv_length _).trans HLN.out.symm) (bv_one _) (by have := HN31.out; have := HKL.out; omega) BL.out.size ?_
  intro B32 e32 v32 ho hg _
  obtain ⟨n32, hn⟩ : ∃ n, n = n31 + LN := ⟨_, rfl⟩
  obtain ⟨a32, ha⟩ : ∃ a, a = a31 ++ bd := ⟨_, rfl⟩
  rw [← bv_append, ← hn, ← ha] at ho
  rw [← hn]
  have HD32 := Lib.hid ha
  have BL' := Lib.hid (app_below BL.out O.out hg (Nat.le_refl _) BL.out.size)
  have X' := Lib.hid (X.out.but (show But (fun q => (Value.slice B31 n31 e31).ownBlock = some q) v31 v32 from (But.refl _).grown hg (fun q hq => .inl hq)) (fun hq => by
    obtain ⟨_, cs', hc⟩ := row_typeC O.out _ hq
    have hx : v31.heap[w.heap.size]? = some (.cells _ 44 (0, 0)) := X.out
    rw [hx] at hc
    injection hc with hc; injection hc with _ hc; exact absurd hc (by decide)))
  clear O X BL hg hn ha
  have O := Lib.hid ho
  have X := Lib.hid X'.out
  have BL := Lib.hid BL'.out
  clear ho X' BL'
  refine hK.out _ _ ⟨X.out, BL.out⟩ (fun hh => ?_)
  have HH' := Lib.hid hh
  clear hh hK K HH
  have HH := Lib.hid HH'.out
  clear HH'
  refine wpAnyH_take (i := 10) (v := ?vRA3810) rfl (by kernel_rfl) (by kernel_rfl) (by kernel_rfl) (fun _ _ _ h => h) (Or.inl ⟨by rfl, fun w' _ => ?yRA3810⟩) HH.out ?_
  case yRA3810 => (go_simp; try with_reducible rfl)
  try simp only [List.getElem_toArray, List.getElem_cons_succ, List.getElem_cons_zero, Act.put, List.setIfInBounds_toArray, List.set_cons_zero, List.set_cons_succ]
  refine wpAnyH_done (by kernel_rfl) ?_ _
  go_wp2_with fail
  go_ret
  refine RetRow.mk (n := n32) rfl ?_ BL.out
  rw [HEQ.out, show Wi.putL KD 1 ++ Wi.putL N 2 ++ Wi.putL M 4 ++ Wi.putL BR 1 ++ Wi.putL VO 1 ++ Wi.putL BK 2 ++ Wi.putL RF 2 ++ Wi.putL LN 1 ++ bd = a32 from by rw [HD32.out, HD31.out, HD30.out, HD27.out, HD25.out, HD23.out, HD10.out, HD8.out, HD6.out]]
  exact O.out
end Go.Proofs.Ythdmdlnndbjcoaa.Ce
/-
  Encode, as the document's answer tells it: some kinds.
-/
namespace Go.Proofs.Ythdmdlnndbjcoaa.Ce
open Go.RowKit
attribute [local go_sem ↓] Go.wp_at_zero Go.wp_at_succ

set_option maxRecDepth 100000 in
set_option maxHeartbeats 12800000 in
theorem cenc_dr (x : Cl) (hk : x.kind = 5) (ok : okCl x) (A : Option Addr) (c : Nat) (w : World) (hr : Rd w.heap.size w A (bv x.body)) :
    Calls Try.prog 43 #[.agg (clA x A c)] w (RetRow 5 (bv (encCl x)) w) := by
  have HE : encCl x = Wi.putL x.kind.toNat 1 ++ Wi.putL x.num 2 ++ Wi.putL x.min.toNat 4 ++ Wi.putL x.br.toNat 1 ++ Wi.putL x.vol.toNat 1 ++ Wi.putL x.blk.toNat 2 := by
    unfold encCl
    rw [show hasP x.kind = true from decide_eq_true (by omega), show hasR x.kind = false from decide_eq_false (by omega), show hasS x.kind = false from decide_eq_false (by omega), show hasB x.kind = false from decide_eq_false (by omega)]
    simp only [if_true, if_false, Bool.false_eq_true, List.append_nil, List.append_assoc]
  have hq := ok.2.2
  unfold kindOk thereC elderC noS noP minC at hq
  have hm1 := ok.2.1
  unfold minC at hm1
  have hn1 := ok.1
  obtain ⟨KD, hKD⟩ : ∃ K : Nat, x.kind = (K : Int) := ⟨x.kind.toNat, by omega⟩
  obtain ⟨M, hM⟩ : ∃ M : Nat, x.min = (M : Int) := ⟨x.min.toNat, by omega⟩
  have HPO := Lib.hid (show ∀ W, Calls Try.prog 78 #[.int .i64 (KD : Int)] W (RetS (.tuple #[.bool true, .bool false, .bool false, .bool false]) W) from fun W => by
    have h := chas_any x.kind W
    rw [show hasP x.kind = true from decide_eq_true (by omega), show hasR x.kind = false from decide_eq_false (by omega), show hasS x.kind = false from decide_eq_false (by omega), show hasB x.kind = false from decide_eq_false (by omega), hKD] at h
    exact h)
  obtain ⟨BR, hBR⟩ : ∃ n : Nat, x.br = (n : Int) := ⟨x.br.toNat, by omega⟩
  obtain ⟨VO, hVO⟩ : ∃ n : Nat, x.vol = (n : Int) := ⟨x.vol.toNat, by omega⟩
  obtain ⟨BK, hBK⟩ : ∃ n : Nat, x.blk = (n : Int) := ⟨x.blk.toNat, by omega⟩
  rw [hKD, hM, hBR, hVO, hBK] at HE
  simp only [Int.toNat_natCast] at HE
  obtain ⟨cs, hcs⟩ : ∃ cs, cs = clA x A c := ⟨_, rfl⟩
  have HC := Lib.hid (show cs[0]? = some (.int .i64 (KD : Int)) ∧ cs[1]? = some (.int .u64 (x.num : Int)) ∧ cs[2]? = some (.int .i64 (M : Int)) ∧ cs[3]? = some (.int .i64 (BR : Int)) ∧ cs[4]? = some (.int .i64 (VO : Int)) ∧ cs[5]? = some (.int .i64 (BK : Int)) ∧ cs[6]? = some (.int .u64 (x.ref : Int)) ∧ cs[10]? = some (.slice A x.body.length c) from by rw [hcs]; unfold clA; rw [hKD, hM, hBR, hVO, hBK]; exact ⟨rfl, rfl, rfl, rfl, rfl, rfl, rfl, rfl⟩)
  obtain ⟨w0, hw0⟩ : ∃ w0, w0 = w.alloc (.cells cs 44) := ⟨_, rfl⟩
  have BL := Lib.hid (show Below w.heap.size w w0 from by rw [hw0]; exact bel1 _ _)
  have X := Lib.hid (show Blk w0 w.heap.size cs 44 from by rw [hw0]; exact heap_alloc_new _ _)
  rw [← hcs]
  obtain ⟨N, hN⟩ : ∃ N, N = x.num := ⟨_, rfl⟩
  obtain ⟨RF, hRF⟩ : ∃ RF, RF = x.ref := ⟨_, rfl⟩
  obtain ⟨bd, hbd⟩ : ∃ bd, bd = x.body := ⟨_, rfl⟩
  obtain ⟨LN, hLN⟩ : ∃ n, n = bd.length := ⟨_, rfl⟩
  rw [← hN] at HE
  rw [← hN, ← hRF, ← hbd, ← hLN] at HC
  
  
  rw [← hbd] at hr
  have kN : N < 18446744073709551616 := by rw [hN]; omega
  have kK : KD < 18446744073709551616 := by omega
  have kM : M < 18446744073709551616 := by omega
  
  have kLN : LN < 200 := by rw [hLN, hbd]; have := (okCl_body ok).1; omega
  have HKN := Lib.hid kN
  have HKK := Lib.hid kK
  have HKM := Lib.hid kM
  
  have HKL := Lib.hid kLN
  have wK : IntKind.u64.wrap (KD : Int) = (KD : Int) := IntWalk.u64_in _ (by omega)
  have wM : IntKind.u64.wrap (M : Int) = (M : Int) := IntWalk.u64_in _ (by omega)
  have wL : IntKind.u8.wrap (LN : Int) = (LN : Int) := IntWalk.u8_in _ (by omega)
  have l0 : (0 : Int) ≤ (LN : Int) := by omega
  have l1 : (LN : Int) ≤ 255 := by omega
  have HKBR := Lib.hid (show BR < 18446744073709551616 by omega)
  have wBR : IntKind.u64.wrap (BR : Int) = (BR : Int) := IntWalk.u64_in _ (by omega)
  have HKVO := Lib.hid (show VO < 18446744073709551616 by omega)
  have wVO : IntKind.u64.wrap (VO : Int) = (VO : Int) := IntWalk.u64_in _ (by omega)
  have HKBK := Lib.hid (show BK < 18446744073709551616 by omega)
  have wBK : IntKind.u64.wrap (BK : Int) = (BK : Int) := IntWalk.u64_in _ (by omega)
  have HEQ := Lib.hid HE
  have HRD := Lib.hid hr
  have HLN := Lib.hid hLN
  clear hq hm1 hn1 hKD hM hBR hVO hBK hcs hN hRF hbd ok hk kN kK kM kLN hr HE hLN
  go_enter Try.func43, Try.ntmps43
  go_upto_region 1 with fail
  rw [← hw0]
  clear hw0
  have XD := Lib.hid (show Blk w0.drew w.heap.size cs 44 from X.out)
  have BD := Lib.hid BL.out.drew
  clear X BL
  have X := Lib.hid XD.out
  have BL := Lib.hid BD.out
  clear XD BD
  refine wp_region_held_drew (S := (fun w' => Blk w' w.heap.size cs 44 ∧ Below w.heap.size w w')) (by kernel_rfl) ⟨X.out, BL.out⟩ (fun hh => ?_)
  have HH := Lib.hid hh
  clear hh
  refine wpAnyH_take (i := 0) (v := ?vR110) rfl (by kernel_rfl) (by kernel_rfl) (by kernel_rfl) (fun _ _ _ h => h) (Or.inl ⟨by rfl, fun w' _ => ?yR110⟩) HH.out ?_
  case yR110 => (go_simp; try with_reducible rfl)
  try simp only [List.getElem_toArray, List.getElem_cons_zero, Act.put, List.setIfInBounds_toArray, List.set_cons_zero, List.set_cons_succ]
  refine wpAnyH_take (i := 1) (v := .int .i64 (KD : Int)) rfl (by kernel_rfl) (by kernel_rfl) (by kernel_rfl) (fun _ _ _ h => h) (Or.inl ⟨by rfl, fun w' hw' => ?yR11⟩) HH.out ?_
  case yR11 => (have hc := (hw'.1.cell 0).trans HC.out.1; go_simp; try with_reducible rfl)
  refine wpAnyH_take (i := 2) (v := ?vR122) rfl (by kernel_rfl) (by kernel_rfl) (by kernel_rfl) (fun _ _ _ h => h) (Or.inl ⟨by rfl, fun w' _ => ?yR122⟩) HH.out ?_
  case yR122 => (go_simp; try with_reducible rfl)
  refine wpAnyH_take (i := 4) (v := ?vR134) rfl (by kernel_rfl) (by kernel_rfl) (by kernel_rfl) (fun _ _ _ h => h) (Or.inl ⟨by rfl, fun w' _ => ?yR134⟩) HH.out ?_
  case yR134 => (go_simp; try with_reducible rfl)
  try simp only [List.getElem_toArray, List.getElem_cons_succ, List.getElem_cons_zero, Act.put, List.setIfInBounds_toArray, List.set_cons_zero, List.set_cons_succ]
  refine wpAnyH_take (i := 5) (v := .int .u64 (N : Int)) rfl (by kernel_rfl) (by kernel_rfl) (by kernel_rfl) (fun _ _ _ h => h) (Or.inl ⟨by rfl, fun w' hw' => ?yR15⟩) HH.out ?_
  case yR15 => (have hc := (hw'.1.cell 1).trans HC.out.2.1; go_simp; try with_reducible rfl)
  refine wpAnyH_take (i := 8) (v := ?vR148) rfl (by kernel_rfl) (by kernel_rfl) (by kernel_rfl) (fun _ _ _ h => h) (Or.inl ⟨by rfl, fun w' _ => ?yR148⟩) HH.out ?_
  case yR148 => (go_simp; try with_reducible rfl)
  try simp only [List.getElem_toArray, List.getElem_cons_succ, List.getElem_cons_zero, Act.put, List.setIfInBounds_toArray, List.set_cons_zero, List.set_cons_succ]
  refine wpAnyH_take (i := 9) (v := .int .i64 (M : Int)) rfl (by kernel_rfl) (by kernel_rfl) (by kernel_rfl) (fun _ _ _ h => h) (Or.inl ⟨by rfl, fun w' hw' => ?yR19⟩) HH.out ?_
  case yR19 => (have hc := (hw'.1.cell 2).trans HC.out.2.2.1; go_simp; try with_reducible rfl)
  refine wpAnyH_take (i := 10) (v := ?vR1510) rfl (by kernel_rfl) (by kernel_rfl) (by kernel_rfl) (fun _ _ _ h => h) (Or.inl ⟨by rfl, fun w' _ => ?yR1510⟩) HH.out ?_
  case yR1510 => (go_simp; try with_reducible rfl)
  try simp only [List.getElem_toArray, List.getElem_cons_succ, List.getElem_cons_zero, Act.put, List.setIfInBounds_toArray, List.set_cons_zero, List.set_cons_succ]
  refine wpAnyH_ready (rs := [3]) (by kernel_rfl) (by simp) (AllReadyH.cons rfl (fun K hK => ?_) AllReadyH.nil)
  go_simp
  refine (cput_in KD 1 _ HKK.out (by omega)).mono ?_
  rintro e v6 ⟨B6, m6, e6, rfl, ho, bw⟩
  obtain rfl : 1 = m6 := by have h1 := own_blen ho; rw [Wi.putL_length] at h1; exact h1
  have X' := Lib.hid (Blk.below X.out bw)
  have BL' := Lib.hid (BL.out.trans (bw.mono BL.out.size))
  have Q6 := Lib.hid (own_more ho BL.out.size)
  clear ho bw X BL
  have X := Lib.hid X'.out
  have BL := Lib.hid BL'.out
  clear X' BL'
  go_simp
  refine hK.out _ _ ⟨X.out, BL.out⟩ (fun hh => ?_)
  have HH' := Lib.hid hh
  clear hh hK K HH
  have HH := Lib.hid HH'.out
  clear HH'
  obtain ⟨a6, ha6⟩ : ∃ a, a = Wi.putL KD 1 := ⟨_, rfl⟩
  have O := Lib.hid (show v6.ownsRow w.heap.size 5 1 (.slice B6 1 e6) 1 (bv a6) from by rw [ha6]; exact Q6.out)
  have HD6 := Lib.hid ha6
  clear ha6 Q6
  try simp only [List.getElem_toArray, List.getElem_cons_succ, List.getElem_cons_zero, Act.put, List.setIfInBounds_toArray, List.set_cons_zero, List.set_cons_succ]
  refine wpAnyH_ready (rs := [6]) (by kernel_rfl) (by simp) (AllReadyH.cons rfl (fun K hK => ?_) AllReadyH.nil)
  go_simp
  refine (cput_in N 2 _ HKN.out (by omega)).mono ?_
  rintro e v7 ⟨B7, m7, e7, rfl, ho, bw⟩
  obtain rfl : 2 = m7 := by have h1 := own_blen ho; rw [Wi.putL_length] at h1; exact h1
  have X' := Lib.hid (Blk.below X.out bw)
  have BL' := Lib.hid (BL.out.trans (bw.mono BL.out.size))
  have Q7 := Lib.hid (own_more ho BL.out.size)
  have O' := Lib.hid (own_below O.out bw)
  clear ho bw X BL O
  have X := Lib.hid X'.out
  have BL := Lib.hid BL'.out
  have O := Lib.hid O'.out
  clear X' BL' O'
  go_simp
  refine hK.out _ _ ⟨X.out, BL.out⟩ (fun hh => ?_)
  have HH' := Lib.hid hh
  clear hh hK K HH
  have HH := Lib.hid HH'.out
  clear HH'
  try simp only [List.getElem_toArray, List.getElem_cons_succ, List.getElem_cons_zero, Act.put, List.setIfInBounds_toArray, List.set_cons_zero, List.set_cons_succ]
  refine wpAnyH_ready (rs := [7]) (by kernel_rfl) (by simp) (AllReadyH.cons rfl (fun K hK => ?_) AllReadyH.nil)
  refine step_app _ (by rfl) (.tmp 11) (.tmp 14) _ rfl Wi.bytesElt (base := w.heap.size) (v := .slice B6 1 e6) rfl O.out (m := 2) rfl (Rd.own Q7.out) ((bv_length _).trans (Wi.putL_length _ _)) (bv_one _) (by omega) BL.out.size ?_
  intro B8 e8 v8 ho hg _
  obtain ⟨n8, hn⟩ : ∃ n, n = 1 + 2 := ⟨_, rfl⟩
  obtain ⟨a8, ha⟩ : ∃ a, a = a6 ++ Wi.putL N 2 := ⟨_, rfl⟩
  rw [← bv_append, ← hn, ← ha] at ho
  rw [← hn]
  have HN8 := Lib.hid (show n8 ≤ 3 from by rw [hn]; omega)
  have HD8 := Lib.hid ha
  have BL' := Lib.hid (app_below BL.out O.out hg (Nat.le_refl _) BL.out.size)
  have X' := Lib.hid (X.out.but (show But (fun q => (Value.slice B6 1 e6).ownBlock = some q) v7 v8 from (But.refl _).grown hg (fun q hq => .inl hq)) (fun hq => by
    obtain ⟨_, cs', hc⟩ := row_typeC O.out _ hq
    have hx : v7.heap[w.heap.size]? = some (.cells _ 44 (0, 0)) := X.out
    rw [hx] at hc
    injection hc with hc; injection hc with _ hc; exact absurd hc (by decide)))
  clear O X BL Q7 hg hn ha
  have O := Lib.hid ho
  have X := Lib.hid X'.out
  have BL := Lib.hid BL'.out
  clear ho X' BL'
  refine hK.out _ _ ⟨X.out, BL.out⟩ (fun hh => ?_)
  have HH' := Lib.hid hh
  clear hh hK K HH
  have HH := Lib.hid HH'.out
  clear HH'
  try simp only [List.getElem_toArray, List.getElem_cons_succ, List.getElem_cons_zero, Act.put, List.setIfInBounds_toArray, List.set_cons_zero, List.set_cons_succ]
  refine wpAnyH_ready (rs := [11]) (by kernel_rfl) (by simp) (AllReadyH.cons rfl (fun K hK => ?_) AllReadyH.nil)
  go_simp
  refine (cput_in M 4 _ HKM.out (by omega)).mono ?_
  rintro e v9 ⟨B9, m9, e9, rfl, ho, bw⟩
  obtain rfl : 4 = m9 := by have h1 := own_blen ho; rw [Wi.putL_length] at h1; exact h1
  have X' := Lib.hid (Blk.below X.out bw)
  have BL' := Lib.hid (BL.out.trans (bw.mono BL.out.size))
  have Q9 := Lib.hid (own_more ho BL.out.size)
  have O' := Lib.hid (own_below O.out bw)
  clear ho bw X BL O
  have X := Lib.hid X'.out
  have BL := Lib.hid BL'.out
  have O := Lib.hid O'.out
  clear X' BL' O'
  go_simp
  refine hK.out _ _ ⟨X.out, BL.out⟩ (fun hh => ?_)
  have HH' := Lib.hid hh
  clear hh hK K HH
  have HH := Lib.hid HH'.out
  clear HH'
  try simp only [List.getElem_toArray, List.getElem_cons_succ, List.getElem_cons_zero, Act.put, List.setIfInBounds_toArray, List.set_cons_zero, List.set_cons_succ]
  refine wpAnyH_ready (rs := [12]) (by kernel_rfl) (by simp) (AllReadyH.cons rfl (fun K hK => ?_) AllReadyH.nil)
  refine step_app _ (by rfl) (.tmp 15) (.tmp 19) _ rfl Wi.bytesElt (base := w.heap.size) (v := .slice B8 n8 e8) rfl O.out (m := 4) rfl (Rd.own Q9.out) ((bv_length _).trans (Wi.putL_length _ _)) (bv_one _) (by have := HN8.out; omega) BL.out.size ?_
  intro B10 e10 v10 ho hg _
  obtain ⟨n10, hn⟩ : ∃ n, n = n8 + 4 := ⟨_, rfl⟩
  obtain ⟨a10, ha⟩ : ∃ a, a = a8 ++ Wi.putL M 4 := ⟨_, rfl⟩
  rw [← bv_append, ← hn, ← ha] at ho
  rw [← hn]
  have HN10 := Lib.hid (show n10 ≤ 7 from by rw [hn]; have := HN8.out; omega)
  have HD10 := Lib.hid ha
  have BL' := Lib.hid (app_below BL.out O.out hg (Nat.le_refl _) BL.out.size)
  have X' := Lib.hid (X.out.but (show But (fun q => (Value.slice B8 n8 e8).ownBlock = some q) v9 v10 from (But.refl _).grown hg (fun q hq => .inl hq)) (fun hq => by
    obtain ⟨_, cs', hc⟩ := row_typeC O.out _ hq
    have hx : v9.heap[w.heap.size]? = some (.cells _ 44 (0, 0)) := X.out
    rw [hx] at hc
    injection hc with hc; injection hc with _ hc; exact absurd hc (by decide)))
  clear O X BL Q9 hg hn ha
  have O := Lib.hid ho
  have X := Lib.hid X'.out
  have BL := Lib.hid BL'.out
  clear ho X' BL'
  refine hK.out _ _ ⟨X.out, BL.out⟩ (fun hh => ?_)
  have HH' := Lib.hid hh
  clear hh hK K HH
  have HH := Lib.hid HH'.out
  clear HH'
  refine wpAnyH_take (i := 13) (v := ?vR11113) rfl (by kernel_rfl) (by kernel_rfl) (by kernel_rfl) (fun _ _ _ h => h) (Or.inl ⟨by rfl, fun w' _ => ?yR11113⟩) HH.out ?_
  case yR11113 => (go_simp; try with_reducible rfl)
  try simp only [List.getElem_toArray, List.getElem_cons_succ, List.getElem_cons_zero, Act.put, List.setIfInBounds_toArray, List.set_cons_zero, List.set_cons_succ]
  refine wpAnyH_done (by kernel_rfl) ?_ _
  have c0 := (X.out.cell 0).trans HC.out.1
  go_wp2_with fail
  refine (HPO.out _).mono ?_
  rintro e vh ⟨rfl, rfl⟩
  clear c0
  go_upto_region 4 with fail
  have XD := Lib.hid (show Blk vh.drew w.heap.size cs 44 from X.out)
  have BD := Lib.hid BL.out.drew
  have OD := Lib.hid (show vh.drew.ownsRow w.heap.size 5 1 (.slice B10 n10 e10) n10 (bv a10) from O.out)
  clear X BL O
  have X := Lib.hid XD.out
  have BL := Lib.hid BD.out
  have O := Lib.hid OD.out
  clear XD BD OD
  refine wp_region_held_drew (S := (fun w' => Blk w' w.heap.size cs 44 ∧ Below w.heap.size w w')) (by kernel_rfl) ⟨X.out, BL.out⟩ (fun hh => ?_)
  have HH := Lib.hid hh
  clear hh
  refine wpAnyH_take (i := 0) (v := ?vR4120) rfl (by kernel_rfl) (by kernel_rfl) (by kernel_rfl) (fun _ _ _ h => h) (Or.inl ⟨by rfl, fun w' _ => ?yR4120⟩) HH.out ?_
  case yR4120 => (go_simp; try with_reducible rfl)
  refine wpAnyH_take (i := 1) (v := ?vR4131) rfl (by kernel_rfl) (by kernel_rfl) (by kernel_rfl) (fun _ _ _ h => h) (Or.inl ⟨by rfl, fun w' _ => ?yR4131⟩) HH.out ?_
  case yR4131 => (go_simp; try with_reducible rfl)
  refine wpAnyH_take (i := 2) (v := ?vR4142) rfl (by kernel_rfl) (by kernel_rfl) (by kernel_rfl) (fun _ _ _ h => h) (Or.inl ⟨by rfl, fun w' _ => ?yR4142⟩) HH.out ?_
  case yR4142 => (go_simp; try with_reducible rfl)
  try simp only [List.getElem_toArray, List.getElem_cons_succ, List.getElem_cons_zero, Act.put, List.setIfInBounds_toArray, List.set_cons_zero, List.set_cons_succ]
  refine wpAnyH_take (i := 3) (v := .int .i64 (BR : Int)) rfl (by kernel_rfl) (by kernel_rfl) (by kernel_rfl) (fun _ _ _ h => h) (Or.inl ⟨by rfl, fun w' hw' => ?yR43⟩) HH.out ?_
  case yR43 => (have hc := (hw'.1.cell 3).trans HC.out.2.2.2.1; go_simp; try with_reducible rfl)
  refine wpAnyH_take (i := 4) (v := ?vR4154) rfl (by kernel_rfl) (by kernel_rfl) (by kernel_rfl) (fun _ _ _ h => h) (Or.inl ⟨by rfl, fun w' _ => ?yR4154⟩) HH.out ?_
  case yR4154 => (go_simp; try with_reducible rfl)
  refine wpAnyH_take (i := 7) (v := ?vR4167) rfl (by kernel_rfl) (by kernel_rfl) (by kernel_rfl) (fun _ _ _ h => h) (Or.inl ⟨by rfl, fun w' _ => ?yR4167⟩) HH.out ?_
  case yR4167 => (go_simp; try with_reducible rfl)
  refine wpAnyH_take (i := 8) (v := ?vR4178) rfl (by kernel_rfl) (by kernel_rfl) (by kernel_rfl) (fun _ _ _ h => h) (Or.inl ⟨by rfl, fun w' _ => ?yR4178⟩) HH.out ?_
  case yR4178 => (go_simp; try with_reducible rfl)
  try simp only [List.getElem_toArray, List.getElem_cons_succ, List.getElem_cons_zero, Act.put, List.setIfInBounds_toArray, List.set_cons_zero, List.set_cons_succ]
  refine wpAnyH_take (i := 9) (v := .int .i64 (VO : Int)) rfl (by kernel_rfl) (by kernel_rfl) (by kernel_rfl) (fun _ _ _ h => h) (Or.inl ⟨by rfl, fun w' hw' => ?yR49⟩) HH.out ?_
  case yR49 => (have hc := (hw'.1.cell 4).trans HC.out.2.2.2.2.1; go_simp; try with_reducible rfl)
  refine wpAnyH_take (i := 10) (v := ?vR41810) rfl (by kernel_rfl) (by kernel_rfl) (by kernel_rfl) (fun _ _ _ h => h) (Or.inl ⟨by rfl, fun w' _ => ?yR41810⟩) HH.out ?_
  case yR41810 => (go_simp; try with_reducible rfl)
  refine wpAnyH_take (i := 13) (v := ?vR41913) rfl (by kernel_rfl) (by kernel_rfl) (by kernel_rfl) (fun _ _ _ h => h) (Or.inl ⟨by rfl, fun w' _ => ?yR41913⟩) HH.out ?_
  case yR41913 => (go_simp; try with_reducible rfl)
  refine wpAnyH_take (i := 14) (v := ?vR42014) rfl (by kernel_rfl) (by kernel_rfl) (by kernel_rfl) (fun _ _ _ h => h) (Or.inl ⟨by rfl, fun w' _ => ?yR42014⟩) HH.out ?_
  case yR42014 => (go_simp; try with_reducible rfl)
  try simp only [List.getElem_toArray, List.getElem_cons_succ, List.getElem_cons_zero, Act.put, List.setIfInBounds_toArray, List.set_cons_zero, List.set_cons_succ]
  refine wpAnyH_take (i := 15) (v := .int .i64 (BK : Int)) rfl (by kernel_rfl) (by kernel_rfl) (by kernel_rfl) (fun _ _ _ h => h) (Or.inl ⟨by rfl, fun w' hw' => ?yR415⟩) HH.out ?_
  case yR415 => (have hc := (hw'.1.cell 5).trans HC.out.2.2.2.2.2.1; go_simp; try with_reducible rfl)
  refine wpAnyH_take (i := 16) (v := ?vR42116) rfl (by kernel_rfl) (by kernel_rfl) (by kernel_rfl) (fun _ _ _ h => h) (Or.inl ⟨by rfl, fun w' _ => ?yR42116⟩) HH.out ?_
  case yR42116 => (go_simp; try with_reducible rfl)
  try simp only [List.getElem_toArray, List.getElem_cons_succ, List.getElem_cons_zero, Act.put, List.setIfInBounds_toArray, List.set_cons_zero, List.set_cons_succ]
  refine wpAnyH_ready (rs := [5]) (by kernel_rfl) (by simp) (AllReadyH.cons rfl (fun K hK => ?_) AllReadyH.nil)
  go_simp
  refine (cput_in BR 1 _ HKBR.out (by omega)).mono ?_
  rintro e v22 ⟨B22, m22, e22, rfl, ho, bw⟩
  obtain rfl : 1 = m22 := by have h1 := own_blen ho; rw [Wi.putL_length] at h1; exact h1
  have X' := Lib.hid (Blk.below X.out bw)
  have BL' := Lib.hid (BL.out.trans (bw.mono BL.out.size))
  have Q22 := Lib.hid (own_more ho BL.out.size)
  have O' := Lib.hid (own_below O.out bw)
  clear ho bw X BL O
  have X := Lib.hid X'.out
  have BL := Lib.hid BL'.out
  have O := Lib.hid O'.out
  clear X' BL' O'
  go_simp
  refine hK.out _ _ ⟨X.out, BL.out⟩ (fun hh => ?_)
  have HH' := Lib.hid hh
  clear hh hK K HH
  have HH := Lib.hid HH'.out
  clear HH'
  try simp only [List.getElem_toArray, List.getElem_cons_succ, List.getElem_cons_zero, Act.put, List.setIfInBounds_toArray, List.set_cons_zero, List.set_cons_succ]
  refine wpAnyH_ready (rs := [6]) (by kernel_rfl) (by simp) (AllReadyH.cons rfl (fun K hK => ?_) AllReadyH.nil)
  refine step_app _ (by rfl) (.tmp 30) (.tmp 35) _ rfl Wi.bytesElt (base := w.heap.size) (v := .slice B10 n10 e10) rfl O.out (m := 1) rfl (Rd.own Q22.out) ((bv_length _).trans (Wi.putL_length _ _)) (bv_one _) (by have := HN10.out; omega) BL.out.size ?_
  intro B23 e23 v23 ho hg _
  obtain ⟨n23, hn⟩ : ∃ n, n = n10 + 1 := ⟨_, rfl⟩
  obtain ⟨a23, ha⟩ : ∃ a, a = a10 ++ Wi.putL BR 1 := ⟨_, rfl⟩
  rw [← bv_append, ← hn, ← ha] at ho
  rw [← hn]
  have HN23 := Lib.hid (show n23 ≤ 8 from by rw [hn]; have := HN10.out; omega)
  have HD23 := Lib.hid ha
  have BL' := Lib.hid (app_below BL.out O.out hg (Nat.le_refl _) BL.out.size)
  have X' := Lib.hid (X.out.but (show But (fun q => (Value.slice B10 n10 e10).ownBlock = some q) v22 v23 from (But.refl _).grown hg (fun q hq => .inl hq)) (fun hq => by
    obtain ⟨_, cs', hc⟩ := row_typeC O.out _ hq
    have hx : v22.heap[w.heap.size]? = some (.cells _ 44 (0, 0)) := X.out
    rw [hx] at hc
    injection hc with hc; injection hc with _ hc; exact absurd hc (by decide)))
  clear O X BL Q22 hg hn ha
  have O := Lib.hid ho
  have X := Lib.hid X'.out
  have BL := Lib.hid BL'.out
  clear ho X' BL'
  refine hK.out _ _ ⟨X.out, BL.out⟩ (fun hh => ?_)
  have HH' := Lib.hid hh
  clear hh hK K HH
  have HH := Lib.hid HH'.out
  clear HH'
  try simp only [List.getElem_toArray, List.getElem_cons_succ, List.getElem_cons_zero, Act.put, List.setIfInBounds_toArray, List.set_cons_zero, List.set_cons_succ]
  refine wpAnyH_ready (rs := [11]) (by kernel_rfl) (by simp) (AllReadyH.cons rfl (fun K hK => ?_) AllReadyH.nil)
  go_simp
  refine (cput_in VO 1 _ HKVO.out (by omega)).mono ?_
  rintro e v24 ⟨B24, m24, e24, rfl, ho, bw⟩
  obtain rfl : 1 = m24 := by have h1 := own_blen ho; rw [Wi.putL_length] at h1; exact h1
  have X' := Lib.hid (Blk.below X.out bw)
  have BL' := Lib.hid (BL.out.trans (bw.mono BL.out.size))
  have Q24 := Lib.hid (own_more ho BL.out.size)
  have O' := Lib.hid (own_below O.out bw)
  clear ho bw X BL O
  have X := Lib.hid X'.out
  have BL := Lib.hid BL'.out
  have O := Lib.hid O'.out
  clear X' BL' O'
  go_simp
  refine hK.out _ _ ⟨X.out, BL.out⟩ (fun hh => ?_)
  have HH' := Lib.hid hh
  clear hh hK K HH
  have HH := Lib.hid HH'.out
  clear HH'
  try simp only [List.getElem_toArray, List.getElem_cons_succ, List.getElem_cons_zero, Act.put, List.setIfInBounds_toArray, List.set_cons_zero, List.set_cons_succ]
  refine wpAnyH_ready (rs := [12]) (by kernel_rfl) (by simp) (AllReadyH.cons rfl (fun K hK => ?_) AllReadyH.nil)
  refine step_app _ (by rfl) (.tmp 36) (.tmp 41) _ rfl Wi.bytesElt (base := w.heap.size) (v := .slice B23 n23 e23) rfl O.out (m := 1) rfl (Rd.own Q24.out) ((bv_length _).trans (Wi.putL_length _ _)) (bv_one _) (by have := HN23.out; omega) BL.out.size ?_
  intro B25 e25 v25 ho hg _
  obtain ⟨n25, hn⟩ : ∃ n, n = n23 + 1 := ⟨_, rfl⟩
  obtain ⟨a25, ha⟩ : ∃ a, a = a23 ++ Wi.putL VO 1 := ⟨_, rfl⟩
  rw [← bv_append, ← hn, ← ha] at ho
  rw [← hn]
  have HN25 := Lib.hid (show n25 ≤ 9 from by rw [hn]; have := HN23.out; omega)
  have HD25 := Lib.hid ha
  have BL' := Lib.hid (app_below BL.out O.out hg (Nat.le_refl _) BL.out.size)
  have X' := Lib.hid (X.out.but (show But (fun q => (Value.slice B23 n23 e23).ownBlock = some q) v24 v25 from (But.refl _).grown hg (fun q hq => .inl hq)) (fun hq => by
    obtain ⟨_, cs', hc⟩ := row_typeC O.out _ hq
    have hx : v24.heap[w.heap.size]? = some (.cells _ 44 (0, 0)) := X.out
    rw [hx] at hc
    injection hc with hc; injection hc with _ hc; exact absurd hc (by decide)))
  clear O X BL Q24 hg hn ha
  have O := Lib.hid ho
  have X := Lib.hid X'.out
  have BL := Lib.hid BL'.out
  clear ho X' BL'
  refine hK.out _ _ ⟨X.out, BL.out⟩ (fun hh => ?_)
  have HH' := Lib.hid hh
  clear hh hK K HH
  have HH := Lib.hid HH'.out
  clear HH'
  try simp only [List.getElem_toArray, List.getElem_cons_succ, List.getElem_cons_zero, Act.put, List.setIfInBounds_toArray, List.set_cons_zero, List.set_cons_succ]
  refine wpAnyH_ready (rs := [17]) (by kernel_rfl) (by simp) (AllReadyH.cons rfl (fun K hK => ?_) AllReadyH.nil)
  go_simp
  refine (cput_in BK 2 _ HKBK.out (by omega)).mono ?_
  rintro e v26 ⟨B26, m26, e26, rfl, ho, bw⟩
  obtain rfl : 2 = m26 := by have h1 := own_blen ho; rw [Wi.putL_length] at h1; exact h1
  have X' := Lib.hid (Blk.below X.out bw)
  have BL' := Lib.hid (BL.out.trans (bw.mono BL.out.size))
  have Q26 := Lib.hid (own_more ho BL.out.size)
  have O' := Lib.hid (own_below O.out bw)
  clear ho bw X BL O
  have X := Lib.hid X'.out
  have BL := Lib.hid BL'.out
  have O := Lib.hid O'.out
  clear X' BL' O'
  go_simp
  refine hK.out _ _ ⟨X.out, BL.out⟩ (fun hh => ?_)
  have HH' := Lib.hid hh
  clear hh hK K HH
  have HH := Lib.hid HH'.out
  clear HH'
  try simp only [List.getElem_toArray, List.getElem_cons_succ, List.getElem_cons_zero, Act.put, List.setIfInBounds_toArray, List.set_cons_zero, List.set_cons_succ]
  refine wpAnyH_ready (rs := [18]) (by kernel_rfl) (by simp) (AllReadyH.cons rfl (fun K hK => ?_) AllReadyH.nil)
  refine step_app _ (by rfl) (.tmp 42) (.tmp 47) _ rfl Wi.bytesElt (base := w.heap.size) (v := .slice B25 n25 e25) rfl O.out (m := 2) rfl (Rd.own Q26.out) ((bv_length _).trans (Wi.putL_length _ _)) (bv_one _) (by have := HN25.out; omega) BL.out.size ?_
  intro B27 e27 v27 ho hg _
  obtain ⟨n27, hn⟩ : ∃ n, n = n25 + 2 := ⟨_, rfl⟩
  obtain ⟨a27, ha⟩ : ∃ a, a = a25 ++ Wi.putL BK 2 := ⟨_, rfl⟩
  rw [← bv_append, ← hn, ← ha] at ho
  rw [← hn]
  have HN27 := Lib.hid (show n27 ≤ 11 from by rw [hn]; have := HN25.out; omega)
  have HD27 := Lib.hid ha
  have BL' := Lib.hid (app_below BL.out O.out hg (Nat.le_refl _) BL.out.size)
  have X' := Lib.hid (X.out.but (show But (fun q => (Value.slice B25 n25 e25).ownBlock = some q) v26 v27 from (But.refl _).grown hg (fun q hq => .inl hq)) (fun hq => by
    obtain ⟨_, cs', hc⟩ := row_typeC O.out _ hq
    have hx : v26.heap[w.heap.size]? = some (.cells _ 44 (0, 0)) := X.out
    rw [hx] at hc
    injection hc with hc; injection hc with _ hc; exact absurd hc (by decide)))
  clear O X BL Q26 hg hn ha
  have O := Lib.hid ho
  have X := Lib.hid X'.out
  have BL := Lib.hid BL'.out
  clear ho X' BL'
  refine hK.out _ _ ⟨X.out, BL.out⟩ (fun hh => ?_)
  have HH' := Lib.hid hh
  clear hh hK K HH
  have HH := Lib.hid HH'.out
  clear HH'
  refine wpAnyH_take (i := 19) (v := ?vR42819) rfl (by kernel_rfl) (by kernel_rfl) (by kernel_rfl) (fun _ _ _ h => h) (Or.inl ⟨by rfl, fun w' _ => ?yR42819⟩) HH.out ?_
  case yR42819 => (go_simp; try with_reducible rfl)
  try simp only [List.getElem_toArray, List.getElem_cons_succ, List.getElem_cons_zero, Act.put, List.setIfInBounds_toArray, List.set_cons_zero, List.set_cons_succ]
  refine wpAnyH_done (by kernel_rfl) ?_ _
  go_wp2_with fail
  go_ret
  refine RetRow.mk (n := n27) rfl ?_ BL.out
  rw [HEQ.out, show Wi.putL KD 1 ++ Wi.putL N 2 ++ Wi.putL M 4 ++ Wi.putL BR 1 ++ Wi.putL VO 1 ++ Wi.putL BK 2 = a27 from by rw [HD27.out, HD25.out, HD23.out, HD10.out, HD8.out, HD6.out]]
  exact O.out
set_option maxRecDepth 100000 in
set_option maxHeartbeats 12800000 in
theorem cenc_ho (x : Cl) (hk : x.kind = 6) (ok : okCl x) (A : Option Addr) (c : Nat) (w : World) (hr : Rd w.heap.size w A (bv x.body)) :
    Calls Try.prog 43 #[.agg (clA x A c)] w (RetRow 5 (bv (encCl x)) w) := by
  have HE : encCl x = Wi.putL x.kind.toNat 1 ++ Wi.putL x.num 2 ++ Wi.putL x.min.toNat 4 ++ Wi.putL x.ref 2 ++ Wi.putL x.fr.toNat 4 ++ Wi.putL x.til.toNat 4 ++ Wi.putL x.un.toNat 4 := by
    unfold encCl
    rw [show hasP x.kind = false from decide_eq_false (by omega), show hasR x.kind = true from decide_eq_true (by omega), show hasS x.kind = true from decide_eq_true (by omega), show hasB x.kind = false from decide_eq_false (by omega)]
    simp only [if_true, if_false, Bool.false_eq_true, List.append_nil, List.append_assoc]
  have hq := ok.2.2
  unfold kindOk thereC elderC noS noP minC at hq
  have hm1 := ok.2.1
  unfold minC at hm1
  have hn1 := ok.1
  obtain ⟨KD, hKD⟩ : ∃ K : Nat, x.kind = (K : Int) := ⟨x.kind.toNat, by omega⟩
  obtain ⟨M, hM⟩ : ∃ M : Nat, x.min = (M : Int) := ⟨x.min.toNat, by omega⟩
  have HPO := Lib.hid (show ∀ W, Calls Try.prog 78 #[.int .i64 (KD : Int)] W (RetS (.tuple #[.bool false, .bool true, .bool true, .bool false]) W) from fun W => by
    have h := chas_any x.kind W
    rw [show hasP x.kind = false from decide_eq_false (by omega), show hasR x.kind = true from decide_eq_true (by omega), show hasS x.kind = true from decide_eq_true (by omega), show hasB x.kind = false from decide_eq_false (by omega), hKD] at h
    exact h)
  obtain ⟨FR, hFR⟩ : ∃ n : Nat, x.fr = (n : Int) := ⟨x.fr.toNat, by omega⟩
  obtain ⟨TI, hTI⟩ : ∃ n : Nat, x.til = (n : Int) := ⟨x.til.toNat, by omega⟩
  obtain ⟨UN, hUN⟩ : ∃ n : Nat, x.un = (n : Int) := ⟨x.un.toNat, by omega⟩
  rw [hKD, hM, hFR, hTI, hUN] at HE
  simp only [Int.toNat_natCast] at HE
  obtain ⟨cs, hcs⟩ : ∃ cs, cs = clA x A c := ⟨_, rfl⟩
  have HC := Lib.hid (show cs[0]? = some (.int .i64 (KD : Int)) ∧ cs[1]? = some (.int .u64 (x.num : Int)) ∧ cs[2]? = some (.int .i64 (M : Int)) ∧ cs[7]? = some (.int .i64 (FR : Int)) ∧ cs[8]? = some (.int .i64 (TI : Int)) ∧ cs[9]? = some (.int .i64 (UN : Int)) ∧ cs[6]? = some (.int .u64 (x.ref : Int)) ∧ cs[10]? = some (.slice A x.body.length c) from by rw [hcs]; unfold clA; rw [hKD, hM, hFR, hTI, hUN]; exact ⟨rfl, rfl, rfl, rfl, rfl, rfl, rfl, rfl⟩)
  obtain ⟨w0, hw0⟩ : ∃ w0, w0 = w.alloc (.cells cs 44) := ⟨_, rfl⟩
  have BL := Lib.hid (show Below w.heap.size w w0 from by rw [hw0]; exact bel1 _ _)
  have X := Lib.hid (show Blk w0 w.heap.size cs 44 from by rw [hw0]; exact heap_alloc_new _ _)
  rw [← hcs]
  obtain ⟨N, hN⟩ : ∃ N, N = x.num := ⟨_, rfl⟩
  obtain ⟨RF, hRF⟩ : ∃ RF, RF = x.ref := ⟨_, rfl⟩
  obtain ⟨bd, hbd⟩ : ∃ bd, bd = x.body := ⟨_, rfl⟩
  obtain ⟨LN, hLN⟩ : ∃ n, n = bd.length := ⟨_, rfl⟩
  rw [← hN] at HE
  rw [← hN, ← hRF, ← hbd, ← hLN] at HC
  rw [← hRF] at HE
  
  rw [← hbd] at hr
  have kN : N < 18446744073709551616 := by rw [hN]; omega
  have kK : KD < 18446744073709551616 := by omega
  have kM : M < 18446744073709551616 := by omega
  have kRF : RF < 18446744073709551616 := by rw [hRF]; omega
  have kLN : LN < 200 := by rw [hLN, hbd]; have := (okCl_body ok).1; omega
  have HKN := Lib.hid kN
  have HKK := Lib.hid kK
  have HKM := Lib.hid kM
  have HKR := Lib.hid kRF
  have HKL := Lib.hid kLN
  have wK : IntKind.u64.wrap (KD : Int) = (KD : Int) := IntWalk.u64_in _ (by omega)
  have wM : IntKind.u64.wrap (M : Int) = (M : Int) := IntWalk.u64_in _ (by omega)
  have wL : IntKind.u8.wrap (LN : Int) = (LN : Int) := IntWalk.u8_in _ (by omega)
  have l0 : (0 : Int) ≤ (LN : Int) := by omega
  have l1 : (LN : Int) ≤ 255 := by omega
  have HKFR := Lib.hid (show FR < 18446744073709551616 by omega)
  have wFR : IntKind.u64.wrap (FR : Int) = (FR : Int) := IntWalk.u64_in _ (by omega)
  have HKTI := Lib.hid (show TI < 18446744073709551616 by omega)
  have wTI : IntKind.u64.wrap (TI : Int) = (TI : Int) := IntWalk.u64_in _ (by omega)
  have HKUN := Lib.hid (show UN < 18446744073709551616 by omega)
  have wUN : IntKind.u64.wrap (UN : Int) = (UN : Int) := IntWalk.u64_in _ (by omega)
  have HEQ := Lib.hid HE
  have HRD := Lib.hid hr
  have HLN := Lib.hid hLN
  clear hq hm1 hn1 hKD hM hFR hTI hUN hcs hN hRF hbd ok hk kN kK kM kLN kRF hr HE hLN
  go_enter Try.func43, Try.ntmps43
  go_upto_region 1 with fail
  rw [← hw0]
  clear hw0
  have XD := Lib.hid (show Blk w0.drew w.heap.size cs 44 from X.out)
  have BD := Lib.hid BL.out.drew
  clear X BL
  have X := Lib.hid XD.out
  have BL := Lib.hid BD.out
  clear XD BD
  refine wp_region_held_drew (S := (fun w' => Blk w' w.heap.size cs 44 ∧ Below w.heap.size w w')) (by kernel_rfl) ⟨X.out, BL.out⟩ (fun hh => ?_)
  have HH := Lib.hid hh
  clear hh
  refine wpAnyH_take (i := 0) (v := ?vR110) rfl (by kernel_rfl) (by kernel_rfl) (by kernel_rfl) (fun _ _ _ h => h) (Or.inl ⟨by rfl, fun w' _ => ?yR110⟩) HH.out ?_
  case yR110 => (go_simp; try with_reducible rfl)
  try simp only [List.getElem_toArray, List.getElem_cons_zero, Act.put, List.setIfInBounds_toArray, List.set_cons_zero, List.set_cons_succ]
  refine wpAnyH_take (i := 1) (v := .int .i64 (KD : Int)) rfl (by kernel_rfl) (by kernel_rfl) (by kernel_rfl) (fun _ _ _ h => h) (Or.inl ⟨by rfl, fun w' hw' => ?yR11⟩) HH.out ?_
  case yR11 => (have hc := (hw'.1.cell 0).trans HC.out.1; go_simp; try with_reducible rfl)
  refine wpAnyH_take (i := 2) (v := ?vR122) rfl (by kernel_rfl) (by kernel_rfl) (by kernel_rfl) (fun _ _ _ h => h) (Or.inl ⟨by rfl, fun w' _ => ?yR122⟩) HH.out ?_
  case yR122 => (go_simp; try with_reducible rfl)
  refine wpAnyH_take (i := 4) (v := ?vR134) rfl (by kernel_rfl) (by kernel_rfl) (by kernel_rfl) (fun _ _ _ h => h) (Or.inl ⟨by rfl, fun w' _ => ?yR134⟩) HH.out ?_
  case yR134 => (go_simp; try with_reducible rfl)
  try simp only [List.getElem_toArray, List.getElem_cons_succ, List.getElem_cons_zero, Act.put, List.setIfInBounds_toArray, List.set_cons_zero, List.set_cons_succ]
  refine wpAnyH_take (i := 5) (v := .int .u64 (N : Int)) rfl (by kernel_rfl) (by kernel_rfl) (by kernel_rfl) (fun _ _ _ h => h) (Or.inl ⟨by rfl, fun w' hw' => ?yR15⟩) HH.out ?_
  case yR15 => (have hc := (hw'.1.cell 1).trans HC.out.2.1; go_simp; try with_reducible rfl)
  refine wpAnyH_take (i := 8) (v := ?vR148) rfl (by kernel_rfl) (by kernel_rfl) (by kernel_rfl) (fun _ _ _ h => h) (Or.inl ⟨by rfl, fun w' _ => ?yR148⟩) HH.out ?_
  case yR148 => (go_simp; try with_reducible rfl)
  try simp only [List.getElem_toArray, List.getElem_cons_succ, List.getElem_cons_zero, Act.put, List.setIfInBounds_toArray, List.set_cons_zero, List.set_cons_succ]
  refine wpAnyH_take (i := 9) (v := .int .i64 (M : Int)) rfl (by kernel_rfl) (by kernel_rfl) (by kernel_rfl) (fun _ _ _ h => h) (Or.inl ⟨by rfl, fun w' hw' => ?yR19⟩) HH.out ?_
  case yR19 => (have hc := (hw'.1.cell 2).trans HC.out.2.2.1; go_simp; try with_reducible rfl)
  refine wpAnyH_take (i := 10) (v := ?vR1510) rfl (by kernel_rfl) (by kernel_rfl) (by kernel_rfl) (fun _ _ _ h => h) (Or.inl ⟨by rfl, fun w' _ => ?yR1510⟩) HH.out ?_
  case yR1510 => (go_simp; try with_reducible rfl)
  try simp only [List.getElem_toArray, List.getElem_cons_succ, List.getElem_cons_zero, Act.put, List.setIfInBounds_toArray, List.set_cons_zero, List.set_cons_succ]
  refine wpAnyH_ready (rs := [3]) (by kernel_rfl) (by simp) (AllReadyH.cons rfl (fun K hK => ?_) AllReadyH.nil)
  go_simp
  refine (cput_in KD 1 _ HKK.out (by omega)).mono ?_
  rintro e v6 ⟨B6, m6, e6, rfl, ho, bw⟩
  obtain rfl : 1 = m6 := by have h1 := own_blen ho; rw [Wi.putL_length] at h1; exact h1
  have X' := Lib.hid (Blk.below X.out bw)
  have BL' := Lib.hid (BL.out.trans (bw.mono BL.out.size))
  have Q6 := Lib.hid (own_more ho BL.out.size)
  clear ho bw X BL
  have X := Lib.hid X'.out
  have BL := Lib.hid BL'.out
  clear X' BL'
  go_simp
  refine hK.out _ _ ⟨X.out, BL.out⟩ (fun hh => ?_)
  have HH' := Lib.hid hh
  clear hh hK K HH
  have HH := Lib.hid HH'.out
  clear HH'
  obtain ⟨a6, ha6⟩ : ∃ a, a = Wi.putL KD 1 := ⟨_, rfl⟩
  have O := Lib.hid (show v6.ownsRow w.heap.size 5 1 (.slice B6 1 e6) 1 (bv a6) from by rw [ha6]; exact Q6.out)
  have HD6 := Lib.hid ha6
  clear ha6 Q6
  try simp only [List.getElem_toArray, List.getElem_cons_succ, List.getElem_cons_zero, Act.put, List.setIfInBounds_toArray, List.set_cons_zero, List.set_cons_succ]
  refine wpAnyH_ready (rs := [6]) (by kernel_rfl) (by simp) (AllReadyH.cons rfl (fun K hK => ?_) AllReadyH.nil)
  go_simp
  refine (cput_in N 2 _ HKN.out (by omega)).mono ?_
  rintro e v7 ⟨B7, m7, e7, rfl, ho, bw⟩
  obtain rfl : 2 = m7 := by have h1 := own_blen ho; rw [Wi.putL_length] at h1; exact h1
  have X' := Lib.hid (Blk.below X.out bw)
  have BL' := Lib.hid (BL.out.trans (bw.mono BL.out.size))
  have Q7 := Lib.hid (own_more ho BL.out.size)
  have O' := Lib.hid (own_below O.out bw)
  clear ho bw X BL O
  have X := Lib.hid X'.out
  have BL := Lib.hid BL'.out
  have O := Lib.hid O'.out
  clear X' BL' O'
  go_simp
  refine hK.out _ _ ⟨X.out, BL.out⟩ (fun hh => ?_)
  have HH' := Lib.hid hh
  clear hh hK K HH
  have HH := Lib.hid HH'.out
  clear HH'
  try simp only [List.getElem_toArray, List.getElem_cons_succ, List.getElem_cons_zero, Act.put, List.setIfInBounds_toArray, List.set_cons_zero, List.set_cons_succ]
  refine wpAnyH_ready (rs := [7]) (by kernel_rfl) (by simp) (AllReadyH.cons rfl (fun K hK => ?_) AllReadyH.nil)
  refine step_app _ (by rfl) (.tmp 11) (.tmp 14) _ rfl Wi.bytesElt (base := w.heap.size) (v := .slice B6 1 e6) rfl O.out (m := 2) rfl (Rd.own Q7.out) ((bv_length _).trans (Wi.putL_length _ _)) (bv_one _) (by omega) BL.out.size ?_
  intro B8 e8 v8 ho hg _
  obtain ⟨n8, hn⟩ : ∃ n, n = 1 + 2 := ⟨_, rfl⟩
  obtain ⟨a8, ha⟩ : ∃ a, a = a6 ++ Wi.putL N 2 := ⟨_, rfl⟩
  rw [← bv_append, ← hn, ← ha] at ho
  rw [← hn]
  have HN8 := Lib.hid (show n8 ≤ 3 from by rw [hn]; omega)
  have HD8 := Lib.hid ha
  have BL' := Lib.hid (app_below BL.out O.out hg (Nat.le_refl _) BL.out.size)
  have X' := Lib.hid (X.out.but (show But (fun q => (Value.slice B6 1 e6).ownBlock = some q) v7 v8 from (But.refl _).grown hg (fun q hq => .inl hq)) (fun hq => by
    obtain ⟨_, cs', hc⟩ := row_typeC O.out _ hq
    have hx : v7.heap[w.heap.size]? = some (.cells _ 44 (0, 0)) := X.out
    rw [hx] at hc
    injection hc with hc; injection hc with _ hc; exact absurd hc (by decide)))
  clear O X BL Q7 hg hn ha
  have O := Lib.hid ho
  have X := Lib.hid X'.out
  have BL := Lib.hid BL'.out
  clear ho X' BL'
  refine hK.out _ _ ⟨X.out, BL.out⟩ (fun hh => ?_)
  have HH' := Lib.hid hh
  clear hh hK K HH
  have HH := Lib.hid HH'.out
  clear HH'
  try simp only [List.getElem_toArray, List.getElem_cons_succ, List.getElem_cons_zero, Act.put, List.setIfInBounds_toArray, List.set_cons_zero, List.set_cons_succ]
  refine wpAnyH_ready (rs := [11]) (by kernel_rfl) (by simp) (AllReadyH.cons rfl (fun K hK => ?_) AllReadyH.nil)
  go_simp
  refine (cput_in M 4 _ HKM.out (by omega)).mono ?_
  rintro e v9 ⟨B9, m9, e9, rfl, ho, bw⟩
  obtain rfl : 4 = m9 := by have h1 := own_blen ho; rw [Wi.putL_length] at h1; exact h1
  have X' := Lib.hid (Blk.below X.out bw)
  have BL' := Lib.hid (BL.out.trans (bw.mono BL.out.size))
  have Q9 := Lib.hid (own_more ho BL.out.size)
  have O' := Lib.hid (own_below O.out bw)
  clear ho bw X BL O
  have X := Lib.hid X'.out
  have BL := Lib.hid BL'.out
  have O := Lib.hid O'.out
  clear X' BL' O'
  go_simp
  refine hK.out _ _ ⟨X.out, BL.out⟩ (fun hh => ?_)
  have HH' := Lib.hid hh
  clear hh hK K HH
  have HH := Lib.hid HH'.out
  clear HH'
  try simp only [List.getElem_toArray, List.getElem_cons_succ, List.getElem_cons_zero, Act.put, List.setIfInBounds_toArray, List.set_cons_zero, List.set_cons_succ]
  refine wpAnyH_ready (rs := [12]) (by kernel_rfl) (by simp) (AllReadyH.cons rfl (fun K hK => ?_) AllReadyH.nil)
  refine step_app _ (by rfl) (.tmp 15) (.tmp 19) _ rfl Wi.bytesElt (base := w.heap.size) (v := .slice B8 n8 e8) rfl O.out (m := 4) rfl (Rd.own Q9.out) ((bv_length _).trans (Wi.putL_length _ _)) (bv_one _) (by have := HN8.out; omega) BL.out.size ?_
  intro B10 e10 v10 ho hg _
  obtain ⟨n10, hn⟩ : ∃ n, n = n8 + 4 := ⟨_, rfl⟩
  obtain ⟨a10, ha⟩ : ∃ a, a = a8 ++ Wi.putL M 4 := ⟨_, rfl⟩
  rw [← bv_append, ← hn, ← ha] at ho
  rw [← hn]
  have HN10 := Lib.hid (show n10 ≤ 7 from by rw [hn]; have := HN8.out; omega)
  have HD10 := Lib.hid ha
  have BL' := Lib.hid (app_below BL.out O.out hg (Nat.le_refl _) BL.out.size)
  have X' := Lib.hid (X.out.but (show But (fun q => (Value.slice B8 n8 e8).ownBlock = some q) v9 v10 from (But.refl _).grown hg (fun q hq => .inl hq)) (fun hq => by
    obtain ⟨_, cs', hc⟩ := row_typeC O.out _ hq
    have hx : v9.heap[w.heap.size]? = some (.cells _ 44 (0, 0)) := X.out
    rw [hx] at hc
    injection hc with hc; injection hc with _ hc; exact absurd hc (by decide)))
  clear O X BL Q9 hg hn ha
  have O := Lib.hid ho
  have X := Lib.hid X'.out
  have BL := Lib.hid BL'.out
  clear ho X' BL'
  refine hK.out _ _ ⟨X.out, BL.out⟩ (fun hh => ?_)
  have HH' := Lib.hid hh
  clear hh hK K HH
  have HH := Lib.hid HH'.out
  clear HH'
  refine wpAnyH_take (i := 13) (v := ?vR11113) rfl (by kernel_rfl) (by kernel_rfl) (by kernel_rfl) (fun _ _ _ h => h) (Or.inl ⟨by rfl, fun w' _ => ?yR11113⟩) HH.out ?_
  case yR11113 => (go_simp; try with_reducible rfl)
  try simp only [List.getElem_toArray, List.getElem_cons_succ, List.getElem_cons_zero, Act.put, List.setIfInBounds_toArray, List.set_cons_zero, List.set_cons_succ]
  refine wpAnyH_done (by kernel_rfl) ?_ _
  have c0 := (X.out.cell 0).trans HC.out.1
  go_wp2_with fail
  refine (HPO.out _).mono ?_
  rintro e vh ⟨rfl, rfl⟩
  clear c0
  have c6 := (X.out.cell 6).trans HC.out.2.2.2.2.2.2.1
  go_wp2_with fail
  refine (cput_in RF 2 _ HKR.out (by omega)).mono ?_
  rintro e v12 ⟨B12, m12, e12, rfl, ho, bw⟩
  obtain rfl : 2 = m12 := by have h1 := own_blen ho; rw [Wi.putL_length] at h1; exact h1
  have X' := Lib.hid (Blk.below X.out bw)
  have BL' := Lib.hid (BL.out.trans (bw.mono BL.out.size))
  have Q12 := Lib.hid (own_more ho BL.out.size)
  have O' := Lib.hid (own_below O.out bw)
  clear ho bw X BL O
  have X := Lib.hid X'.out
  have BL := Lib.hid BL'.out
  have O := Lib.hid O'.out
  clear X' BL' O'
  clear c6
  go_wp2_with (at_builtin; refine wpList_app _ rfl (.tmp 50) (.tmp 53) _ rfl Wi.bytesElt (base := w.heap.size) (v := .slice B10 n10 e10) rfl O.out (m := 2) rfl (Rd.own Q12.out) ((bv_length _).trans (Wi.putL_length _ _)) (bv_one _) ?_ ?_ ?_; (have := HN10.out; omega); (exact BL.out.size); intro B13 e13 v13 ho hg _; apply Classical.byContradiction; intro hneg)
  refine hneg ?_
  clear hneg
  obtain ⟨n13, hn⟩ : ∃ n, n = n10 + 2 := ⟨_, rfl⟩
  obtain ⟨a13, ha⟩ : ∃ a, a = a10 ++ Wi.putL RF 2 := ⟨_, rfl⟩
  rw [← bv_append, ← hn, ← ha] at ho
  rw [← hn]
  have HN13 := Lib.hid (show n13 ≤ 9 from by rw [hn]; have := HN10.out; omega)
  have HD13 := Lib.hid ha
  have BL' := Lib.hid (app_below BL.out O.out hg (Nat.le_refl _) BL.out.size)
  have X' := Lib.hid (X.out.but (show But (fun q => (Value.slice B10 n10 e10).ownBlock = some q) v12 v13 from (But.refl _).grown hg (fun q hq => .inl hq)) (fun hq => by
    obtain ⟨_, cs', hc⟩ := row_typeC O.out _ hq
    have hx : v12.heap[w.heap.size]? = some (.cells _ 44 (0, 0)) := X.out
    rw [hx] at hc
    injection hc with hc; injection hc with _ hc; exact absurd hc (by decide)))
  clear O X BL Q12 hg hn ha
  have O := Lib.hid ho
  have X := Lib.hid X'.out
  have BL := Lib.hid BL'.out
  clear ho X' BL' 
  go_upto_region 8 with fail
  have XD := Lib.hid (show Blk v13.drew w.heap.size cs 44 from X.out)
  have BD := Lib.hid BL.out.drew
  have OD := Lib.hid (show v13.drew.ownsRow w.heap.size 5 1 (.slice B13 n13 e13) n13 (bv a13) from O.out)
  clear X BL O
  have X := Lib.hid XD.out
  have BL := Lib.hid BD.out
  have O := Lib.hid OD.out
  clear XD BD OD
  refine wp_region_held_drew (S := (fun w' => Blk w' w.heap.size cs 44 ∧ Below w.heap.size w w')) (by kernel_rfl) ⟨X.out, BL.out⟩ (fun hh => ?_)
  have HH := Lib.hid hh
  clear hh
  refine wpAnyH_take (i := 0) (v := ?vR8140) rfl (by kernel_rfl) (by kernel_rfl) (by kernel_rfl) (fun _ _ _ h => h) (Or.inl ⟨by rfl, fun w' _ => ?yR8140⟩) HH.out ?_
  case yR8140 => (go_simp; try with_reducible rfl)
  refine wpAnyH_take (i := 1) (v := ?vR8151) rfl (by kernel_rfl) (by kernel_rfl) (by kernel_rfl) (fun _ _ _ h => h) (Or.inl ⟨by rfl, fun w' _ => ?yR8151⟩) HH.out ?_
  case yR8151 => (go_simp; try with_reducible rfl)
  try simp only [List.getElem_toArray, List.getElem_cons_succ, List.getElem_cons_zero, Act.put, List.setIfInBounds_toArray, List.set_cons_zero, List.set_cons_succ]
  refine wpAnyH_take (i := 2) (v := .int .i64 (FR : Int)) rfl (by kernel_rfl) (by kernel_rfl) (by kernel_rfl) (fun _ _ _ h => h) (Or.inl ⟨by rfl, fun w' hw' => ?yR82⟩) HH.out ?_
  case yR82 => (have hc := (hw'.1.cell 7).trans HC.out.2.2.2.1; go_simp; try with_reducible rfl)
  refine wpAnyH_take (i := 3) (v := ?vR8163) rfl (by kernel_rfl) (by kernel_rfl) (by kernel_rfl) (fun _ _ _ h => h) (Or.inl ⟨by rfl, fun w' _ => ?yR8163⟩) HH.out ?_
  case yR8163 => (go_simp; try with_reducible rfl)
  refine wpAnyH_take (i := 6) (v := ?vR8176) rfl (by kernel_rfl) (by kernel_rfl) (by kernel_rfl) (fun _ _ _ h => h) (Or.inl ⟨by rfl, fun w' _ => ?yR8176⟩) HH.out ?_
  case yR8176 => (go_simp; try with_reducible rfl)
  try simp only [List.getElem_toArray, List.getElem_cons_succ, List.getElem_cons_zero, Act.put, List.setIfInBounds_toArray, List.set_cons_zero, List.set_cons_succ]
  refine wpAnyH_take (i := 7) (v := .int .i64 (TI : Int)) rfl (by kernel_rfl) (by kernel_rfl) (by kernel_rfl) (fun _ _ _ h => h) (Or.inl ⟨by rfl, fun w' hw' => ?yR87⟩) HH.out ?_
  case yR87 => (have hc := (hw'.1.cell 8).trans HC.out.2.2.2.2.1; go_simp; try with_reducible rfl)
  refine wpAnyH_take (i := 8) (v := ?vR8188) rfl (by kernel_rfl) (by kernel_rfl) (by kernel_rfl) (fun _ _ _ h => h) (Or.inl ⟨by rfl, fun w' _ => ?yR8188⟩) HH.out ?_
  case yR8188 => (go_simp; try with_reducible rfl)
  refine wpAnyH_take (i := 11) (v := ?vR81911) rfl (by kernel_rfl) (by kernel_rfl) (by kernel_rfl) (fun _ _ _ h => h) (Or.inl ⟨by rfl, fun w' _ => ?yR81911⟩) HH.out ?_
  case yR81911 => (go_simp; try with_reducible rfl)
  try simp only [List.getElem_toArray, List.getElem_cons_succ, List.getElem_cons_zero, Act.put, List.setIfInBounds_toArray, List.set_cons_zero, List.set_cons_succ]
  refine wpAnyH_take (i := 12) (v := .int .i64 (UN : Int)) rfl (by kernel_rfl) (by kernel_rfl) (by kernel_rfl) (fun _ _ _ h => h) (Or.inl ⟨by rfl, fun w' hw' => ?yR812⟩) HH.out ?_
  case yR812 => (have hc := (hw'.1.cell 9).trans HC.out.2.2.2.2.2.1; go_simp; try with_reducible rfl)
  refine wpAnyH_take (i := 13) (v := ?vR82013) rfl (by kernel_rfl) (by kernel_rfl) (by kernel_rfl) (fun _ _ _ h => h) (Or.inl ⟨by rfl, fun w' _ => ?yR82013⟩) HH.out ?_
  case yR82013 => (go_simp; try with_reducible rfl)
  try simp only [List.getElem_toArray, List.getElem_cons_succ, List.getElem_cons_zero, Act.put, List.setIfInBounds_toArray, List.set_cons_zero, List.set_cons_succ]
  refine wpAnyH_ready (rs := [4]) (by kernel_rfl) (by simp) (AllReadyH.cons rfl (fun K hK => ?_) AllReadyH.nil)
  go_simp
  refine (cput_in FR 4 _ HKFR.out (by omega)).mono ?_
  rintro e v21 ⟨B21, m21, e21, rfl, ho, bw⟩
  obtain rfl : 4 = m21 := by have h1 := own_blen ho; rw [Wi.putL_length] at h1; exact h1
  have X' := Lib.hid (Blk.below X.out bw)
  have BL' := Lib.hid (BL.out.trans (bw.mono BL.out.size))
  have Q21 := Lib.hid (own_more ho BL.out.size)
  have O' := Lib.hid (own_below O.out bw)
  clear ho bw X BL O
  have X := Lib.hid X'.out
  have BL := Lib.hid BL'.out
  have O := Lib.hid O'.out
  clear X' BL' O'
  go_simp
  refine hK.out _ _ ⟨X.out, BL.out⟩ (fun hh => ?_)
  have HH' := Lib.hid hh
  clear hh hK K HH
  have HH := Lib.hid HH'.out
  clear HH'
  try simp only [List.getElem_toArray, List.getElem_cons_succ, List.getElem_cons_zero, Act.put, List.setIfInBounds_toArray, List.set_cons_zero, List.set_cons_succ]
  refine wpAnyH_ready (rs := [5]) (by kernel_rfl) (by simp) (AllReadyH.cons rfl (fun K hK => ?_) AllReadyH.nil)
  refine step_app _ (by rfl) (.tmp 56) (.tmp 60) _ rfl Wi.bytesElt (base := w.heap.size) (v := .slice B13 n13 e13) rfl O.out (m := 4) rfl (Rd.own Q21.out) ((bv_length _).trans (Wi.putL_length _ _)) (bv_one _) (by have := HN13.out; omega) BL.out.size ?_
  intro B22 e22 v22 ho hg _
  obtain ⟨n22, hn⟩ : ∃ n, n = n13 + 4 := ⟨_, rfl⟩
  obtain ⟨a22, ha⟩ : ∃ a, a = a13 ++ Wi.putL FR 4 := ⟨_, rfl⟩
  rw [← bv_append, ← hn, ← ha] at ho
  rw [← hn]
  have HN22 := Lib.hid (show n22 ≤ 13 from by rw [hn]; have := HN13.out; omega)
  have HD22 := Lib.hid ha
  have BL' := Lib.hid (app_below BL.out O.out hg (Nat.le_refl _) BL.out.size)
  have X' := Lib.hid (X.out.but (show But (fun q => (Value.slice B13 n13 e13).ownBlock = some q) v21 v22 from (But.refl _).grown hg (fun q hq => .inl hq)) (fun hq => by
    obtain ⟨_, cs', hc⟩ := row_typeC O.out _ hq
    have hx : v21.heap[w.heap.size]? = some (.cells _ 44 (0, 0)) := X.out
    rw [hx] at hc
    injection hc with hc; injection hc with _ hc; exact absurd hc (by decide)))
  clear O X BL Q21 hg hn ha
  have O := Lib.hid ho
  have X := Lib.hid X'.out
  have BL := Lib.hid BL'.out
  clear ho X' BL'
  refine hK.out _ _ ⟨X.out, BL.out⟩ (fun hh => ?_)
  have HH' := Lib.hid hh
  clear hh hK K HH
  have HH := Lib.hid HH'.out
  clear HH'
  try simp only [List.getElem_toArray, List.getElem_cons_succ, List.getElem_cons_zero, Act.put, List.setIfInBounds_toArray, List.set_cons_zero, List.set_cons_succ]
  refine wpAnyH_ready (rs := [9]) (by kernel_rfl) (by simp) (AllReadyH.cons rfl (fun K hK => ?_) AllReadyH.nil)
  go_simp
  refine (cput_in TI 4 _ HKTI.out (by omega)).mono ?_
  rintro e v23 ⟨B23, m23, e23, rfl, ho, bw⟩
  obtain rfl : 4 = m23 := by have h1 := own_blen ho; rw [Wi.putL_length] at h1; exact h1
  have X' := Lib.hid (Blk.below X.out bw)
  have BL' := Lib.hid (BL.out.trans (bw.mono BL.out.size))
  have Q23 := Lib.hid (own_more ho BL.out.size)
  have O' := Lib.hid (own_below O.out bw)
  clear ho bw X BL O
  have X := Lib.hid X'.out
  have BL := Lib.hid BL'.out
  have O := Lib.hid O'.out
  clear X' BL' O'
  go_simp
  refine hK.out _ _ ⟨X.out, BL.out⟩ (fun hh => ?_)
  have HH' := Lib.hid hh
  clear hh hK K HH
  have HH := Lib.hid HH'.out
  clear HH'
  try simp only [List.getElem_toArray, List.getElem_cons_succ, List.getElem_cons_zero, Act.put, List.setIfInBounds_toArray, List.set_cons_zero, List.set_cons_succ]
  refine wpAnyH_ready (rs := [10]) (by kernel_rfl) (by simp) (AllReadyH.cons rfl (fun K hK => ?_) AllReadyH.nil)
  refine step_app _ (by rfl) (.tmp 61) (.tmp 65) _ rfl Wi.bytesElt (base := w.heap.size) (v := .slice B22 n22 e22) rfl O.out (m := 4) rfl (Rd.own Q23.out) ((bv_length _).trans (Wi.putL_length _ _)) (bv_one _) (by have := HN22.out; omega) BL.out.size ?_
  intro B24 e24 v24 ho hg _
  obtain ⟨n24, hn⟩ : ∃ n, n = n22 + 4 := ⟨_, rfl⟩
  obtain ⟨a24, ha⟩ : ∃ a, a = a22 ++ Wi.putL TI 4 := ⟨_, rfl⟩
  rw [← bv_append, ← hn, ← ha] at ho
  rw [← hn]
  have HN24 := Lib.hid (show n24 ≤ 17 from by rw [hn]; have := HN22.out; omega)
  have HD24 := Lib.hid ha
  have BL' := Lib.hid (app_below BL.out O.out hg (Nat.le_refl _) BL.out.size)
  have X' := Lib.hid (X.out.but (show But (fun q => (Value.slice B22 n22 e22).ownBlock = some q) v23 v24 from (But.refl _).grown hg (fun q hq => .inl hq)) (fun hq => by
    obtain ⟨_, cs', hc⟩ := row_typeC O.out _ hq
    have hx : v23.heap[w.heap.size]? = some (.cells _ 44 (0, 0)) := X.out
    rw [hx] at hc
    injection hc with hc; injection hc with _ hc; exact absurd hc (by decide)))
  clear O X BL Q23 hg hn ha
  have O := Lib.hid ho
  have X := Lib.hid X'.out
  have BL := Lib.hid BL'.out
  clear ho X' BL'
  refine hK.out _ _ ⟨X.out, BL.out⟩ (fun hh => ?_)
  have HH' := Lib.hid hh
  clear hh hK K HH
  have HH := Lib.hid HH'.out
  clear HH'
  try simp only [List.getElem_toArray, List.getElem_cons_succ, List.getElem_cons_zero, Act.put, List.setIfInBounds_toArray, List.set_cons_zero, List.set_cons_succ]
  refine wpAnyH_ready (rs := [14]) (by kernel_rfl) (by simp) (AllReadyH.cons rfl (fun K hK => ?_) AllReadyH.nil)
  go_simp
  refine (cput_in UN 4 _ HKUN.out (by omega)).mono ?_
  rintro e v25 ⟨B25, m25, e25, rfl, ho, bw⟩
  obtain rfl : 4 = m25 := by have h1 := own_blen ho; rw [Wi.putL_length] at h1; exact h1
  have X' := Lib.hid (Blk.below X.out bw)
  have BL' := Lib.hid (BL.out.trans (bw.mono BL.out.size))
  have Q25 := Lib.hid (own_more ho BL.out.size)
  have O' := Lib.hid (own_below O.out bw)
  clear ho bw X BL O
  have X := Lib.hid X'.out
  have BL := Lib.hid BL'.out
  have O := Lib.hid O'.out
  clear X' BL' O'
  go_simp
  refine hK.out _ _ ⟨X.out, BL.out⟩ (fun hh => ?_)
  have HH' := Lib.hid hh
  clear hh hK K HH
  have HH := Lib.hid HH'.out
  clear HH'
  try simp only [List.getElem_toArray, List.getElem_cons_succ, List.getElem_cons_zero, Act.put, List.setIfInBounds_toArray, List.set_cons_zero, List.set_cons_succ]
  refine wpAnyH_ready (rs := [15]) (by kernel_rfl) (by simp) (AllReadyH.cons rfl (fun K hK => ?_) AllReadyH.nil)
  refine step_app _ (by rfl) (.tmp 66) (.tmp 70) _ rfl Wi.bytesElt (base := w.heap.size) (v := .slice B24 n24 e24) rfl O.out (m := 4) rfl (Rd.own Q25.out) ((bv_length _).trans (Wi.putL_length _ _)) (bv_one _) (by have := HN24.out; omega) BL.out.size ?_
  intro B26 e26 v26 ho hg _
  obtain ⟨n26, hn⟩ : ∃ n, n = n24 + 4 := ⟨_, rfl⟩
  obtain ⟨a26, ha⟩ : ∃ a, a = a24 ++ Wi.putL UN 4 := ⟨_, rfl⟩
  rw [← bv_append, ← hn, ← ha] at ho
  rw [← hn]
  have HN26 := Lib.hid (show n26 ≤ 21 from by rw [hn]; have := HN24.out; omega)
  have HD26 := Lib.hid ha
  have BL' := Lib.hid (app_below BL.out O.out hg (Nat.le_refl _) BL.out.size)
  have X' := Lib.hid (X.out.but (show But (fun q => (Value.slice B24 n24 e24).ownBlock = some q) v25 v26 from (But.refl _).grown hg (fun q hq => .inl hq)) (fun hq => by
    obtain ⟨_, cs', hc⟩ := row_typeC O.out _ hq
    have hx : v25.heap[w.heap.size]? = some (.cells _ 44 (0, 0)) := X.out
    rw [hx] at hc
    injection hc with hc; injection hc with _ hc; exact absurd hc (by decide)))
  clear O X BL Q25 hg hn ha
  have O := Lib.hid ho
  have X := Lib.hid X'.out
  have BL := Lib.hid BL'.out
  clear ho X' BL'
  refine hK.out _ _ ⟨X.out, BL.out⟩ (fun hh => ?_)
  have HH' := Lib.hid hh
  clear hh hK K HH
  have HH := Lib.hid HH'.out
  clear HH'
  refine wpAnyH_take (i := 16) (v := ?vR82716) rfl (by kernel_rfl) (by kernel_rfl) (by kernel_rfl) (fun _ _ _ h => h) (Or.inl ⟨by rfl, fun w' _ => ?yR82716⟩) HH.out ?_
  case yR82716 => (go_simp; try with_reducible rfl)
  try simp only [List.getElem_toArray, List.getElem_cons_succ, List.getElem_cons_zero, Act.put, List.setIfInBounds_toArray, List.set_cons_zero, List.set_cons_succ]
  refine wpAnyH_done (by kernel_rfl) ?_ _
  go_wp2_with fail
  go_ret
  refine RetRow.mk (n := n26) rfl ?_ BL.out
  rw [HEQ.out, show Wi.putL KD 1 ++ Wi.putL N 2 ++ Wi.putL M 4 ++ Wi.putL RF 2 ++ Wi.putL FR 4 ++ Wi.putL TI 4 ++ Wi.putL UN 4 = a26 from by rw [HD26.out, HD24.out, HD22.out, HD13.out, HD10.out, HD8.out, HD6.out]]
  exact O.out
end Go.Proofs.Ythdmdlnndbjcoaa.Ce
/-
  Decode, as the document's answer tells it: some kinds.
-/
namespace Go.Proofs.Ythdmdlnndbjcoaa.Ce
open Go.RowKit
attribute [local go_sem ↓] Go.wp_at_zero Go.wp_at_succ

/-- It returns the cell y, whose body is a part of what came in, and two numbers. -/
def RetCD (A0 : Option Addr) (y : Cl) (m k : Int) (w : World) (e : Ending) (w' : World) : Prop :=
  ∃ A c, e = .returned (.tuple #[.agg (clA y A c), .int .i64 m, .int .i64 k]) ∧ (Rd w.heap.size w' A (bv y.body) ∧ ∀ a2, A = some a2 → ∃ a0, A0 = some a0 ∧ a2.block = a0.block) ∧ Below w.heap.size w w'
theorem results_ctD {P : Program} {fn : Func} {p u v : Tmp} {ty : TypeId} (h : fn.results = #[.cell p ty, .tmp u, .tmp v]) (tmps : Array Value) (w : World) (g : Nat) (t : TypeId) (cs : Array Value) (d : TypeDesc)
    (hp : tmps.getD p undef = .pointer (some ⟨g, 0, none⟩)) (hg : Blk w g cs t)
    (hu : P.underlying ty = some d) (hd : (match d with | .struct _ | .array _ _ => true | _ => false) = true) (hi : (P.info? ty).map (·.size) = some cs.size) :
    (results fn tmps).run P w = .ok (.tuple #[.agg cs, tmps.getD u undef, tmps.getD v undef]) w := by
  have hp' : tmps[p]?.getD undef = .pointer (some ⟨g, 0, none⟩) := by simpa using hp
  simp [results, h, hp', asAddr, run_loadVar_row w g t ty cs (0, 0) d hg hu hd hi]
theorem retCD_zero {A0 : Option Addr} {m k : Int} {w : World} {e : Ending} {w' : World} (h : e = .returned (.tuple #[.agg (clA zeroCl none 0), .int .i64 m, .int .i64 k])) (hb : Below w.heap.size w w') : RetCD A0 zeroCl m k w e w' :=
  ⟨none, 0, h, ⟨Rd.none, fun _ h => by cases h⟩, hb⟩
theorem blk_thru {w1 W w9 : World} {g : Nat} {cs : Array Value} {t : TypeId} (h : Blk w1 g cs t) (hW : Below w1.heap.size w1 W) (bw : Below W.heap.size W w9) : Blk w9 g cs t := Blk.below (Blk.below h hW) bw
theorem below_thru {w w1 W w9 : World} (h : Below w.heap.size w w1) (hW : Below w1.heap.size w1 W) (bw : Below W.heap.size W w9) : Below w.heap.size w w9 := (h.trans (hW.mono h.size)).trans (bw.mono (Nat.le_trans h.size hW.size))
theorem part_rd {B : Nat} {w : World} {ad : Addr} {l : List UInt8} (h : Rd B w (some ad) (bv l)) (i j : Nat) : Rd B w (some (ad.add i)) (bv (part l i j)) := (h.drop i).take j
theorem part_len {l : List UInt8} {i j : Nat} (h : i + j ≤ l.length) : (part l i j).length = j := by unfold part; rw [List.length_take, List.length_drop]; omega
theorem part_byte {l : List UInt8} {i : Nat} (h : i < l.length) : Wi.getL (part l i 1) = (l[i]).toNat := by
  unfold part
  rw [List.drop_eq_getElem_cons h, List.take_succ_cons, List.take_zero]
  simp [Wi.getL]

set_option maxRecDepth 100000 in
set_option maxHeartbeats 12800000 in
theorem cdec_ma {B : Nat} (k : Int) (hk : k = 8) (ad : Addr) (n c : Nat) (l : List UInt8) (w : World) (hn : l.length = n) (hcap : n ≤ c ∧ c ≤ maxLen) (hr0 : Rd B w (some ad) (bv l)) (hB : B ≤ w.heap.size) (h0 : ((l.getD 0 0).toNat : Int) = k) (hl0 : 0 < n) (hm : n ≤ 1000000) :
    Calls Try.prog 45 #[.slice (some ad) n c] w (RetCD (some ad) (decCl l).1 ((decCl l).2.1 : Int) ((decCl l).2.2 : Int) w) := by
  have hr := hr0.more hB
  clear hr0 hB
  obtain ⟨Y, hY⟩ : ∃ Y, Y = (decCl l).1 := ⟨_, rfl⟩
  obtain ⟨MM, hMM⟩ : ∃ R, R = (decCl l).2.1 := ⟨_, rfl⟩
  obtain ⟨KK, hKK⟩ : ∃ K, K = (decCl l).2.2 := ⟨_, rfl⟩
  rw [← hY, ← hMM, ← hKK]
  have HIZ := Lib.hid (show (Try.prog.info? 44).map (·.size) = some (clA zeroCl none 0).size from by kernel_rfl)
  have HOZ := Lib.hid (show (clA zeroCl none 0).all (·.oneCell') = true from by simp [clA, Value.oneCell'])
  have hi1 : isKind k = true := by simp [isKind]; omega
  have hhd : headN k = 7 := by unfold headN; rw [show hasP k = false from decide_eq_false (by omega), show hasR k = false from decide_eq_false (by omega), show hasS k = false from decide_eq_false (by omega), show hasB k = false from decide_eq_false (by omega)]; rfl
  obtain ⟨ad', hA', had, hc0⟩ := hr.at_ (k := 0) (by omega)
  injection hA' with hA'
  subst hA'
  have hx0 : ((l[0]).toNat : Int) = k := by rw [← h0, List.getD_eq_getElem?_getD, List.getElem?_eq_getElem (by omega)]; rfl
  rw [hx0] at hc0
  have hc00 := hc0
  rw [add_zero] at hc0
  have hbyte : ∀ i (h : i < l.length), ∀ W, Below w.heap.size w W → W.cell? (ad.add i) = some (.int .u8 ((l[i]).toNat : Int)) := fun i h W hb => by
    obtain ⟨a2, e, _, h2⟩ := (hr.below hb).at_ h
    injection e with e; subst e; exact h2
  have HBY := Lib.hid hbyte
  have HPO := Lib.hid (show ∀ W, Calls Try.prog 78 #[.int .i64 k] W (RetS (.tuple #[.bool false, .bool false, .bool false, .bool false]) W) from fun W => by
    have h := chas_any k W
    rw [show hasP k = false from decide_eq_false (by omega), show hasR k = false from decide_eq_false (by omega), show hasS k = false from decide_eq_false (by omega), show hasB k = false from decide_eq_false (by omega)] at h
    exact h)
  have hsz : sizeCl l = if n < 7 then (0, 14) else if n < 7 + cntCl k l then (0, 14) else (7 + cntCl k l, 0) := by
    obtain ⟨x, t, rfl, _⟩ := cons_of (n := 0) (l := l) (by omega)
    have hxk : (x.toNat : Int) = k := by rw [← h0]; rfl
    simp only [sizeCl, hxk, hi1, if_true, hhd]
    rw [show t.length + 1 = n from by rw [← hn]; rfl]
  have HRD := Lib.hid hr
  have HYthdmdlnndbjcoaa := Lib.hid hn
  have HCAP := Lib.hid hcap
  have HMM := Lib.hid hm
  have HK := Lib.hid hk
  have n0 : ((n : Int) == 0) = false := by simp; omega
  have n1 : (0 : Int) < (n : Int) := by omega
  have k0 : (0 : Int) ≤ k := by omega
  have k1 : k ≤ 255 := by omega
  have wk : IntKind.i64.wrap k = k := IntWalk.i64_in _ (by omega)
  have d1 : decide (k < 1) = false := decide_eq_false (by omega)
  have d2 : decide ((8 : Int) < k) = false := decide_eq_false (by omega)
  by_cases hlt : n < 7
  · have hs : decCl l = (zeroCl, 0, 14) := by unfold decCl; rw [hsz, if_pos hlt]; rfl
    have E1 := Lib.hid (show Y = zeroCl from by rw [hY, hs])
    have E2 := Lib.hid (show MM = 0 from by rw [hMM, hs])
    have E3 := Lib.hid (show KK = 14 from by rw [hKK, hs])
    have d3 : decide ((n : Int) < 7) = true := decide_eq_true (by omega)
    have d4 : decide (n < 7) = true := decide_eq_true hlt
    clear hs hY hMM hKK hi1 hhd hx0 hbyte hsz hr hn hcap hm hk h0
    obtain ⟨w1, hw1⟩ : ∃ v, v = w.alloc (.cells (clA zeroCl none 0) 44) := ⟨_, rfl⟩
    have BL1 := Lib.hid (show Below w.heap.size w w1 from by rw [hw1]; exact bel1 _ _)
    have RZ1 := Lib.hid (show Blk w1 w.heap.size (clA zeroCl none 0) 44 from by rw [hw1]; exact heap_alloc_new _ _)
    have HS1 := Lib.hid (show w1.heap.size = w.heap.size + 1 from by rw [hw1]; simp)
    have q0 : w1.cell? ad = some (.int .u8 k) := by rw [← hc0]; exact BL1.out.cell had
    have q00 : w1.cell? (ad.add 0) = some (.int .u8 k) := by rw [add_zero]; exact q0
    unfold clA zeroCl at hw1
    simp only [List.length_nil] at hw1
    clear hc0 hc00 had
    go_enter Try.func45, Try.ntmps45
    go_upto_region 1 with fail
    have e1 := hw1
    simp at e1
    first | rw [← hw1] | rw [← e1]
    clear hw1 e1
    go_wp2_with fail
    refine (HPO.out _).mono ?_
    rintro e wh ⟨rfl, rfl⟩
    go_upto_region 16 with fail
    obtain ⟨w2, hw2⟩ : ∃ v, v = w1.alloc (.cells (rA k 0 0 0 0 0 0 0 0 0 (.slice none 0 0)) 44) := ⟨_, rfl⟩
    have BL := Lib.hid (BL1.out.trans ((show Below w1.heap.size w1 w2 from by rw [hw2]; exact bel1 _ _).mono BL1.out.size))
    have RZ := Lib.hid (Blk.below RZ1.out (show Below w1.heap.size w1 w2 from by rw [hw2]; exact bel1 _ _))
    obtain ⟨g5, hg5⟩ : ∃ g, g = w1.heap.size := ⟨_, rfl⟩
    have C := Lib.hid (show Blk w2 g5 (rA k 0 0 0 0 0 0 0 0 0 (.slice none 0 0)) 44 from by rw [hw2, hg5]; exact heap_alloc_new _ _)
    have HG := Lib.hid (show g5 = w.heap.size + 1 from by rw [hg5]; exact HS1.out)
    have e2 : w2 = w1.alloc (.cells #[.int .i64 k, .int .u64 0, .int .i64 0, .int .i64 0, .int .i64 0, .int .i64 0, .int .u64 0, .int .i64 0, .int .i64 0, .int .i64 0, .slice none 0 0] 44) := hw2
    rw [← e2, ← hg5]
    clear hw2 e2 BL1 RZ1 HS1 hg5 q0 q00
    go_wp2_with (first
      | (refine wpList_store_row rfl 44 (.tmp 2) (.tmp 55) rfl w.heap.size (clA zeroCl none 0) rfl rfl 44 (clA zeroCl none 0) RZ.out HIZ.out rfl HOZ.out ?_))
    refine bodyPost_ret (v := .tuple #[.agg (clA zeroCl none 0), .int .i64 0, .int .i64 14]) (results_ctD Try.results45 _ _ w.heap.size 44 (clA zeroCl none 0) _ rfl (setRow_heap _ _ _ _ _ _ RZ.out) Try.underlying44 rfl HIZ.out) rfl ?_
    rw [E1.out, E2.out, E3.out]
    exact retCD_zero (by rfl) (below_setRow BL.out (Nat.le_refl _) _)
  ·
    have hlen : 7 ≤ l.length := by omega
    obtain ⟨V1, hV1⟩ : ∃ V, V = Wi.getL (part l 1 2) := ⟨_, rfl⟩
    have bV1 : V1 < 65536 := by rw [hV1]; exact part_lt 1 2
    obtain ⟨V3, hV3⟩ : ∃ V, V = Wi.getL (part l 3 4) := ⟨_, rfl⟩
    have bV3 : V3 < 4294967296 := by rw [hV3]; exact part_lt 3 4
    have wV3 : IntKind.i64.wrap (V3 : Int) = (V3 : Int) := IntWalk.i64_in _ (by omega)
    have d3 : decide ((n : Int) < 7) = false := decide_eq_false (by omega)
    have d4 : decide (n < 7) = false := decide_eq_false hlt
    have c7 : (7 : Int) ≤ (c : Int) := by omega
    have cn : (7 : Int) ≤ (n : Int) := by omega
    have nc : (n : Int) ≤ (c : Int) := by omega
    have ne1 : ¬ c = 1 := by omega
    have le1 : (1 : Int) ≤ (c : Int) := by omega
    have ne3 : ¬ c = 3 := by omega
    have le3 : (3 : Int) ≤ (c : Int) := by omega
    have he7 : (7 : Int) ≤ (c : Int) := by omega
    have hs0 : sizeCl l = (7, 0) := by rw [hsz, if_neg hlt, show cntCl k l = 0 from by unfold cntCl; rw [show hasB k = false from decide_eq_false (by omega)]; rfl, Nat.add_zero, if_neg hlt]
    have hrd : readCl ((l.getD 0 0).toNat : Int) (l.take 7) = ⟨k, V1, V3, 0, 0, 0, 0, 0, 0, 0, []⟩ := by
      rw [h0]
      unfold readCl
      have hpt : ∀ i j, i + j ≤ 7 → part (l.take 7) i j = part l i j := fun i j h => by unfold part; rw [List.drop_take, List.take_take]; congr 1; omega
      rw [show hasP k = false from decide_eq_false (by omega), show hasR k = false from decide_eq_false (by omega), show hasS k = false from decide_eq_false (by omega), show hasB k = false from decide_eq_false (by omega), hpt 1 2 (by omega), hpt 3 4 (by omega), ← hV1, ← hV3]
      simp
    obtain ⟨y, hy⟩ : ∃ y : Cl, y = ⟨k, V1, V3, 0, 0, 0, 0, 0, 0, 0, []⟩ := ⟨_, rfl⟩
    have hde : decCl l = if okCl y then (y, 7, 0) else (zeroCl, 0, 3) := by unfold decCl; rw [hs0]; simp only [if_pos]; rw [hrd, ← hy]
    have HYES := Lib.hid (show okCl y → Y = y ∧ MM = 7 ∧ KK = 0 from fun h => by rw [hde, if_pos h] at hY hMM hKK; exact ⟨hY, hMM, hKK⟩)
    have HNO := Lib.hid (show ¬ okCl y → Y = zeroCl ∧ MM = 0 ∧ KK = 3 from fun h => by rw [hde, if_neg h] at hY hMM hKK; exact ⟨hY, hMM, hKK⟩)
    have HYQ := Lib.hid hy
    clear hs0 hrd hde hy
    have HVV1 := Lib.hid hV1
    have HVV3 := Lib.hid hV3
    have HLT := Lib.hid (show 7 ≤ l.length from by omega)
    clear hY hMM hKK hi1 hhd hx0 hbyte hsz hr hn hcap hm hk h0 hlt hV1 hV3
    obtain ⟨w1, hw1⟩ : ∃ v, v = w.alloc (.cells (clA zeroCl none 0) 44) := ⟨_, rfl⟩
    have BL1 := Lib.hid (show Below w.heap.size w w1 from by rw [hw1]; exact bel1 _ _)
    have RZ1 := Lib.hid (show Blk w1 w.heap.size (clA zeroCl none 0) 44 from by rw [hw1]; exact heap_alloc_new _ _)
    have HS1 := Lib.hid (show w1.heap.size = w.heap.size + 1 from by rw [hw1]; simp)
    have q0 : w1.cell? ad = some (.int .u8 k) := by rw [← hc0]; exact BL1.out.cell had
    have q00 : w1.cell? (ad.add 0) = some (.int .u8 k) := by rw [add_zero]; exact q0
    unfold clA zeroCl at hw1
    simp only [List.length_nil] at hw1
    clear hc0 hc00 had
    go_enter Try.func45, Try.ntmps45
    go_upto_region 1 with fail
    have e1 := hw1
    simp at e1
    first | rw [← hw1] | rw [← e1]
    clear hw1 e1
    go_wp2_with fail
    refine (HPO.out _).mono ?_
    rintro e wh ⟨rfl, rfl⟩
    have BLW := Lib.hid (show ∀ o, Below w.heap.size w (w1.alloc o) from fun o => BL1.out.trans ((bel1 w1 o).mono BL1.out.size))
    clear q0 q00
    go_upto_region 18 with fail
    refine wp_region_held_drew (S := (fun w' => Below w.heap.size w w')) (by kernel_rfl) (by first | exact (BLW.out _).drew | exact BLW.out _ | exact (BLW.out _).drew.drew | exact (BLW.out _).drewN _ | exact ((BLW.out _).drewN _).drew) (fun hh => ?_)
    have HH := Lib.hid hh
    clear hh
    refine wpAnyH_take (i := 0) (v := ?vG10) rfl (by kernel_rfl) (by kernel_rfl) (by kernel_rfl) (fun _ _ _ h => h) (Or.inl ⟨by rfl, fun w' _ => ?yG10⟩) HH.out ?_
    case yG10 => (go_simp; try with_reducible rfl)
    refine wpAnyH_take (i := 1) (v := ?vG11) rfl (by kernel_rfl) (by kernel_rfl) (by kernel_rfl) (fun _ _ _ h => h) (Or.inl ⟨by rfl, fun w' _ => ?yG11⟩) HH.out ?_
    case yG11 => (go_simp; try with_reducible rfl)
    try simp only [List.getElem_toArray, List.getElem_cons_succ, List.getElem_cons_zero, Act.put, List.setIfInBounds_toArray, List.set_cons_zero, List.set_cons_succ]
    refine wpAnyH_take (i := 3) (v := ?vG13) rfl (by kernel_rfl) (by kernel_rfl) (by kernel_rfl) (fun _ _ _ h => h) (Or.inl ⟨by rfl, fun w' _ => ?yG13⟩) HH.out ?_
    case yG13 => (go_simp; try with_reducible rfl)
    refine wpAnyH_take (i := 4) (v := ?vG14) rfl (by kernel_rfl) (by kernel_rfl) (by kernel_rfl) (fun _ _ _ h => h) (Or.inl ⟨by rfl, fun w' _ => ?yG14⟩) HH.out ?_
    case yG14 => (go_simp; try with_reducible rfl)
    try simp only [List.getElem_toArray, List.getElem_cons_succ, List.getElem_cons_zero, Act.put, List.setIfInBounds_toArray, List.set_cons_zero, List.set_cons_succ]
    refine wpAnyH_ready (rs := [2]) (by kernel_rfl) (by simp) (AllReadyH.cons rfl (fun K hK => ?_) AllReadyH.nil)
    go_simp
    refine (cget_any (some (ad.add 1)) 2 _ (part l 1 2) _ (part_len (by have := HLT.out; omega)) (part_rd (HRD.out.below HH.out) 1 2) (by omega)).mono ?_
    rintro e wq ⟨rfl, rfl⟩
    rw [← HVV1.out]
    go_simp
    refine hK.out _ _ (by first | exact (BLW.out _).drew | exact BLW.out _ | exact (BLW.out _).drew.drew | exact (BLW.out _).drewN _ | exact ((BLW.out _).drewN _).drew) (fun hh => ?_)
    have HH' := Lib.hid hh
    clear hh hK K HH 
    have HH := Lib.hid HH'.out
    clear HH'
    try simp only [List.getElem_toArray, List.getElem_cons_succ, List.getElem_cons_zero, Act.put, List.setIfInBounds_toArray, List.set_cons_zero, List.set_cons_succ]
    refine wpAnyH_take (i := 7) (v := ?vG17) rfl (by kernel_rfl) (by kernel_rfl) (by kernel_rfl) (fun _ _ _ h => h) (Or.inl ⟨by rfl, fun w' _ => ?yG17⟩) HH.out ?_
    case yG17 => (go_simp; try with_reducible rfl)
    try simp only [List.getElem_toArray, List.getElem_cons_succ, List.getElem_cons_zero, Act.put, List.setIfInBounds_toArray, List.set_cons_zero, List.set_cons_succ]
    refine wpAnyH_ready (rs := [5]) (by kernel_rfl) (by simp) (AllReadyH.cons rfl (fun K hK => ?_) AllReadyH.nil)
    go_simp
    refine (cget_any (some (ad.add 3)) 4 _ (part l 3 4) _ (part_len (by have := HLT.out; omega)) (part_rd (HRD.out.below HH.out) 3 4) (by omega)).mono ?_
    rintro e wq ⟨rfl, rfl⟩
    rw [← HVV3.out]
    go_simp
    refine hK.out _ _ (by first | exact (BLW.out _).drew | exact BLW.out _ | exact (BLW.out _).drew.drew | exact (BLW.out _).drewN _ | exact ((BLW.out _).drewN _).drew) (fun hh => ?_)
    have HH' := Lib.hid hh
    clear hh hK K HH 
    have HH := Lib.hid HH'.out
    clear HH'
    refine wpAnyH_take (i := 6) (v := ?vG16) rfl (by kernel_rfl) (by kernel_rfl) (by kernel_rfl) (fun _ _ _ h => h) (Or.inl ⟨by rfl, fun w' _ => ?yG16⟩) HH.out ?_
    case yG16 => (go_simp; try with_reducible rfl)
    try simp only [List.getElem_toArray, List.getElem_cons_succ, List.getElem_cons_zero, Act.put, List.setIfInBounds_toArray, List.set_cons_zero, List.set_cons_succ]
    try simp only [List.getElem_toArray, List.getElem_cons_succ, List.getElem_cons_zero, Act.put, List.setIfInBounds_toArray, List.set_cons_zero, List.set_cons_succ]
    refine wpAnyH_ready (rs := [8]) (by kernel_rfl) (by simp) (AllReadyH.cons rfl (fun K hK => ?_) AllReadyH.nil)
    go_simp
    refine hK.out _ _ (by first | exact (BLW.out _).drew | exact BLW.out _ | exact (BLW.out _).drew.drew | exact (BLW.out _).drewN _ | exact ((BLW.out _).drewN _).drew) (fun hh => ?_)
    have HH' := Lib.hid hh
    clear hh hK K HH
    have HH := Lib.hid HH'.out
    clear HH'
    refine wpAnyH_take (i := 9) (v := ?vG19) rfl (by kernel_rfl) (by kernel_rfl) (by kernel_rfl) (fun _ _ _ h => h) (Or.inl ⟨by rfl, fun w' _ => ?yG19⟩) HH.out ?_
    case yG19 => (go_simp; try with_reducible rfl)
    try simp only [List.getElem_toArray, List.getElem_cons_succ, List.getElem_cons_zero, Act.put, List.setIfInBounds_toArray, List.set_cons_zero, List.set_cons_succ]
    refine wpAnyH_ready (rs := [10]) (by kernel_rfl) (by simp) (AllReadyH.cons rfl (fun K hK => ?_) AllReadyH.nil)
    go_simp
    refine hK.out _ _ (by first | exact (BLW.out _).drew | exact BLW.out _ | exact (BLW.out _).drew.drew | exact (BLW.out _).drewN _ | exact ((BLW.out _).drewN _).drew) (fun hh => ?_)
    have HH' := Lib.hid hh
    clear hh hK K HH
    have HH := Lib.hid HH'.out
    clear HH'
    try simp only [List.getElem_toArray, List.getElem_cons_succ, List.getElem_cons_zero, Act.put, List.setIfInBounds_toArray, List.set_cons_zero, List.set_cons_succ]
    refine wpAnyH_done (by kernel_rfl) ?_ _
    go_wp2_with fail
    refine (cright_any ⟨k, V1, V3, 0, 0, 0, 0, 0, 0, 0, []⟩ none 0 _ Rd.none (Nat.le_refl _)).mono ?_
    rw [← HYQ.out]
    rintro e w9 ⟨rfl, bw⟩
    have RZ9 := Lib.hid (blk_thru RZ1.out (by first | exact (bel1 _ _).drew | exact bel1 _ _ | exact (bel1 _ _).drew.drew | exact (bel1 _ _).drewN _) bw)
    have BL9 := Lib.hid (below_thru BL1.out (by first | exact (bel1 _ _).drew | exact bel1 _ _ | exact (bel1 _ _).drew.drew | exact (bel1 _ _).drewN _) bw)
    have C9 := Lib.hid (show Blk w9 w1.heap.size (rA k V1 V3 0 0 0 0 0 0 0 (.slice none 0 0)) 44 from by refine Blk.below ?_ bw; exact heap_alloc_new _ _)
    have HEC := Lib.hid (show (rA k V1 V3 0 0 0 0 0 0 0 (.slice none 0 0)) = clA y none 0 from by rw [HYQ.out]; rfl)
    have HIC := Lib.hid (show (Try.prog.info? 44).map (·.size) = some (rA k V1 V3 0 0 0 0 0 0 0 (.slice none 0 0)).size from by kernel_rfl)
    have HOC := Lib.hid (show (rA k V1 V3 0 0 0 0 0 0 0 (.slice none 0 0)).all (·.oneCell') = true from by simp [rA, Value.oneCell'])
    clear bw RZ1 BL1 BLW
    by_cases ok : okCl y
    · obtain ⟨f1, f2, f3⟩ := HYES.out ok
      have E1 := Lib.hid f1
      have E2 := Lib.hid f2
      have E3 := Lib.hid f3
      rw [decide_eq_true ok]
      clear f1 f2 f3 ok
      go_wp2_with (first
        | (refine wpList_load_row rfl 44 (.tmp 5) rfl w1.heap.size rfl 44 (rA k V1 V3 0 0 0 0 0 0 0 (.slice none 0 0)) (0, 0) _ C9.out Try.underlying44 rfl HIC.out ?_)
        | (refine wpList_store_row rfl 44 (.tmp 2) (.tmp 148) rfl w.heap.size (rA k V1 V3 0 0 0 0 0 0 0 (.slice none 0 0)) rfl rfl 44 (clA zeroCl none 0) RZ9.out HIC.out rfl HOC.out ?_))
      refine bodyPost_ret (v := .tuple #[.agg (rA k V1 V3 0 0 0 0 0 0 0 (.slice none 0 0)), .int .i64 7, .int .i64 0]) (results_ctD Try.results45 _ _ w.heap.size 44 (rA k V1 V3 0 0 0 0 0 0 0 (.slice none 0 0)) _ rfl (setRow_heap _ _ _ _ _ _ RZ9.out) Try.underlying44 rfl HIC.out) rfl ?_
      rw [E1.out, E2.out, E3.out]
      refine ⟨none, 0, by rw [HEC.out]; rfl, ⟨?_, fun _ h => by cases h⟩, below_setRow BL9.out (Nat.le_refl _) _⟩
      rw [show y.body = [] from by rw [HYQ.out]]; exact Rd.none
    · obtain ⟨f1, f2, f3⟩ := HNO.out ok
      have E1 := Lib.hid f1
      have E2 := Lib.hid f2
      have E3 := Lib.hid f3
      rw [decide_eq_false ok]
      clear f1 f2 f3 ok
      go_wp2_with (refine wpList_store_row rfl 44 (.tmp 2) (.tmp 147) rfl w.heap.size (clA zeroCl none 0) rfl rfl 44 (clA zeroCl none 0) RZ9.out HIZ.out rfl HOZ.out ?_)
      refine bodyPost_ret (v := .tuple #[.agg (clA zeroCl none 0), .int .i64 0, .int .i64 3]) (results_ctD Try.results45 _ _ w.heap.size 44 (clA zeroCl none 0) _ rfl (setRow_heap _ _ _ _ _ _ RZ9.out) Try.underlying44 rfl HIZ.out) rfl ?_
      rw [E1.out, E2.out, E3.out]
      exact retCD_zero (by rfl) (below_setRow BL9.out (Nat.le_refl _) _)
set_option maxRecDepth 100000 in
set_option maxHeartbeats 12800000 in
theorem cdec_li {B : Nat} (k : Int) (hk : k = 7) (ad : Addr) (n c : Nat) (l : List UInt8) (w : World) (hn : l.length = n) (hcap : n ≤ c ∧ c ≤ maxLen) (hr0 : Rd B w (some ad) (bv l)) (hB : B ≤ w.heap.size) (h0 : ((l.getD 0 0).toNat : Int) = k) (hl0 : 0 < n) (hm : n ≤ 1000000) :
    Calls Try.prog 45 #[.slice (some ad) n c] w (RetCD (some ad) (decCl l).1 ((decCl l).2.1 : Int) ((decCl l).2.2 : Int) w) := by
  have hr := hr0.more hB
  clear hr0 hB
  obtain ⟨Y, hY⟩ : ∃ Y, Y = (decCl l).1 := ⟨_, rfl⟩
  obtain ⟨MM, hMM⟩ : ∃ R, R = (decCl l).2.1 := ⟨_, rfl⟩
  obtain ⟨KK, hKK⟩ : ∃ K, K = (decCl l).2.2 := ⟨_, rfl⟩
  rw [← hY, ← hMM, ← hKK]
  have HIZ := Lib.hid (show (Try.prog.info? 44).map (·.size) = some (clA zeroCl none 0).size from by kernel_rfl)
  have HOZ := Lib.hid (show (clA zeroCl none 0).all (·.oneCell') = true from by simp [clA, Value.oneCell'])
  have hi1 : isKind k = true := by simp [isKind]; omega
  have hhd : headN k = 9 := by unfold headN; rw [show hasP k = false from decide_eq_false (by omega), show hasR k = true from decide_eq_true (by omega), show hasS k = false from decide_eq_false (by omega), show hasB k = false from decide_eq_false (by omega)]; rfl
  obtain ⟨ad', hA', had, hc0⟩ := hr.at_ (k := 0) (by omega)
  injection hA' with hA'
  subst hA'
  have hx0 : ((l[0]).toNat : Int) = k := by rw [← h0, List.getD_eq_getElem?_getD, List.getElem?_eq_getElem (by omega)]; rfl
  rw [hx0] at hc0
  have hc00 := hc0
  rw [add_zero] at hc0
  have hbyte : ∀ i (h : i < l.length), ∀ W, Below w.heap.size w W → W.cell? (ad.add i) = some (.int .u8 ((l[i]).toNat : Int)) := fun i h W hb => by
    obtain ⟨a2, e, _, h2⟩ := (hr.below hb).at_ h
    injection e with e; subst e; exact h2
  have HBY := Lib.hid hbyte
  have HPO := Lib.hid (show ∀ W, Calls Try.prog 78 #[.int .i64 k] W (RetS (.tuple #[.bool false, .bool true, .bool false, .bool false]) W) from fun W => by
    have h := chas_any k W
    rw [show hasP k = false from decide_eq_false (by omega), show hasR k = true from decide_eq_true (by omega), show hasS k = false from decide_eq_false (by omega), show hasB k = false from decide_eq_false (by omega)] at h
    exact h)
  have hsz : sizeCl l = if n < 9 then (0, 14) else if n < 9 + cntCl k l then (0, 14) else (9 + cntCl k l, 0) := by
    obtain ⟨x, t, rfl, _⟩ := cons_of (n := 0) (l := l) (by omega)
    have hxk : (x.toNat : Int) = k := by rw [← h0]; rfl
    simp only [sizeCl, hxk, hi1, if_true, hhd]
    rw [show t.length + 1 = n from by rw [← hn]; rfl]
  have HRD := Lib.hid hr
  have HYthdmdlnndbjcoaa := Lib.hid hn
  have HCAP := Lib.hid hcap
  have HMM := Lib.hid hm
  have HK := Lib.hid hk
  have n0 : ((n : Int) == 0) = false := by simp; omega
  have n1 : (0 : Int) < (n : Int) := by omega
  have k0 : (0 : Int) ≤ k := by omega
  have k1 : k ≤ 255 := by omega
  have wk : IntKind.i64.wrap k = k := IntWalk.i64_in _ (by omega)
  have d1 : decide (k < 1) = false := decide_eq_false (by omega)
  have d2 : decide ((8 : Int) < k) = false := decide_eq_false (by omega)
  by_cases hlt : n < 9
  · have hs : decCl l = (zeroCl, 0, 14) := by unfold decCl; rw [hsz, if_pos hlt]; rfl
    have E1 := Lib.hid (show Y = zeroCl from by rw [hY, hs])
    have E2 := Lib.hid (show MM = 0 from by rw [hMM, hs])
    have E3 := Lib.hid (show KK = 14 from by rw [hKK, hs])
    have d3 : decide ((n : Int) < 9) = true := decide_eq_true (by omega)
    have d4 : decide (n < 9) = true := decide_eq_true hlt
    clear hs hY hMM hKK hi1 hhd hx0 hbyte hsz hr hn hcap hm hk h0
    obtain ⟨w1, hw1⟩ : ∃ v, v = w.alloc (.cells (clA zeroCl none 0) 44) := ⟨_, rfl⟩
    have BL1 := Lib.hid (show Below w.heap.size w w1 from by rw [hw1]; exact bel1 _ _)
    have RZ1 := Lib.hid (show Blk w1 w.heap.size (clA zeroCl none 0) 44 from by rw [hw1]; exact heap_alloc_new _ _)
    have HS1 := Lib.hid (show w1.heap.size = w.heap.size + 1 from by rw [hw1]; simp)
    have q0 : w1.cell? ad = some (.int .u8 k) := by rw [← hc0]; exact BL1.out.cell had
    have q00 : w1.cell? (ad.add 0) = some (.int .u8 k) := by rw [add_zero]; exact q0
    unfold clA zeroCl at hw1
    simp only [List.length_nil] at hw1
    clear hc0 hc00 had
    go_enter Try.func45, Try.ntmps45
    go_upto_region 1 with fail
    have e1 := hw1
    simp at e1
    first | rw [← hw1] | rw [← e1]
    clear hw1 e1
    go_wp2_with fail
    refine (HPO.out _).mono ?_
    rintro e wh ⟨rfl, rfl⟩
    go_upto_region 16 with fail
    obtain ⟨w2, hw2⟩ : ∃ v, v = w1.alloc (.cells (rA k 0 0 0 0 0 0 0 0 0 (.slice none 0 0)) 44) := ⟨_, rfl⟩
    have BL := Lib.hid (BL1.out.trans ((show Below w1.heap.size w1 w2 from by rw [hw2]; exact bel1 _ _).mono BL1.out.size))
    have RZ := Lib.hid (Blk.below RZ1.out (show Below w1.heap.size w1 w2 from by rw [hw2]; exact bel1 _ _))
    obtain ⟨g5, hg5⟩ : ∃ g, g = w1.heap.size := ⟨_, rfl⟩
    have C := Lib.hid (show Blk w2 g5 (rA k 0 0 0 0 0 0 0 0 0 (.slice none 0 0)) 44 from by rw [hw2, hg5]; exact heap_alloc_new _ _)
    have HG := Lib.hid (show g5 = w.heap.size + 1 from by rw [hg5]; exact HS1.out)
    have e2 : w2 = w1.alloc (.cells #[.int .i64 k, .int .u64 0, .int .i64 0, .int .i64 0, .int .i64 0, .int .i64 0, .int .u64 0, .int .i64 0, .int .i64 0, .int .i64 0, .slice none 0 0] 44) := hw2
    rw [← e2, ← hg5]
    clear hw2 e2 BL1 RZ1 HS1 hg5 q0 q00
    go_wp2_with (first
      | (refine wpList_store_row rfl 44 (.tmp 2) (.tmp 55) rfl w.heap.size (clA zeroCl none 0) rfl rfl 44 (clA zeroCl none 0) RZ.out HIZ.out rfl HOZ.out ?_))
    refine bodyPost_ret (v := .tuple #[.agg (clA zeroCl none 0), .int .i64 0, .int .i64 14]) (results_ctD Try.results45 _ _ w.heap.size 44 (clA zeroCl none 0) _ rfl (setRow_heap _ _ _ _ _ _ RZ.out) Try.underlying44 rfl HIZ.out) rfl ?_
    rw [E1.out, E2.out, E3.out]
    exact retCD_zero (by rfl) (below_setRow BL.out (Nat.le_refl _) _)
  ·
    have hlen : 9 ≤ l.length := by omega
    obtain ⟨V1, hV1⟩ : ∃ V, V = Wi.getL (part l 1 2) := ⟨_, rfl⟩
    have bV1 : V1 < 65536 := by rw [hV1]; exact part_lt 1 2
    obtain ⟨V3, hV3⟩ : ∃ V, V = Wi.getL (part l 3 4) := ⟨_, rfl⟩
    have bV3 : V3 < 4294967296 := by rw [hV3]; exact part_lt 3 4
    have wV3 : IntKind.i64.wrap (V3 : Int) = (V3 : Int) := IntWalk.i64_in _ (by omega)
    obtain ⟨VR, hVR⟩ : ∃ V, V = Wi.getL (part l 7 2) := ⟨_, rfl⟩
    have bVR : VR < 65536 := by rw [hVR]; exact part_lt 7 2
    have d3 : decide ((n : Int) < 9) = false := decide_eq_false (by omega)
    have d4 : decide (n < 9) = false := decide_eq_false hlt
    have c9 : (9 : Int) ≤ (c : Int) := by omega
    have cn : (9 : Int) ≤ (n : Int) := by omega
    have nc : (n : Int) ≤ (c : Int) := by omega
    have ne1 : ¬ c = 1 := by omega
    have le1 : (1 : Int) ≤ (c : Int) := by omega
    have ne3 : ¬ c = 3 := by omega
    have le3 : (3 : Int) ≤ (c : Int) := by omega
    have ne7 : ¬ c = 7 := by omega
    have le7 : (7 : Int) ≤ (c : Int) := by omega
    have he9 : (9 : Int) ≤ (c : Int) := by omega
    have hs0 : sizeCl l = (9, 0) := by rw [hsz, if_neg hlt, show cntCl k l = 0 from by unfold cntCl; rw [show hasB k = false from decide_eq_false (by omega)]; rfl, Nat.add_zero, if_neg hlt]
    have hrd : readCl ((l.getD 0 0).toNat : Int) (l.take 9) = ⟨k, V1, V3, 0, 0, 0, VR, 0, 0, 0, []⟩ := by
      rw [h0]
      unfold readCl
      have hpt : ∀ i j, i + j ≤ 9 → part (l.take 9) i j = part l i j := fun i j h => by unfold part; rw [List.drop_take, List.take_take]; congr 1; omega
      rw [show hasP k = false from decide_eq_false (by omega), show hasR k = true from decide_eq_true (by omega), show hasS k = false from decide_eq_false (by omega), show hasB k = false from decide_eq_false (by omega), hpt 1 2 (by omega), hpt 3 4 (by omega), hpt 7 2 (by omega), ← hV1, ← hV3, ← hVR]
      simp
    obtain ⟨y, hy⟩ : ∃ y : Cl, y = ⟨k, V1, V3, 0, 0, 0, VR, 0, 0, 0, []⟩ := ⟨_, rfl⟩
    have hde : decCl l = if okCl y then (y, 9, 0) else (zeroCl, 0, 3) := by unfold decCl; rw [hs0]; simp only [if_pos]; rw [hrd, ← hy]
    have HYES := Lib.hid (show okCl y → Y = y ∧ MM = 9 ∧ KK = 0 from fun h => by rw [hde, if_pos h] at hY hMM hKK; exact ⟨hY, hMM, hKK⟩)
    have HNO := Lib.hid (show ¬ okCl y → Y = zeroCl ∧ MM = 0 ∧ KK = 3 from fun h => by rw [hde, if_neg h] at hY hMM hKK; exact ⟨hY, hMM, hKK⟩)
    have HYQ := Lib.hid hy
    clear hs0 hrd hde hy
    have HVV1 := Lib.hid hV1
    have HVV3 := Lib.hid hV3
    have HVVR := Lib.hid hVR
    have HLT := Lib.hid (show 9 ≤ l.length from by omega)
    clear hY hMM hKK hi1 hhd hx0 hbyte hsz hr hn hcap hm hk h0 hlt hV1 hV3 hVR
    obtain ⟨w1, hw1⟩ : ∃ v, v = w.alloc (.cells (clA zeroCl none 0) 44) := ⟨_, rfl⟩
    have BL1 := Lib.hid (show Below w.heap.size w w1 from by rw [hw1]; exact bel1 _ _)
    have RZ1 := Lib.hid (show Blk w1 w.heap.size (clA zeroCl none 0) 44 from by rw [hw1]; exact heap_alloc_new _ _)
    have HS1 := Lib.hid (show w1.heap.size = w.heap.size + 1 from by rw [hw1]; simp)
    have q0 : w1.cell? ad = some (.int .u8 k) := by rw [← hc0]; exact BL1.out.cell had
    have q00 : w1.cell? (ad.add 0) = some (.int .u8 k) := by rw [add_zero]; exact q0
    unfold clA zeroCl at hw1
    simp only [List.length_nil] at hw1
    clear hc0 hc00 had
    go_enter Try.func45, Try.ntmps45
    go_upto_region 1 with fail
    have e1 := hw1
    simp at e1
    first | rw [← hw1] | rw [← e1]
    clear hw1 e1
    go_wp2_with fail
    refine (HPO.out _).mono ?_
    rintro e wh ⟨rfl, rfl⟩
    have BLW := Lib.hid (show ∀ o, Below w.heap.size w (w1.alloc o) from fun o => BL1.out.trans ((bel1 w1 o).mono BL1.out.size))
    clear q0 q00
    go_upto_region 18 with fail
    refine wp_region_held_drew (S := (fun w' => Below w.heap.size w w')) (by kernel_rfl) (by first | exact (BLW.out _).drew | exact BLW.out _ | exact (BLW.out _).drew.drew | exact (BLW.out _).drewN _ | exact ((BLW.out _).drewN _).drew) (fun hh => ?_)
    have HH := Lib.hid hh
    clear hh
    refine wpAnyH_take (i := 0) (v := ?vG10) rfl (by kernel_rfl) (by kernel_rfl) (by kernel_rfl) (fun _ _ _ h => h) (Or.inl ⟨by rfl, fun w' _ => ?yG10⟩) HH.out ?_
    case yG10 => (go_simp; try with_reducible rfl)
    refine wpAnyH_take (i := 1) (v := ?vG11) rfl (by kernel_rfl) (by kernel_rfl) (by kernel_rfl) (fun _ _ _ h => h) (Or.inl ⟨by rfl, fun w' _ => ?yG11⟩) HH.out ?_
    case yG11 => (go_simp; try with_reducible rfl)
    try simp only [List.getElem_toArray, List.getElem_cons_succ, List.getElem_cons_zero, Act.put, List.setIfInBounds_toArray, List.set_cons_zero, List.set_cons_succ]
    refine wpAnyH_take (i := 3) (v := ?vG13) rfl (by kernel_rfl) (by kernel_rfl) (by kernel_rfl) (fun _ _ _ h => h) (Or.inl ⟨by rfl, fun w' _ => ?yG13⟩) HH.out ?_
    case yG13 => (go_simp; try with_reducible rfl)
    refine wpAnyH_take (i := 4) (v := ?vG14) rfl (by kernel_rfl) (by kernel_rfl) (by kernel_rfl) (fun _ _ _ h => h) (Or.inl ⟨by rfl, fun w' _ => ?yG14⟩) HH.out ?_
    case yG14 => (go_simp; try with_reducible rfl)
    try simp only [List.getElem_toArray, List.getElem_cons_succ, List.getElem_cons_zero, Act.put, List.setIfInBounds_toArray, List.set_cons_zero, List.set_cons_succ]
    refine wpAnyH_ready (rs := [2]) (by kernel_rfl) (by simp) (AllReadyH.cons rfl (fun K hK => ?_) AllReadyH.nil)
    go_simp
    refine (cget_any (some (ad.add 1)) 2 _ (part l 1 2) _ (part_len (by have := HLT.out; omega)) (part_rd (HRD.out.below HH.out) 1 2) (by omega)).mono ?_
    rintro e wq ⟨rfl, rfl⟩
    rw [← HVV1.out]
    go_simp
    refine hK.out _ _ (by first | exact (BLW.out _).drew | exact BLW.out _ | exact (BLW.out _).drew.drew | exact (BLW.out _).drewN _ | exact ((BLW.out _).drewN _).drew) (fun hh => ?_)
    have HH' := Lib.hid hh
    clear hh hK K HH 
    have HH := Lib.hid HH'.out
    clear HH'
    try simp only [List.getElem_toArray, List.getElem_cons_succ, List.getElem_cons_zero, Act.put, List.setIfInBounds_toArray, List.set_cons_zero, List.set_cons_succ]
    refine wpAnyH_take (i := 7) (v := ?vG17) rfl (by kernel_rfl) (by kernel_rfl) (by kernel_rfl) (fun _ _ _ h => h) (Or.inl ⟨by rfl, fun w' _ => ?yG17⟩) HH.out ?_
    case yG17 => (go_simp; try with_reducible rfl)
    try simp only [List.getElem_toArray, List.getElem_cons_succ, List.getElem_cons_zero, Act.put, List.setIfInBounds_toArray, List.set_cons_zero, List.set_cons_succ]
    refine wpAnyH_ready (rs := [5]) (by kernel_rfl) (by simp) (AllReadyH.cons rfl (fun K hK => ?_) AllReadyH.nil)
    go_simp
    refine (cget_any (some (ad.add 3)) 4 _ (part l 3 4) _ (part_len (by have := HLT.out; omega)) (part_rd (HRD.out.below HH.out) 3 4) (by omega)).mono ?_
    rintro e wq ⟨rfl, rfl⟩
    rw [← HVV3.out]
    go_simp
    refine hK.out _ _ (by first | exact (BLW.out _).drew | exact BLW.out _ | exact (BLW.out _).drew.drew | exact (BLW.out _).drewN _ | exact ((BLW.out _).drewN _).drew) (fun hh => ?_)
    have HH' := Lib.hid hh
    clear hh hK K HH 
    have HH := Lib.hid HH'.out
    clear HH'
    refine wpAnyH_take (i := 6) (v := ?vG16) rfl (by kernel_rfl) (by kernel_rfl) (by kernel_rfl) (fun _ _ _ h => h) (Or.inl ⟨by rfl, fun w' _ => ?yG16⟩) HH.out ?_
    case yG16 => (go_simp; try with_reducible rfl)
    try simp only [List.getElem_toArray, List.getElem_cons_succ, List.getElem_cons_zero, Act.put, List.setIfInBounds_toArray, List.set_cons_zero, List.set_cons_succ]
    try simp only [List.getElem_toArray, List.getElem_cons_succ, List.getElem_cons_zero, Act.put, List.setIfInBounds_toArray, List.set_cons_zero, List.set_cons_succ]
    refine wpAnyH_ready (rs := [8]) (by kernel_rfl) (by simp) (AllReadyH.cons rfl (fun K hK => ?_) AllReadyH.nil)
    go_simp
    refine hK.out _ _ (by first | exact (BLW.out _).drew | exact BLW.out _ | exact (BLW.out _).drew.drew | exact (BLW.out _).drewN _ | exact ((BLW.out _).drewN _).drew) (fun hh => ?_)
    have HH' := Lib.hid hh
    clear hh hK K HH
    have HH := Lib.hid HH'.out
    clear HH'
    refine wpAnyH_take (i := 9) (v := ?vG19) rfl (by kernel_rfl) (by kernel_rfl) (by kernel_rfl) (fun _ _ _ h => h) (Or.inl ⟨by rfl, fun w' _ => ?yG19⟩) HH.out ?_
    case yG19 => (go_simp; try with_reducible rfl)
    try simp only [List.getElem_toArray, List.getElem_cons_succ, List.getElem_cons_zero, Act.put, List.setIfInBounds_toArray, List.set_cons_zero, List.set_cons_succ]
    refine wpAnyH_ready (rs := [10]) (by kernel_rfl) (by simp) (AllReadyH.cons rfl (fun K hK => ?_) AllReadyH.nil)
    go_simp
    refine hK.out _ _ (by first | exact (BLW.out _).drew | exact BLW.out _ | exact (BLW.out _).drew.drew | exact (BLW.out _).drewN _ | exact ((BLW.out _).drewN _).drew) (fun hh => ?_)
    have HH' := Lib.hid hh
    clear hh hK K HH
    have HH := Lib.hid HH'.out
    clear HH'
    try simp only [List.getElem_toArray, List.getElem_cons_succ, List.getElem_cons_zero, Act.put, List.setIfInBounds_toArray, List.set_cons_zero, List.set_cons_succ]
    refine wpAnyH_done (by kernel_rfl) ?_ _
    go_wp2_with fail
    refine (cget_any (some (ad.add 7)) 2 _ (part l 7 2) _ (part_len (by have := HLT.out; omega)) (part_rd (HRD.out.below (by first | exact (BLW.out _).drew | exact BLW.out _ | exact (BLW.out _).drew.drew | exact (BLW.out _).drewN _ | exact ((BLW.out _).drewN _).drew)) 7 2) (by omega)).mono ?_
    rintro e wq ⟨rfl, rfl⟩
    rw [← HVVR.out]
    go_wp2_with fail
    refine (cright_any ⟨k, V1, V3, 0, 0, 0, VR, 0, 0, 0, []⟩ none 0 _ Rd.none (Nat.le_refl _)).mono ?_
    rw [← HYQ.out]
    rintro e w9 ⟨rfl, bw⟩
    have RZ9 := Lib.hid (blk_thru RZ1.out (by first | exact (bel1 _ _).drew | exact bel1 _ _ | exact (bel1 _ _).drew.drew | exact (bel1 _ _).drewN _) bw)
    have BL9 := Lib.hid (below_thru BL1.out (by first | exact (bel1 _ _).drew | exact bel1 _ _ | exact (bel1 _ _).drew.drew | exact (bel1 _ _).drewN _) bw)
    have C9 := Lib.hid (show Blk w9 w1.heap.size (rA k V1 V3 0 0 0 VR 0 0 0 (.slice none 0 0)) 44 from by refine Blk.below ?_ bw; exact heap_alloc_new _ _)
    have HEC := Lib.hid (show (rA k V1 V3 0 0 0 VR 0 0 0 (.slice none 0 0)) = clA y none 0 from by rw [HYQ.out]; rfl)
    have HIC := Lib.hid (show (Try.prog.info? 44).map (·.size) = some (rA k V1 V3 0 0 0 VR 0 0 0 (.slice none 0 0)).size from by kernel_rfl)
    have HOC := Lib.hid (show (rA k V1 V3 0 0 0 VR 0 0 0 (.slice none 0 0)).all (·.oneCell') = true from by simp [rA, Value.oneCell'])
    clear bw RZ1 BL1 BLW
    by_cases ok : okCl y
    · obtain ⟨f1, f2, f3⟩ := HYES.out ok
      have E1 := Lib.hid f1
      have E2 := Lib.hid f2
      have E3 := Lib.hid f3
      rw [decide_eq_true ok]
      clear f1 f2 f3 ok
      go_wp2_with (first
        | (refine wpList_load_row rfl 44 (.tmp 5) rfl w1.heap.size rfl 44 (rA k V1 V3 0 0 0 VR 0 0 0 (.slice none 0 0)) (0, 0) _ C9.out Try.underlying44 rfl HIC.out ?_)
        | (refine wpList_store_row rfl 44 (.tmp 2) (.tmp 148) rfl w.heap.size (rA k V1 V3 0 0 0 VR 0 0 0 (.slice none 0 0)) rfl rfl 44 (clA zeroCl none 0) RZ9.out HIC.out rfl HOC.out ?_))
      refine bodyPost_ret (v := .tuple #[.agg (rA k V1 V3 0 0 0 VR 0 0 0 (.slice none 0 0)), .int .i64 9, .int .i64 0]) (results_ctD Try.results45 _ _ w.heap.size 44 (rA k V1 V3 0 0 0 VR 0 0 0 (.slice none 0 0)) _ rfl (setRow_heap _ _ _ _ _ _ RZ9.out) Try.underlying44 rfl HIC.out) rfl ?_
      rw [E1.out, E2.out, E3.out]
      refine ⟨none, 0, by rw [HEC.out]; rfl, ⟨?_, fun _ h => by cases h⟩, below_setRow BL9.out (Nat.le_refl _) _⟩
      rw [show y.body = [] from by rw [HYQ.out]]; exact Rd.none
    · obtain ⟨f1, f2, f3⟩ := HNO.out ok
      have E1 := Lib.hid f1
      have E2 := Lib.hid f2
      have E3 := Lib.hid f3
      rw [decide_eq_false ok]
      clear f1 f2 f3 ok
      go_wp2_with (refine wpList_store_row rfl 44 (.tmp 2) (.tmp 147) rfl w.heap.size (clA zeroCl none 0) rfl rfl 44 (clA zeroCl none 0) RZ9.out HIZ.out rfl HOZ.out ?_)
      refine bodyPost_ret (v := .tuple #[.agg (clA zeroCl none 0), .int .i64 0, .int .i64 3]) (results_ctD Try.results45 _ _ w.heap.size 44 (clA zeroCl none 0) _ rfl (setRow_heap _ _ _ _ _ _ RZ9.out) Try.underlying44 rfl HIZ.out) rfl ?_
      rw [E1.out, E2.out, E3.out]
      exact retCD_zero (by rfl) (below_setRow BL9.out (Nat.le_refl _) _)
end Go.Proofs.Ythdmdlnndbjcoaa.Ce
