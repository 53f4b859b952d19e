/-
  The contract of the reference's Same of nodes.
-/
import Derived.Test.YtkfcllcdkgnfbaaKtEq
import Derived.Test.YtkfcllcdkgnfbaaKtPunct
namespace Go.Proofs.Ytkfcllcdkgnfbaa.Kt
open Go.RowKit
attribute [local go_sem ↓] Go.wp_at_zero Go.wp_at_succ
theorem take_more {α : Type} {xs ys : List α} {k : Nat} (h : xs.take k = ys.take k) (h1 : k < xs.length) (h2 : k < ys.length) (e : xs[k] = ys[k]) : xs.take (k + 1) = ys.take (k + 1) := by
  rw [List.take_succ_eq_append_getElem h1, List.take_succ_eq_append_getElem h2, h, e]
theorem same_not {α : Type} [DecidableEq α] {xs ys : List α} {k : Nat} (h1 : k < xs.length) (h2 : k < ys.length) (e : ¬ xs[k] = ys[k]) : decide (xs = ys) = false := by
  rw [decide_eq_false_iff_not]
  rintro rfl
  exact e rfl
theorem same_all {α : Type} [DecidableEq α] {xs ys : List α} {k : Nat} (h : xs.take k = ys.take k) (h1 : ¬ k < xs.length) (hl : xs.length = ys.length) : decide (xs = ys) = true := by
  rw [decide_eq_true_iff]
  rwa [List.take_of_length_le (by omega), List.take_of_length_le (by omega)] at h
theorem same_len {α : Type} [DecidableEq α] {xs ys : List α} (hl : ¬ xs.length = ys.length) : decide (xs = ys) = false := by
  rw [decide_eq_false_iff_not]
  rintro rfl
  exact hl rfl
set_option maxRecDepth 100000 in
set_option maxHeartbeats 3200000 in
theorem same_any {B B' : Nat} (A A' : Option Addr) (n m c d : Nat) (xs ys : List Nd) (w : World) (hn : xs.length = n) (hm : ys.length = m) (hx3 : ∀ x ∈ xs, x.s.length = 32) (hy3 : ∀ x ∈ ys, x.s.length = 32)
    (ha : Rd B w A (nvs xs)) (hb : Rd B' w A' (nvs ys)) (hn' : n ≤ maxLen) (hm' : m ≤ maxLen) :
    Calls Try.prog 18 #[.slice A n c, .slice A' m d] w (RetQ (.bool (decide (xs = ys))) w) := by
  subst hn
  subst hm
  unfold maxLen at hn' hm'
  by_cases hl : xs.length = ys.length
  · have HL := Lib.hid hl
    have hle : xs.length ≤ ys.length := by omega
    have hge : ys.length ≤ xs.length := by omega
    clear hl
    have HX3 := Lib.hid hx3
    have HY3 := Lib.hid hy3
    clear hx3 hy3
    go_enter Try.func18, Try.ntmps18
    go_wp2
    go_loopw [5] (fun i wr => ∃ k q : Nat, k ≤ xs.length ∧ i = .int .i64 k ∧ Hid (xs.take k = ys.take k) ∧ wr = w.drewN q) (fun i _ => xs.length - (intOf i).toNat)
    case atStart => exact ⟨0, 0, Nat.zero_le _, rfl, rfl, rfl⟩
    case round =>
      obtain ⟨k, q, hk, rfl, HT, rfl⟩ := hrel
      by_cases hlt : k < xs.length
      · have hlt' : k < ys.length := by omega
        obtain ⟨ad, hA, _, hca⟩ := rd_node ha HX3.out hlt
        obtain ⟨bd, hB, _, hcb⟩ := rd_node hb HY3.out hlt'
        subst hA
        subst hB
        have h0 : (0 : Int) ≤ (k : Int) := by omega
        have h1 : (k : Int) < (xs.length : Int) := by omega
        have h2 : (k : Int) < (ys.length : Int) := by omega
        obtain ⟨x, hx⟩ : ∃ x, x = xs[k] := ⟨_, rfl⟩
        obtain ⟨y, hy⟩ : ∃ y, y = ys[k] := ⟨_, rfl⟩
        have hxs : x.s.length = 32 := by rw [hx]; exact HX3.out _ (List.getElem_mem hlt)
        have hys : y.s.length = 32 := by rw [hy]; exact HY3.out _ (List.getElem_mem hlt')
        rw [← hx] at hca
        rw [← hy] at hcb
        have HIX : Hid ((Try.prog.info? 32).map (·.size) = some (ndV x).length) := by rw [ndV_length hxs]; exact info_node
        have HIY : Hid ((Try.prog.info? 32).map (·.size) = some (ndV y).length) := by rw [ndV_length hys]; exact info_node
        have heq := eq_node x y hxs hys
        clear ha hb
        by_cases hxy : x = y
        · rw [decide_eq_true hxy] at heq
          have HXY := Lib.hid hxy
          have HX := Lib.hid hx
          have HY := Lib.hid hy
          clear hxy hx hy hxs hys
          go_wp2_with fail
          refine wp_region_held_drew (S := fun w' => ∃ q', w' = w.drewN q') (by kernel_rfl) ⟨q + 1, rfl⟩ (fun hh => ?_)
          have HH := Lib.hid hh
          clear hh
          refine wpAnyH_take (i := 0) (v := ?va0) rfl (by kernel_rfl) (by kernel_rfl) (by kernel_rfl) (fun _ _ _ h => h) (Or.inl ⟨by rfl, fun w' _ => ?ya0⟩) HH.out ?_
          case ya0 => (go_simp; try with_reducible rfl)
          refine wpAnyH_take (i := 1) (v := ?va1) rfl (by kernel_rfl) (by kernel_rfl) (by kernel_rfl) (fun _ _ _ h => h) (Or.inl ⟨by rfl, fun w' _ => ?ya1⟩) HH.out ?_
          case ya1 => (go_simp; try with_reducible rfl)
          try simp only [List.getElem_toArray, List.getElem_cons_succ, List.getElem_cons_zero, Act.put, List.setIfInBounds_toArray, List.set_cons_zero, List.set_cons_succ]
          refine wpAnyH_take (i := 2) (v := ?va2) rfl (by kernel_rfl) (by kernel_rfl) (by kernel_rfl) (fun _ _ _ h => h) (Or.inl ⟨by rfl, fun w' _ => ?ya2⟩) HH.out ?_
          case ya2 => (go_simp; try with_reducible rfl)
          refine wpAnyH_take (i := 3) (v := .agg (ndC x)) rfl (by kernel_rfl) (by kernel_rfl) (by kernel_rfl) (fun _ _ _ h => h) (Or.inl ⟨by rfl, fun w' hw' => ?ya3⟩) HH.out ?_
          case ya3 => (obtain ⟨q', rfl⟩ := hw'; exact exec_load_at 32 (.tmp 19) rfl (ad.add (k * 34)) rfl hca Try.underlying32 rfl HIX.out)
          refine wpAnyH_take (i := 4) (v := ?va4) rfl (by kernel_rfl) (by kernel_rfl) (by kernel_rfl) (fun _ _ _ h => h) (Or.inl ⟨by rfl, fun w' _ => ?ya4⟩) HH.out ?_
          case ya4 => (go_simp; try with_reducible rfl)
          try simp only [List.getElem_toArray, List.getElem_cons_succ, List.getElem_cons_zero, Act.put, List.setIfInBounds_toArray, List.set_cons_zero, List.set_cons_succ]
          refine wpAnyH_take (i := 5) (v := ?va5) rfl (by kernel_rfl) (by kernel_rfl) (by kernel_rfl) (fun _ _ _ h => h) (Or.inl ⟨by rfl, fun w' _ => ?ya5⟩) HH.out ?_
          case ya5 => (go_simp; try with_reducible rfl)
          refine wpAnyH_take (i := 6) (v := ?va6) rfl (by kernel_rfl) (by kernel_rfl) (by kernel_rfl) (fun _ _ _ h => h) (Or.inl ⟨by rfl, fun w' _ => ?ya6⟩) HH.out ?_
          case ya6 => (go_simp; try with_reducible rfl)
          refine wpAnyH_take (i := 7) (v := .agg (ndC y)) rfl (by kernel_rfl) (by kernel_rfl) (by kernel_rfl) (fun _ _ _ h => h) (Or.inl ⟨by rfl, fun w' hw' => ?ya7⟩) HH.out ?_
          case ya7 => (obtain ⟨q', rfl⟩ := hw'; exact exec_load_at 32 (.tmp 23) rfl (bd.add (k * 34)) rfl hcb Try.underlying32 rfl HIY.out)
          try simp only [List.getElem_toArray, List.getElem_cons_succ, List.getElem_cons_zero, Act.put, List.setIfInBounds_toArray, List.set_cons_zero, List.set_cons_succ]
          refine wpAnyH_take (i := 8) (v := ?va8) rfl (by kernel_rfl) (by kernel_rfl) (by kernel_rfl) (fun _ _ _ h => h) (Or.inl ⟨by rfl, fun w' _ => ?ya8⟩) HH.out ?_
          case ya8 => (go_simp; try with_reducible rfl)
          try simp only [List.getElem_toArray, List.getElem_cons_succ, List.getElem_cons_zero, Act.put, List.setIfInBounds_toArray, List.set_cons_zero, List.set_cons_succ]
          refine wpAnyH_done (by kernel_rfl) ?_ _
          obtain ⟨q2, hq2⟩ := HH.out
          go_wp2_with fail
          go_roundw
          case rel => exact ⟨k + 1, _, by omega, by go_num, take_more HT.out hlt hlt' (by rw [← HX.out, ← HY.out]; exact HXY.out), rfl⟩
          case measure => simp [intOf]; omega
        · rw [decide_eq_false hxy] at heq
          have HXY := Lib.hid hxy
          have HX := Lib.hid hx
          have HY := Lib.hid hy
          clear hxy hx hy hxs hys
          go_wp2_with fail
          refine wp_region_held_drew (S := fun w' => ∃ q', w' = w.drewN q') (by kernel_rfl) ⟨q + 1, rfl⟩ (fun hh => ?_)
          have HH := Lib.hid hh
          clear hh
          refine wpAnyH_take (i := 0) (v := ?vb0) rfl (by kernel_rfl) (by kernel_rfl) (by kernel_rfl) (fun _ _ _ h => h) (Or.inl ⟨by rfl, fun w' _ => ?yb0⟩) HH.out ?_
          case yb0 => (go_simp; try with_reducible rfl)
          refine wpAnyH_take (i := 1) (v := ?vb1) rfl (by kernel_rfl) (by kernel_rfl) (by kernel_rfl) (fun _ _ _ h => h) (Or.inl ⟨by rfl, fun w' _ => ?yb1⟩) HH.out ?_
          case yb1 => (go_simp; try with_reducible rfl)
          try simp only [List.getElem_toArray, List.getElem_cons_succ, List.getElem_cons_zero, Act.put, List.setIfInBounds_toArray, List.set_cons_zero, List.set_cons_succ]
          refine wpAnyH_take (i := 2) (v := ?vb2) rfl (by kernel_rfl) (by kernel_rfl) (by kernel_rfl) (fun _ _ _ h => h) (Or.inl ⟨by rfl, fun w' _ => ?yb2⟩) HH.out ?_
          case yb2 => (go_simp; try with_reducible rfl)
          refine wpAnyH_take (i := 3) (v := .agg (ndC x)) rfl (by kernel_rfl) (by kernel_rfl) (by kernel_rfl) (fun _ _ _ h => h) (Or.inl ⟨by rfl, fun w' hw' => ?yb3⟩) HH.out ?_
          case yb3 => (obtain ⟨q', rfl⟩ := hw'; exact exec_load_at 32 (.tmp 19) rfl (ad.add (k * 34)) rfl hca Try.underlying32 rfl HIX.out)
          refine wpAnyH_take (i := 4) (v := ?vb4) rfl (by kernel_rfl) (by kernel_rfl) (by kernel_rfl) (fun _ _ _ h => h) (Or.inl ⟨by rfl, fun w' _ => ?yb4⟩) HH.out ?_
          case yb4 => (go_simp; try with_reducible rfl)
          try simp only [List.getElem_toArray, List.getElem_cons_succ, List.getElem_cons_zero, Act.put, List.setIfInBounds_toArray, List.set_cons_zero, List.set_cons_succ]
          refine wpAnyH_take (i := 5) (v := ?vb5) rfl (by kernel_rfl) (by kernel_rfl) (by kernel_rfl) (fun _ _ _ h => h) (Or.inl ⟨by rfl, fun w' _ => ?yb5⟩) HH.out ?_
          case yb5 => (go_simp; try with_reducible rfl)
          refine wpAnyH_take (i := 6) (v := ?vb6) rfl (by kernel_rfl) (by kernel_rfl) (by kernel_rfl) (fun _ _ _ h => h) (Or.inl ⟨by rfl, fun w' _ => ?yb6⟩) HH.out ?_
          case yb6 => (go_simp; try with_reducible rfl)
          refine wpAnyH_take (i := 7) (v := .agg (ndC y)) rfl (by kernel_rfl) (by kernel_rfl) (by kernel_rfl) (fun _ _ _ h => h) (Or.inl ⟨by rfl, fun w' hw' => ?yb7⟩) HH.out ?_
          case yb7 => (obtain ⟨q', rfl⟩ := hw'; exact exec_load_at 32 (.tmp 23) rfl (bd.add (k * 34)) rfl hcb Try.underlying32 rfl HIY.out)
          try simp only [List.getElem_toArray, List.getElem_cons_succ, List.getElem_cons_zero, Act.put, List.setIfInBounds_toArray, List.set_cons_zero, List.set_cons_succ]
          refine wpAnyH_take (i := 8) (v := ?vb8) rfl (by kernel_rfl) (by kernel_rfl) (by kernel_rfl) (fun _ _ _ h => h) (Or.inl ⟨by rfl, fun w' _ => ?yb8⟩) HH.out ?_
          case yb8 => (go_simp; try with_reducible rfl)
          try simp only [List.getElem_toArray, List.getElem_cons_succ, List.getElem_cons_zero, Act.put, List.setIfInBounds_toArray, List.set_cons_zero, List.set_cons_succ]
          refine wpAnyH_done (by kernel_rfl) ?_ _
          go_wp2_with fail
          go_ret
          exact ⟨ret_bool (same_not hlt hlt' (by rw [← HX.out, ← HY.out]; exact HXY.out)).symm, HH.out⟩
      · go_wp2
        go_ret
        exact RetQ.mk1 (ret_bool (same_all HT.out hlt HL.out).symm)
  · have hz : ((xs.length : Int) != (ys.length : Int)) = true := by simp; omega
    have HL := Lib.hid hl
    clear hl
    go_enter Try.func18, Try.ntmps18
    go_wp2
    go_ret
    exact RetQ.mk0 (ret_bool (same_len HL.out).symm)
end Go.Proofs.Ytkfcllcdkgnfbaa.Kt
