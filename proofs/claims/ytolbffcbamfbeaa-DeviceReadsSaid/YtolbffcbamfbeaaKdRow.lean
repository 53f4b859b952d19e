/-
  Rows of sectors; the contract of the reference's Same: are two of them one?
-/
import Derived.Test.YtolbffcbamfbeaaKdSect
import Derived.Test.YtolbffcbamfbeaaKdPure
import Derived.Test.YtolbffcbamfbeaaRowN
import Derived.Test.YtolbffcbamfbeaaEqBytes
import Derived.Deep.RegionHeld
namespace Go.Proofs.Ytolbffcbamfbeaa.Kd
open Go.RowKit
attribute [local go_sem ↓] Go.wp_at_zero Go.wp_at_succ
/-- The cells of a row of sectors. -/
def svs : List (List UInt8) → List Value
  | [] => []
  | x :: l => bv x ++ svs l
theorem bv_length (x : List UInt8) : (bv x).length = x.length := by simp [bv]
theorem svs_append (a b : List (List UInt8)) : svs (a ++ b) = svs a ++ svs b := by
  induction a with
  | nil => rfl
  | cons x l ih => simp [svs, ih]
theorem svs_length {l : List (List UInt8)} (h : ∀ x ∈ l, x.length = 128) : (svs l).length = l.length * 128 := by
  induction l with
  | nil => rfl
  | cons x l ih =>
    rw [svs, List.length_append, bv_length, h x (by simp), ih (fun y hy => h y (by simp [hy])), List.length_cons]; omega
theorem svs_get {l : List (List UInt8)} (h : ∀ x ∈ l, x.length = 128) {k : Nat} (hk : k < l.length) {j : Nat} {v : Value} (hv : (bv l[k])[j]? = some v) : (svs l)[128 * k + j]? = some v := by
  induction l generalizing k with
  | nil => simp at hk
  | cons x l ih =>
    have h8 : (bv x).length = 128 := by rw [bv_length]; exact h x (by simp)
    cases k with
    | zero =>
      have hj : j < 128 := by rw [← h8]; exact (List.getElem?_eq_some_iff.1 hv).1
      rw [svs, Nat.mul_zero, Nat.zero_add, List.getElem?_append_left (by omega)]
      exact hv
    | succ k =>
      rw [svs, List.getElem?_append_right (by omega), h8, show 128 * (k + 1) + j - 128 = 128 * k + j by omega]
      exact ih (fun y hy => h y (by simp [hy])) (by simpa using hk) (by simpa using hv)
theorem add_twice8 (ad : Addr) (a b : Nat) : (ad.add a).add b = ad.add (a + b) := by
  obtain ⟨g, o, s⟩ := ad
  by_cases ha : a = 0
  · subst ha; simp [Addr.add]
  · by_cases hb : b = 0
    · subst hb; simp [Addr.add]
    · simp [Addr.add, ha, hb, Nat.add_assoc]
theorem rd_sec {B : Nat} {w : World} {A : Option Addr} {l : List (List UInt8)} (h : Rd B w A (svs l)) (hl : ∀ x ∈ l, x.length = 128) {k : Nat} (hk : k < l.length) :
    ∃ ad, A = some ad ∧ ad.block < B ∧ ∀ j v, (bv l[k])[j]? = some v → w.cell? ((ad.add (k * 128)).add j) = some v := by
  have h8 : (bv l[k]).length = 128 := by rw [bv_length]; exact hl _ (List.getElem_mem hk)
  obtain ⟨v0, h0⟩ : ∃ v0, (bv l[k])[0]? = some v0 := ⟨(bv l[k])[0]'(by omega), List.getElem?_eq_getElem (by omega)⟩
  obtain ⟨ad, hA, hb, _⟩ := h (128 * k + 0) _ (svs_get hl hk h0)
  refine ⟨ad, hA, hb, fun j v hv => ?_⟩
  obtain ⟨ad', hA', _, hc⟩ := h (128 * k + j) v (svs_get hl hk hv)
  rw [hA] at hA'
  injection hA' with hA'
  rw [hA', add_twice8, Nat.mul_comm k 128]
  exact hc
def sameN (xs ys : List (List UInt8)) : Int := if xs = ys then 1 else 0
theorem sameN_yes {xs ys : List (List UInt8)} (h : decide (xs = ys) = true) : sameN xs ys = 1 := by rw [sameN, if_pos (of_decide_eq_true h)]
theorem sameN_no {xs ys : List (List UInt8)} (h : decide (xs = ys) = false) : sameN xs ys = 0 := by rw [sameN, if_neg (of_decide_eq_false h)]
theorem eq_sec (a b : List UInt8) (ha : a.length = 128) (hb : b.length = 128) (w : World) : (Op.equalIn 10000 38 (.agg (bva a)) (.agg (bva b))).run Try.prog w = .ok (decide (a = b)) w := by
  obtain ⟨i, hi⟩ := Option.isSome_iff_exists.1 (show (Try.prog.info? 5).isSome = true by kernel_rfl)
  exact run_equal_bytes w Try.underlying38 Try.underlying5 hi (by kernel_rfl) a b ha hb
theorem take_more {α : Type} {xs ys : List α} {k : Nat} (h : xs.take k = ys.take k) (h1 : k < xs.length) (h2 : k < ys.length) (e : xs[k] = ys[k]) : xs.take (k + 1) = ys.take (k + 1) := by
  rw [List.take_succ_eq_append_getElem h1, List.take_succ_eq_append_getElem h2, h, e]
theorem same_not {α : Type} [DecidableEq α] {xs ys : List α} {k : Nat} (h1 : k < xs.length) (h2 : k < ys.length) (e : ¬ xs[k] = ys[k]) : decide (xs = ys) = false := by
  rw [decide_eq_false_iff_not]
  rintro rfl
  exact e rfl
theorem same_all {α : Type} [DecidableEq α] {xs ys : List α} {k : Nat} (h : xs.take k = ys.take k) (h1 : ¬ k < xs.length) (hl : xs.length = ys.length) : decide (xs = ys) = true := by
  rw [decide_eq_true_iff]
  rwa [List.take_of_length_le (by omega), List.take_of_length_le (by omega)] at h
theorem same_len {α : Type} [DecidableEq α] {xs ys : List α} (hl : ¬ xs.length = ys.length) : decide (xs = ys) = false := by
  rw [decide_eq_false_iff_not]
  rintro rfl
  exact hl rfl
set_option maxRecDepth 100000 in
set_option maxHeartbeats 3200000 in
theorem rsame_any {B B' : Nat} (A A' : Option Addr) (n m c d : Nat) (xs ys : List (List UInt8)) (w : World) (hn : xs.length = n) (hm : ys.length = m) (hx3 : ∀ x ∈ xs, x.length = 128) (hy3 : ∀ x ∈ ys, x.length = 128)
    (ha : Rd B w A (svs xs)) (hb : Rd B' w A' (svs ys)) (hn' : n ≤ maxLen) (hm' : m ≤ maxLen) :
    Calls Try.prog 21 #[.slice A n c, .slice A' m d] w (RetQ (.int .i64 (sameN xs ys)) w) := by
  subst hn
  subst hm
  unfold maxLen at hn' hm'
  by_cases hl : xs.length = ys.length
  · have HL := Lib.hid hl
    have hle : xs.length ≤ ys.length := by omega
    have hge : ys.length ≤ xs.length := by omega
    clear hl
    have HX3 := Lib.hid hx3
    have HY3 := Lib.hid hy3
    clear hx3 hy3
    go_enter Try.func21, Try.ntmps21
    go_wp2
    go_loopw [5] (fun i wr => ∃ k q : Nat, k ≤ xs.length ∧ i = .int .i64 k ∧ Hid (xs.take k = ys.take k) ∧ wr = w.drewN q) (fun i _ => xs.length - (intOf i).toNat)
    case atStart => exact ⟨0, 0, Nat.zero_le _, rfl, rfl, rfl⟩
    case round =>
      obtain ⟨k, q, hk, rfl, HT, rfl⟩ := hrel
      by_cases hlt : k < xs.length
      · have hlt' : k < ys.length := by omega
        obtain ⟨ad, hA, _, hca⟩ := rd_sec ha HX3.out hlt
        obtain ⟨bd, hB, _, hcb⟩ := rd_sec hb HY3.out hlt'
        subst hA
        subst hB
        have h0 : (0 : Int) ≤ (k : Int) := by omega
        have h1 : (k : Int) < (xs.length : Int) := by omega
        have h2 : (k : Int) < (ys.length : Int) := by omega
        obtain ⟨x, hx⟩ : ∃ x, x = xs[k] := ⟨_, rfl⟩
        obtain ⟨y, hy⟩ : ∃ y, y = ys[k] := ⟨_, rfl⟩
        have hxs : x.length = 128 := by rw [hx]; exact HX3.out _ (List.getElem_mem hlt)
        have hys : y.length = 128 := by rw [hy]; exact HY3.out _ (List.getElem_mem hlt')
        rw [← hx] at hca
        rw [← hy] at hcb
        have HIX : Hid ((Try.prog.info? 38).map (·.size) = some (bv x).length) := by rw [bv_length, hxs]; exact info_sec
        have HIY : Hid ((Try.prog.info? 38).map (·.size) = some (bv y).length) := by rw [bv_length, hys]; exact info_sec
        have heq := eq_sec x y hxs hys
        clear ha hb
        by_cases hxy : x = y
        · rw [decide_eq_true hxy] at heq
          have HXY := Lib.hid hxy
          have HX := Lib.hid hx
          have HY := Lib.hid hy
          clear hxy hx hy hxs hys
          go_wp2_with fail
          refine wp_region_held_drew (S := fun w' => ∃ q', w' = w.drewN q') (by kernel_rfl) ⟨q + 1, rfl⟩ (fun hh => ?_)
          have HH := Lib.hid hh
          clear hh
          refine wpAnyH_take (i := 0) (v := ?va0) rfl (by kernel_rfl) (by kernel_rfl) (by kernel_rfl) (fun _ _ _ h => h) (Or.inl ⟨by rfl, fun w' _ => ?ya0⟩) HH.out ?_
          case ya0 => (go_simp; try with_reducible rfl)
          refine wpAnyH_take (i := 1) (v := ?va1) rfl (by kernel_rfl) (by kernel_rfl) (by kernel_rfl) (fun _ _ _ h => h) (Or.inl ⟨by rfl, fun w' _ => ?ya1⟩) HH.out ?_
          case ya1 => (go_simp; try with_reducible rfl)
          try simp only [List.getElem_toArray, List.getElem_cons_succ, List.getElem_cons_zero, Act.put, List.setIfInBounds_toArray, List.set_cons_zero, List.set_cons_succ]
          refine wpAnyH_take (i := 2) (v := ?va2) rfl (by kernel_rfl) (by kernel_rfl) (by kernel_rfl) (fun _ _ _ h => h) (Or.inl ⟨by rfl, fun w' _ => ?ya2⟩) HH.out ?_
          case ya2 => (go_simp; try with_reducible rfl)
          refine wpAnyH_take (i := 3) (v := .agg (bva x)) rfl (by kernel_rfl) (by kernel_rfl) (by kernel_rfl) (fun _ _ _ h => h) (Or.inl ⟨by rfl, fun w' hw' => ?ya3⟩) HH.out ?_
          case ya3 => (obtain ⟨q', rfl⟩ := hw'; exact exec_load_at 38 (.tmp 19) rfl (ad.add (k * 128)) rfl hca Try.underlying38 rfl HIX.out)
          refine wpAnyH_take (i := 4) (v := ?va4) rfl (by kernel_rfl) (by kernel_rfl) (by kernel_rfl) (fun _ _ _ h => h) (Or.inl ⟨by rfl, fun w' _ => ?ya4⟩) HH.out ?_
          case ya4 => (go_simp; try with_reducible rfl)
          try simp only [List.getElem_toArray, List.getElem_cons_succ, List.getElem_cons_zero, Act.put, List.setIfInBounds_toArray, List.set_cons_zero, List.set_cons_succ]
          refine wpAnyH_take (i := 5) (v := ?va5) rfl (by kernel_rfl) (by kernel_rfl) (by kernel_rfl) (fun _ _ _ h => h) (Or.inl ⟨by rfl, fun w' _ => ?ya5⟩) HH.out ?_
          case ya5 => (go_simp; try with_reducible rfl)
          refine wpAnyH_take (i := 6) (v := ?va6) rfl (by kernel_rfl) (by kernel_rfl) (by kernel_rfl) (fun _ _ _ h => h) (Or.inl ⟨by rfl, fun w' _ => ?ya6⟩) HH.out ?_
          case ya6 => (go_simp; try with_reducible rfl)
          refine wpAnyH_take (i := 7) (v := .agg (bva y)) rfl (by kernel_rfl) (by kernel_rfl) (by kernel_rfl) (fun _ _ _ h => h) (Or.inl ⟨by rfl, fun w' hw' => ?ya7⟩) HH.out ?_
          case ya7 => (obtain ⟨q', rfl⟩ := hw'; exact exec_load_at 38 (.tmp 23) rfl (bd.add (k * 128)) rfl hcb Try.underlying38 rfl HIY.out)
          try simp only [List.getElem_toArray, List.getElem_cons_succ, List.getElem_cons_zero, Act.put, List.setIfInBounds_toArray, List.set_cons_zero, List.set_cons_succ]
          refine wpAnyH_take (i := 8) (v := ?va8) rfl (by kernel_rfl) (by kernel_rfl) (by kernel_rfl) (fun _ _ _ h => h) (Or.inl ⟨by rfl, fun w' _ => ?ya8⟩) HH.out ?_
          case ya8 => (go_simp; try with_reducible rfl)
          try simp only [List.getElem_toArray, List.getElem_cons_succ, List.getElem_cons_zero, Act.put, List.setIfInBounds_toArray, List.set_cons_zero, List.set_cons_succ]
          refine wpAnyH_done (by kernel_rfl) ?_ _
          obtain ⟨q2, hq2⟩ := HH.out
          go_wp2_with fail
          go_roundw
          case rel => exact ⟨k + 1, _, by omega, by go_num, take_more HT.out hlt hlt' (by rw [← HX.out, ← HY.out]; exact HXY.out), rfl⟩
          case measure => simp [intOf]; omega
        · rw [decide_eq_false hxy] at heq
          have HXY := Lib.hid hxy
          have HX := Lib.hid hx
          have HY := Lib.hid hy
          clear hxy hx hy hxs hys
          go_wp2_with fail
          refine wp_region_held_drew (S := fun w' => ∃ q', w' = w.drewN q') (by kernel_rfl) ⟨q + 1, rfl⟩ (fun hh => ?_)
          have HH := Lib.hid hh
          clear hh
          refine wpAnyH_take (i := 0) (v := ?vb0) rfl (by kernel_rfl) (by kernel_rfl) (by kernel_rfl) (fun _ _ _ h => h) (Or.inl ⟨by rfl, fun w' _ => ?yb0⟩) HH.out ?_
          case yb0 => (go_simp; try with_reducible rfl)
          refine wpAnyH_take (i := 1) (v := ?vb1) rfl (by kernel_rfl) (by kernel_rfl) (by kernel_rfl) (fun _ _ _ h => h) (Or.inl ⟨by rfl, fun w' _ => ?yb1⟩) HH.out ?_
          case yb1 => (go_simp; try with_reducible rfl)
          try simp only [List.getElem_toArray, List.getElem_cons_succ, List.getElem_cons_zero, Act.put, List.setIfInBounds_toArray, List.set_cons_zero, List.set_cons_succ]
          refine wpAnyH_take (i := 2) (v := ?vb2) rfl (by kernel_rfl) (by kernel_rfl) (by kernel_rfl) (fun _ _ _ h => h) (Or.inl ⟨by rfl, fun w' _ => ?yb2⟩) HH.out ?_
          case yb2 => (go_simp; try with_reducible rfl)
          refine wpAnyH_take (i := 3) (v := .agg (bva x)) rfl (by kernel_rfl) (by kernel_rfl) (by kernel_rfl) (fun _ _ _ h => h) (Or.inl ⟨by rfl, fun w' hw' => ?yb3⟩) HH.out ?_
          case yb3 => (obtain ⟨q', rfl⟩ := hw'; exact exec_load_at 38 (.tmp 19) rfl (ad.add (k * 128)) rfl hca Try.underlying38 rfl HIX.out)
          refine wpAnyH_take (i := 4) (v := ?vb4) rfl (by kernel_rfl) (by kernel_rfl) (by kernel_rfl) (fun _ _ _ h => h) (Or.inl ⟨by rfl, fun w' _ => ?yb4⟩) HH.out ?_
          case yb4 => (go_simp; try with_reducible rfl)
          try simp only [List.getElem_toArray, List.getElem_cons_succ, List.getElem_cons_zero, Act.put, List.setIfInBounds_toArray, List.set_cons_zero, List.set_cons_succ]
          refine wpAnyH_take (i := 5) (v := ?vb5) rfl (by kernel_rfl) (by kernel_rfl) (by kernel_rfl) (fun _ _ _ h => h) (Or.inl ⟨by rfl, fun w' _ => ?yb5⟩) HH.out ?_
          case yb5 => (go_simp; try with_reducible rfl)
          refine wpAnyH_take (i := 6) (v := ?vb6) rfl (by kernel_rfl) (by kernel_rfl) (by kernel_rfl) (fun _ _ _ h => h) (Or.inl ⟨by rfl, fun w' _ => ?yb6⟩) HH.out ?_
          case yb6 => (go_simp; try with_reducible rfl)
          refine wpAnyH_take (i := 7) (v := .agg (bva y)) rfl (by kernel_rfl) (by kernel_rfl) (by kernel_rfl) (fun _ _ _ h => h) (Or.inl ⟨by rfl, fun w' hw' => ?yb7⟩) HH.out ?_
          case yb7 => (obtain ⟨q', rfl⟩ := hw'; exact exec_load_at 38 (.tmp 23) rfl (bd.add (k * 128)) rfl hcb Try.underlying38 rfl HIY.out)
          try simp only [List.getElem_toArray, List.getElem_cons_succ, List.getElem_cons_zero, Act.put, List.setIfInBounds_toArray, List.set_cons_zero, List.set_cons_succ]
          refine wpAnyH_take (i := 8) (v := ?vb8) rfl (by kernel_rfl) (by kernel_rfl) (by kernel_rfl) (fun _ _ _ h => h) (Or.inl ⟨by rfl, fun w' _ => ?yb8⟩) HH.out ?_
          case yb8 => (go_simp; try with_reducible rfl)
          try simp only [List.getElem_toArray, List.getElem_cons_succ, List.getElem_cons_zero, Act.put, List.setIfInBounds_toArray, List.set_cons_zero, List.set_cons_succ]
          refine wpAnyH_done (by kernel_rfl) ?_ _
          go_wp2_with fail
          go_ret
          exact ⟨by rw [sameN_no (same_not hlt hlt' (by rw [← HX.out, ← HY.out]; exact HXY.out))]; rfl, HH.out⟩
      · go_wp2
        go_ret
        exact RetQ.mk1 (by rw [sameN_yes (same_all HT.out hlt HL.out)]; rfl)
  · have hz : ((xs.length : Int) != (ys.length : Int)) = true := by simp; omega
    have HL := Lib.hid hl
    clear hl
    go_enter Try.func21, Try.ntmps21
    go_wp2
    go_ret
    exact RetQ.mk0 (by rw [sameN_no (same_len HL.out)]; rfl)
end Go.Proofs.Ytolbffcbamfbeaa.Kd
