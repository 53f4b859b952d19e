/-
  Nodes of the reference as values; the contract of its In.
-/
import Derived.Test.YtkfcllcdkgnfbaaRowN
import Derived.Test.YtkfcllcdkgnfbaaKtMany
import Derived.Deep.QuietTactic
import Derived.BigQuiet
namespace Go.Proofs.Ytkfcllcdkgnfbaa.Kt
open Go.RowKit
attribute [local go_sem ↓] Go.wp_at_zero Go.wp_at_succ
/-- A node: its depth, its first leaf, its seed. -/
structure Nd where
  d : Int
  a : Int
  s : List UInt8
instance : DecidableEq Nd := fun x y => decidable_of_iff (x.d = y.d ∧ x.a = y.a ∧ x.s = y.s) ⟨fun ⟨h1, h2, h3⟩ => by cases x; cases y; simp_all, fun h => by rw [h]; exact ⟨rfl, rfl, rfl⟩⟩
def ndV (x : Nd) : List Value := .int .i64 x.d :: .int .u64 x.a :: bv x.s
def ndC (x : Nd) : Array Value := (ndV x).toArray
theorem ndV_length {x : Nd} (h : x.s.length = 32) : (ndV x).length = 34 := by simp [ndV, bv_length, h]
theorem ndC_size {x : Nd} (h : x.s.length = 32) : (ndC x).size = 34 := by simp [ndC, ndV_length h]
theorem ndV_one (x : Nd) : ∀ u ∈ ndV x, u.oneCell' = true := by
  intro u hu
  simp only [ndV, List.mem_cons] at hu
  rcases hu with rfl | rfl | hu
  · rfl
  · rfl
  · exact bv_one _ u hu
/-- The cells of a row of nodes. -/
def nvs : List Nd → List Value
  | [] => []
  | x :: l => ndV x ++ nvs l
theorem nvs_append (a b : List Nd) : nvs (a ++ b) = nvs a ++ nvs b := by
  induction a with
  | nil => rfl
  | cons x l ih => simp [nvs, ih]
theorem nvs_length {l : List Nd} (h : ∀ x ∈ l, x.s.length = 32) : (nvs l).length = l.length * 34 := by
  induction l with
  | nil => rfl
  | cons x l ih =>
    rw [nvs, List.length_append, ndV_length (h x (by simp)), ih (fun y hy => h y (by simp [hy])), List.length_cons]; omega
theorem nvs_one (l : List Nd) : ∀ u ∈ nvs l, u.oneCell' = true := by
  induction l with
  | nil => intro u hu; simp [nvs] at hu
  | cons x l ih =>
    intro u hu
    simp only [nvs, List.mem_append] at hu
    rcases hu with hu | hu
    · exact ndV_one x u hu
    · exact ih u hu
theorem nvs_get {l : List Nd} (h : ∀ x ∈ l, x.s.length = 32) {k : Nat} (hk : k < l.length) {j : Nat} {v : Value} (hv : (ndV l[k])[j]? = some v) : (nvs l)[34 * k + j]? = some v := by
  induction l generalizing k with
  | nil => simp at hk
  | cons x l ih =>
    have h34 := ndV_length (h x (by simp))
    cases k with
    | zero =>
      have hj : j < 34 := by rw [← h34]; exact (List.getElem?_eq_some_iff.1 hv).1
      rw [nvs, Nat.mul_zero, Nat.zero_add, List.getElem?_append_left (by omega)]
      exact hv
    | succ k =>
      rw [nvs, List.getElem?_append_right (by omega), h34, show 34 * (k + 1) + j - 34 = 34 * k + j by omega]
      exact ih (fun y hy => h y (by simp [hy])) (by simpa using hk) (by simpa using hv)
theorem info_node : (Try.prog.info? 32).map (·.size) = some 34 := by kernel_rfl
section
variable {w : World} {g : Nat} {x : Nd}
theorem nd_d (h : Blk w g (ndC x) 32) : w.cell? ⟨g, 0, none⟩ = some (.int .i64 x.d) := by rw [h.cell]; rfl
theorem nd_a (h : Blk w g (ndC x) 32) : w.cell? ⟨g, 1, none⟩ = some (.int .u64 x.a) := by rw [h.cell]; rfl
theorem nd_s (h : Blk w g (ndC x) 32) : w.rangeAt g 2 (bv x.s) := fun j v hv => by
  rw [h.cell, ndC, List.getElem?_toArray, ndV, show 2 + j = j + 1 + 1 by omega, List.getElem?_cons_succ, List.getElem?_cons_succ]
  exact hv
end
/-- Has a node a leaf? -/
def inI (x : Nd) (m : Int) : Bool := decide (x.a ≤ m) && decide (m - x.a < manyI x.d)
set_option maxRecDepth 100000 in
set_option maxHeartbeats 800000 in
theorem in_any (x : Nd) (hd : -9223372036854775808 ≤ x.d) (ha : 0 ≤ x.a) (m : Int) (hm : m < 18446744073709551616) (w : World) :
    Calls Try.prog 28 #[.agg (ndC x), .int .u64 m] w (RetB (.bool (inI x m)) w) := by
  have b1 : Blk (w.alloc (.cells (ndC x) 32)) w.heap.size (ndC x) 32 := heap_alloc_new _ _
  have hb : Below w.heap.size w (w.alloc (.cells (ndC x) 32)) := (Below.refl _ _).alloc (Nat.le_refl _) _
  have c0 := nd_d b1
  have c1 := nd_a b1
  have BB := Lib.hid hb
  obtain ⟨M, hM⟩ : ∃ M, M = manyI x.d := ⟨_, rfl⟩
  have HQ := Lib.hid (show ∀ W, Calls Try.prog 30 #[.int .i64 x.d] W (RetQ (.int .u64 M) W) from fun W => by rw [hM]; exact many_q x.d hd W)
  by_cases h1 : x.a ≤ m
  · have e1 : decide (x.a ≤ m) = true := decide_eq_true h1
    have e2 : IntKind.u64.wrap (m - x.a) = m - x.a := IntWalk.u64_in _ (by omega)
    by_cases h2 : m - x.a < M
    · have e3 : decide (m - x.a < M) = true := decide_eq_true h2
      have ei : inI x m = true := by rw [inI, ← hM, e1, e3]; rfl
      clear h1 h2 ha hm hd hb hM b1
      go_enter Try.func28, Try.ntmps28
      go_wp2_with fail
      go_quiet ((go_at_call 30; exact RetQ.quiet (HQ.out _)))
      go_wp2
      go_ret
      rw [ei]
      exact ⟨rfl, below_drewN' BB.out _⟩
    · have e3 : decide (m - x.a < M) = false := decide_eq_false h2
      have ei : inI x m = false := by rw [inI, ← hM, e1, e3]; rfl
      clear h1 h2 ha hm hd hb hM b1
      go_enter Try.func28, Try.ntmps28
      go_wp2_with fail
      go_quiet ((go_at_call 30; exact RetQ.quiet (HQ.out _)))
      go_wp2
      go_ret
      rw [ei]
      exact ⟨rfl, below_drewN' BB.out _⟩
  · have e1 : decide (x.a ≤ m) = false := decide_eq_false h1
    have ei : inI x m = false := by rw [inI, e1]; rfl
    clear h1 ha hm hd hb hM b1
    go_enter Try.func28, Try.ntmps28
    go_wp2_with fail
    go_quiet (fail)
    go_wp2
    go_ret
    rw [ei]
    exact ⟨rfl, below_drewN' BB.out _⟩
end Go.Proofs.Ytkfcllcdkgnfbaa.Kt
