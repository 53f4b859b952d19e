/-
  Nodes of the reference as values; the contract of its In.
-/
import Derived.Test.YtippbjpodnnhiaaRowN
import Derived.Test.YtippbjpodnnhiaaKgMany
import Derived.Deep.QuietTactic
import Derived.BigQuiet
namespace Go.Proofs.Ytippbjpodnnhiaa.Kg
open Go.RowKit
attribute [local go_sem ↓] Go.wp_at_zero Go.wp_at_succ
/-- A node: its depth, its first leaf, its seed. -/
structure Nd where
  d : Int
  a : Int
  s : List UInt8
instance : DecidableEq Nd := fun x y => decidable_of_iff (x.d = y.d ∧ x.a = y.a ∧ x.s = y.s) ⟨fun ⟨h1, h2, h3⟩ => by cases x; cases y; simp_all, fun h => by rw [h]; exact ⟨rfl, rfl, rfl⟩⟩
def ndV (x : Nd) : List Value := .int .i64 x.d :: .int .u64 x.a :: bv x.s
def ndC (x : Nd) : Array Value := (ndV x).toArray
theorem ndV_length {x : Nd} (h : x.s.length = 32) : (ndV x).length = 34 := by simp [ndV, bv_length, h]
theorem ndC_size {x : Nd} (h : x.s.length = 32) : (ndC x).size = 34 := by simp [ndC, ndV_length h]
theorem ndV_one (x : Nd) : ∀ u ∈ ndV x, u.oneCell' = true := by
  intro u hu
  simp only [ndV, List.mem_cons] at hu
  rcases hu with rfl | rfl | hu
  · rfl
  · rfl
  · exact bv_one _ u hu
/-- The cells of a row of nodes. -/
def nvs : List Nd → List Value
  | [] => []
  | x :: l => ndV x ++ nvs l
theorem nvs_append (a b : List Nd) : nvs (a ++ b) = nvs a ++ nvs b := by
  induction a with
  | nil => rfl
  | cons x l ih => simp [nvs, ih]
theorem nvs_length {l : List Nd} (h : ∀ x ∈ l, x.s.length = 32) : (nvs l).length = l.length * 34 := by
  induction l with
  | nil => rfl
  | cons x l ih =>
    rw [nvs, List.length_append, ndV_length (h x (by simp)), ih (fun y hy => h y (by simp [hy])), List.length_cons]; omega
theorem nvs_one (l : List Nd) : ∀ u ∈ nvs l, u.oneCell' = true := by
  induction l with
  | nil => intro u hu; simp [nvs] at hu
  | cons x l ih =>
    intro u hu
    simp only [nvs, List.mem_append] at hu
    rcases hu with hu | hu
    · exact ndV_one x u hu
    · exact ih u hu
theorem nvs_get {l : List Nd} (h : ∀ x ∈ l, x.s.length = 32) {k : Nat} (hk : k < l.length) {j : Nat} {v : Value} (hv : (ndV l[k])[j]? = some v) : (nvs l)[34 * k + j]? = some v := by
  induction l generalizing k with
  | nil => simp at hk
  | cons x l ih =>
    have h34 := ndV_length (h x (by simp))
    cases k with
    | zero =>
      have hj : j < 34 := by rw [← h34]; exact (List.getElem?_eq_some_iff.1 hv).1
      rw [nvs, Nat.mul_zero, Nat.zero_add, List.getElem?_append_left (by omega)]
      exact hv
    | succ k =>
      rw [nvs, List.getElem?_append_right (by omega), h34, show 34 * (k + 1) + j - 34 = 34 * k + j by omega]
      exact ih (fun y hy => h y (by simp [hy])) (by simpa using hk) (by simpa using hv)
section
variable {w : World} {g : Nat} {x : Nd}
end
/-- Has a node a leaf? -/
def inI (x : Nd) (m : Int) : Bool := decide (x.a ≤ m) && decide (m - x.a < manyI x.d)
end Go.Proofs.Ytippbjpodnnhiaa.Kg
