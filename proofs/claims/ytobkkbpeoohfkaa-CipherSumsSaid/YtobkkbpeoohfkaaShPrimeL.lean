/-
  Primes, roots by digits of 16 bits: over lists, and what they are as numbers; the words that come of them; no program.
-/
import Derived.Test.YtobkkbpeoohfkaaShPlain
namespace Go.Proofs.Ytobkkbpeoohfkaa
open Go.RowKit
/-- Has n no divisor from 2 to i? -/
def clearTo (n : Nat) : Nat → Bool
  | 0 => true
  | i + 1 => clearTo n i && (decide (i + 1 < 2) || decide (n % (i + 1) ≠ 0))
def isPrime (n : Nat) : Bool := clearTo n (n - 1) && decide (1 < n)
/-- The primes below i. -/
def primesTo (i : Nat) : List Nat := (List.range i).filter isPrime
/-- A product's digits: the row out, the first digits of b against the digit x of a, at place i; the carry. -/
def innerTo (x i : Nat) (b : List Nat) (out : List Nat) : Nat → List Nat × Nat
  | 0 => (out, 0)
  | k + 1 =>
    ((innerTo x i b out k).1.set (i + k) (((innerTo x i b out k).1.getD (i + k) 0 + x * b.getD k 0 + (innerTo x i b out k).2) % 65536),
      ((innerTo x i b out k).1.getD (i + k) 0 + x * b.getD k 0 + (innerTo x i b out k).2) / 65536)
def outerTo (a b : List Nat) : Nat → List Nat
  | 0 => List.replicate (a.length + b.length) 0
  | i + 1 => (innerTo (a.getD i 0) i b (outerTo a b i) b.length).1.set (i + b.length) (innerTo (a.getD i 0) i b (outerTo a b i) b.length).2
def timesL (a b : List Nat) : List Nat := outerTo a b a.length
/-- Is a above b, as far as the digits below i say? -/
def aboveTo (a b : List Nat) : Nat → Bool
  | 0 => false
  | i + 1 => if a.getD i 0 ≠ b.getD i 0 then decide (b.getD i 0 < a.getD i 0) else aboveTo a b i
def aboveL (a b : List Nat) : Bool := aboveTo a b (max a.length b.length)
def digits (y : Nat) : List Nat := [y % 65536, y / 65536 % 65536, y / 65536 / 65536]
def powL (by_ y : Nat) : List Nat := if by_ = 3 then timesL (timesL (digits y) (digits y)) (digits y) else timesL (digits y) (digits y)
def goalL (p by_ : Nat) : List Nat := (List.replicate (2 * by_ + 1) 0).set (2 * by_) p
/-- The root, as far as the n highest of 37 bits. -/
def rootTo (p by_ : Nat) : Nat → Nat
  | 0 => 0
  | n + 1 => if aboveL (powL by_ (rootTo p by_ n + 2 ^ (36 - n))) (goalL p by_) = true then rootTo p by_ n else rootTo p by_ n + 2 ^ (36 - n)
def rootL (p by_ : Nat) : UInt32 := UInt32.ofNat (rootTo p by_ 37)

/-- All digits are digits. -/
def Dig (l : List Nat) : Prop := ∀ j, l.getD j 0 < 65536
/-- The number of the first n digits. -/
def valTo (l : List Nat) : Nat → Nat
  | 0 => 0
  | n + 1 => valTo l n + l.getD n 0 * 65536 ^ n
theorem getD_set (l : List Nat) (i j v : Nat) (h : i < l.length) : (l.set i v).getD j 0 = if i = j then v else l.getD j 0 := by
  rw [List.getD_eq_getElem?_getD, List.getElem?_set]
  by_cases e : i = j
  · rw [if_pos e, if_pos e, if_pos (by omega)]; rfl
  · rw [if_neg e, if_neg e, ← List.getD_eq_getElem?_getD]
theorem getD_past (l : List Nat) {j : Nat} (h : l.length ≤ j) : l.getD j 0 = 0 := by
  rw [List.getD_eq_getElem?_getD, List.getElem?_eq_none h]; rfl
theorem valTo_set (l : List Nat) (i v : Nat) (h : i < l.length) : ∀ n, valTo (l.set i v) n + (if i < n then l.getD i 0 * 65536 ^ i else 0) = valTo l n + (if i < n then v * 65536 ^ i else 0)
  | 0 => by simp [valTo]
  | n + 1 => by
    have ih := valTo_set l i v h n
    rw [valTo, valTo, getD_set l i n v h]
    by_cases e : i = n
    · subst e
      rw [if_neg (by omega), if_neg (by omega)] at ih
      rw [if_pos rfl, if_pos (by omega), if_pos (by omega)]
      omega
    · by_cases e2 : i < n
      · rw [if_pos e2, if_pos e2] at ih
        rw [if_neg e, if_pos (by omega), if_pos (by omega)]
        omega
      · rw [if_neg e2, if_neg e2] at ih
        rw [if_neg e, if_neg (by omega), if_neg (by omega)]
        omega
theorem valTo_more (l : List Nat) {n : Nat} (h : l.length ≤ n) : ∀ k, valTo l (n + k) = valTo l n
  | 0 => rfl
  | k + 1 => by rw [← Nat.add_assoc, valTo, valTo_more l h k, getD_past l (by omega), Nat.zero_mul, Nat.add_zero]
theorem valTo_lt {l : List Nat} (h : Dig l) : ∀ n, valTo l n < 65536 ^ n
  | 0 => by simp [valTo]
  | n + 1 => by
    rw [valTo, Nat.pow_succ]
    have h1 := valTo_lt h n
    have h2 := h n
    have h3 : l.getD n 0 * 65536 ^ n ≤ 65535 * 65536 ^ n := Nat.mul_le_mul_right _ (by omega)
    omega
theorem Dig.set {l : List Nat} (h : Dig l) (i : Nat) {v : Nat} (hv : v < 65536) : Dig (l.set i v) := fun j => by
  by_cases hi : i < l.length
  · rw [getD_set l i j v hi]
    split
    · exact hv
    · exact h j
  · rw [List.set_eq_of_length_le (by omega)]; exact h j
theorem dig_zeros (n : Nat) : Dig (List.replicate n 0) := fun j => by
  rw [List.getD_eq_getElem?_getD, List.getElem?_replicate]
  split <;> simp
/-- What stands behind each step of the inner loop. -/
structure Inner (x i : Nat) (b out : List Nat) (k : Nat) : Prop where
  len : (innerTo x i b out k).1.length = out.length
  dig : Dig (innerTo x i b out k).1
  carry : (innerTo x i b out k).2 < 65536
  past : ∀ j, i + k ≤ j → (innerTo x i b out k).1.getD j 0 = out.getD j 0
  val : ∀ n, i + k ≤ n → valTo (innerTo x i b out k).1 n + (innerTo x i b out k).2 * 65536 ^ (i + k) = valTo out n + x * valTo b k * 65536 ^ i
theorem inner_sum {x d c o : Nat} (hx : x < 65536) (hd : d < 65536) (hc : c < 65536) (ho : o < 65536) : (o + x * d + c) / 65536 < 65536 := by
  have : x * d ≤ 65535 * 65535 := Nat.mul_le_mul (by omega) (by omega)
  omega
theorem inner_all {x i : Nat} {b out : List Nat} (hx : x < 65536) (hb : Dig b) (ho : Dig out) : ∀ k, i + k ≤ out.length → Inner x i b out k
  | 0, _ => ⟨rfl, ho, by show 0 < 65536; decide, fun _ _ => rfl, fun n _ => by simp [innerTo, valTo]⟩
  | k + 1, h => by
    have ih := inner_all (i := i) hx hb ho k (by omega)
    have hlt : i + k < (innerTo x i b out k).1.length := by rw [ih.len]; omega
    obtain ⟨y, hy⟩ : ∃ y, y = (innerTo x i b out k).1.getD (i + k) 0 + x * b.getD k 0 + (innerTo x i b out k).2 := ⟨_, rfl⟩
    refine ⟨?_, ?_, ?_, fun j hj => ?_, fun n hn => ?_⟩
    · rw [innerTo, List.length_set, ih.len]
    · rw [innerTo]; exact ih.dig.set _ (Nat.mod_lt _ (by decide))
    · rw [innerTo]; exact inner_sum hx (hb k) ih.carry (ih.dig _)
    · rw [innerTo, getD_set _ _ _ _ hlt, if_neg (by omega)]; exact ih.past j (by omega)
    · have h1 := valTo_set (innerTo x i b out k).1 (i + k) (y % 65536) hlt n
      rw [if_pos (by omega), if_pos (by omega)] at h1
      have h2 := ih.val n (by omega)
      rw [innerTo, ← hy, valTo]
      dsimp only
      obtain ⟨P, hP⟩ : ∃ P, P = 65536 ^ (i + k) := ⟨_, rfl⟩
      have hP1 : 65536 ^ (i + (k + 1)) = 65536 * P := by rw [← Nat.add_assoc, Nat.pow_succ, Nat.mul_comm, hP]
      have hP2 : x * (valTo b k + b.getD k 0 * 65536 ^ k) * 65536 ^ i = x * valTo b k * 65536 ^ i + x * b.getD k 0 * P := by
        rw [hP, Nat.mul_add, Nat.add_mul, Nat.pow_add, Nat.mul_comm (65536 ^ i), ← Nat.mul_assoc, ← Nat.mul_assoc]
      have hy2 : y % 65536 * P + y / 65536 * (65536 * P) = y * P := by
        rw [← Nat.mul_assoc, ← Nat.add_mul, Nat.mul_comm (y / 65536), Nat.mod_add_div]
      rw [← hP] at h1 h2
      rw [hP1, hP2]
      have hy3 : y * P = (innerTo x i b out k).1.getD (i + k) 0 * P + x * b.getD k 0 * P + (innerTo x i b out k).2 * P := by
        rw [hy, Nat.add_mul, Nat.add_mul]
      generalize y / 65536 * (65536 * P) = m2 at hy2 ⊢
      generalize y % 65536 * P = m1 at hy2 h1
      generalize y * P = m3 at hy2 hy3
      generalize (innerTo x i b out k).1.getD (i + k) 0 * P = m4 at hy3 h1
      generalize (innerTo x i b out k).2 * P = m5 at hy3 h2
      generalize x * b.getD k 0 * P = m6 at hy3 ⊢
      generalize x * valTo b k * 65536 ^ i = m7 at h2 ⊢
      omega
/-- What stands behind each step of the outer loop. -/
structure Outer (a b : List Nat) (i : Nat) : Prop where
  len : (outerTo a b i).length = a.length + b.length
  dig : Dig (outerTo a b i)
  past : ∀ j, i + b.length ≤ j → (outerTo a b i).getD j 0 = 0
  val : valTo (outerTo a b i) (a.length + b.length) = valTo a i * valTo b b.length
theorem zeros_get (n j : Nat) : (List.replicate n 0).getD j 0 = 0 := by
  rw [List.getD_eq_getElem?_getD, List.getElem?_replicate]
  split <;> rfl
theorem zeros_val (m : Nat) : ∀ n, valTo (List.replicate m 0) n = 0
  | 0 => rfl
  | n + 1 => by rw [valTo, zeros_val m n, zeros_get, Nat.zero_mul]
theorem outer_all {a b : List Nat} (ha : Dig a) (hb : Dig b) : ∀ i, i ≤ a.length → Outer a b i
  | 0, _ => ⟨by simp [outerTo], dig_zeros _, fun j _ => zeros_get _ j, by simp [outerTo, zeros_val, valTo]⟩
  | i + 1, h => by
    have ih := outer_all ha hb i (by omega)
    have hin := inner_all (i := i) (b := b) (ha i) hb ih.dig b.length (by rw [ih.len]; omega)
    have hlt : i + b.length < (innerTo (a.getD i 0) i b (outerTo a b i) b.length).1.length := by rw [hin.len, ih.len]; omega
    refine ⟨?_, ?_, fun j hj => ?_, ?_⟩
    · rw [outerTo, List.length_set, hin.len, ih.len]
    · rw [outerTo]; exact hin.dig.set _ hin.carry
    · rw [outerTo, getD_set _ _ _ _ hlt, if_neg (by omega), hin.past j (by omega)]; exact ih.past j (by omega)
    · have h1 := valTo_set (innerTo (a.getD i 0) i b (outerTo a b i) b.length).1 (i + b.length) (innerTo (a.getD i 0) i b (outerTo a b i) b.length).2 hlt (a.length + b.length)
      rw [if_pos (by omega), if_pos (by omega), hin.past _ (Nat.le_refl _), ih.past _ (Nat.le_refl _), Nat.zero_mul, Nat.add_zero] at h1
      have h2 := hin.val (a.length + b.length) (by omega)
      rw [outerTo, h1, h2, ih.val, valTo, Nat.add_mul]
      congr 1
      rw [Nat.mul_assoc, Nat.mul_comm (valTo b b.length), Nat.mul_assoc]
theorem times_length {a b : List Nat} (ha : Dig a) (hb : Dig b) : (timesL a b).length = a.length + b.length := (outer_all ha hb _ (Nat.le_refl _)).len
theorem times_dig {a b : List Nat} (ha : Dig a) (hb : Dig b) : Dig (timesL a b) := (outer_all ha hb _ (Nat.le_refl _)).dig
def val (l : List Nat) : Nat := valTo l l.length
theorem times_val {a b : List Nat} (ha : Dig a) (hb : Dig b) : val (timesL a b) = val a * val b := by
  have h := outer_all ha hb _ (Nat.le_refl _)
  rw [val, timesL, h.len]; exact h.val
theorem above_to {a b : List Nat} (ha : Dig a) (hb : Dig b) : ∀ n, aboveTo a b n = decide (valTo b n < valTo a n)
  | 0 => by simp [aboveTo, valTo]
  | n + 1 => by
    have h1 := valTo_lt ha n
    have h2 := valTo_lt hb n
    rw [aboveTo, valTo, valTo]
    by_cases e : a.getD n 0 = b.getD n 0
    · rw [if_neg (by simpa using e), above_to ha hb n, e]
      congr 1
      apply propext
      constructor <;> intro h <;> omega
    · rw [if_pos e]
      congr 1
      apply propext
      rcases Nat.lt_or_gt_of_ne e with h | h
      · have h3 : (a.getD n 0 + 1) * 65536 ^ n ≤ b.getD n 0 * 65536 ^ n := Nat.mul_le_mul_right _ h
        rw [Nat.add_mul, Nat.one_mul] at h3
        constructor <;> intro h' <;> omega
      · have h3 : (b.getD n 0 + 1) * 65536 ^ n ≤ a.getD n 0 * 65536 ^ n := Nat.mul_le_mul_right _ h
        rw [Nat.add_mul, Nat.one_mul] at h3
        constructor <;> intro h' <;> omega
theorem above_val {a b : List Nat} (ha : Dig a) (hb : Dig b) : aboveL a b = decide (val b < val a) := by
  have h1 := valTo_more a (Nat.le_refl _) (max a.length b.length - a.length)
  have h2 := valTo_more b (Nat.le_refl _) (max a.length b.length - b.length)
  rw [show a.length + (max a.length b.length - a.length) = max a.length b.length by omega] at h1
  rw [show b.length + (max a.length b.length - b.length) = max a.length b.length by omega] at h2
  rw [aboveL, above_to ha hb, h1, h2]; rfl
theorem dig3 {x y z : Nat} (hx : x < 65536) (hy : y < 65536) (hz : z < 65536) : Dig [x, y, z]
  | 0 => hx
  | 1 => hy
  | 2 => hz
  | _ + 3 => by show 0 < 65536; decide
theorem digits_dig {y : Nat} (h : y < 281474976710656) : Dig (digits y) := dig3 (Nat.mod_lt _ (by decide)) (Nat.mod_lt _ (by decide)) (by omega)
theorem digits_val (y : Nat) : val (digits y) = y := by
  show 0 + y % 65536 * 65536 ^ 0 + y / 65536 % 65536 * 65536 ^ 1 + y / 65536 / 65536 * 65536 ^ 2 = y
  omega
theorem pow_dig {y : Nat} (by_ : Nat) (h : y < 281474976710656) : Dig (powL by_ y) := by
  unfold powL
  split
  · exact times_dig (times_dig (digits_dig h) (digits_dig h)) (digits_dig h)
  · exact times_dig (digits_dig h) (digits_dig h)
theorem pow_val {y : Nat} (by_ : Nat) (h : y < 281474976710656) : val (powL by_ y) = if by_ = 3 then y * y * y else y * y := by
  unfold powL
  split
  · rw [times_val (times_dig (digits_dig h) (digits_dig h)) (digits_dig h), times_val (digits_dig h) (digits_dig h), digits_val]
  · rw [times_val (digits_dig h) (digits_dig h), digits_val]
theorem goal_dig {p : Nat} (by_ : Nat) (h : p < 65536) : Dig (goalL p by_) := (dig_zeros _).set _ h
theorem goal_length (p by_ : Nat) : (goalL p by_).length = 2 * by_ + 1 := by simp [goalL]
theorem goal_val (p by_ : Nat) : val (goalL p by_) = p * 65536 ^ (2 * by_) := by
  have h := valTo_set (List.replicate (2 * by_ + 1) 0) (2 * by_) p (by simp) (2 * by_ + 1)
  rw [if_pos (by omega), if_pos (by omega), zeros_val, zeros_get, Nat.zero_mul, Nat.add_zero, Nat.zero_add] at h
  rw [val, goal_length]; exact h
/-- The root by numbers, from x on, by the n lowest bits. -/
def rootA (p by_ x : Nat) : Nat → Nat
  | 0 => x
  | n + 1 => match decide (p * 65536 ^ (2 * by_) < (if by_ = 3 then (x + 2 ^ n) * (x + 2 ^ n) * (x + 2 ^ n) else (x + 2 ^ n) * (x + 2 ^ n))) with
    | true => rootA p by_ x n
    | false => rootA p by_ (x + 2 ^ n) n
theorem root_lt (p by_ : Nat) : ∀ n, n ≤ 37 → rootTo p by_ n + 2 ^ (37 - n) ≤ 2 ^ 37
  | 0, _ => by simp [rootTo]
  | n + 1, h => by
    have ih := root_lt p by_ n (by omega)
    rw [show 37 - n = (36 - n) + 1 by omega, Nat.pow_succ] at ih
    rw [rootTo, show 37 - (n + 1) = 36 - n by omega]
    split <;> omega
theorem root_acc {p : Nat} (by_ : Nat) (hp : p < 65536) : ∀ n, n ≤ 37 → rootA p by_ (rootTo p by_ n) (37 - n) = rootA p by_ 0 37
  | 0, _ => rfl
  | n + 1, h => by
    have ih := root_acc by_ hp n (by omega)
    have hl := root_lt p by_ n (by omega)
    rw [show 37 - n = (36 - n) + 1 by omega] at hl ih
    rw [Nat.pow_succ] at hl
    have hy : rootTo p by_ n + 2 ^ (36 - n) < 281474976710656 := by
      have := Nat.two_pow_pos (36 - n)
      have e : (2 : Nat) ^ 37 = 137438953472 := rfl
      omega
    rw [← ih, show 37 - (n + 1) = 36 - n by omega, rootA, rootTo, above_val (pow_dig by_ hy) (goal_dig by_ hp), goal_val, pow_val by_ hy]
    generalize decide (p * 65536 ^ (2 * by_) < _) = d
    cases d <;> rfl
theorem root_num {p : Nat} (by_ : Nat) (hp : p < 65536) : rootL p by_ = UInt32.ofNat (rootA p by_ 0 37) := by
  rw [← root_acc by_ hp 37 (Nat.le_refl _)]; rfl
theorem primes20 : primesTo 20 = [2, 3, 5, 7, 11, 13, 17, 19] := by decide +kernel
theorem primes64 : primesTo 312 = [2, 3, 5, 7, 11, 13, 17, 19, 23, 29, 31, 37, 41, 43, 47, 53, 59, 61, 67, 71, 73, 79, 83, 89, 97, 101, 103, 107, 109, 113, 127, 131, 137, 139, 149, 151, 157, 163, 167, 173, 179, 181, 191, 193, 197, 199, 211, 223, 227, 229, 233, 239, 241, 251, 257, 263, 269, 271, 277, 281, 283, 293, 307, 311] := by decide +kernel
theorem first_roots : ((primesTo 20).map fun p => rootL p 2) = firstL := by
  have h : ∀ p ∈ primesTo 20, rootL p 2 = UInt32.ofNat (rootA p 2 0 37) := fun p hp => root_num 2 (by rw [primes20] at hp; revert p; decide)
  rw [List.map_congr_left h, primes20]
  decide +kernel
theorem round_roots : ((primesTo 312).map fun p => rootL p 3) = kL := by
  have h : ∀ p ∈ primesTo 312, rootL p 3 = UInt32.ofNat (rootA p 3 0 37) := fun p hp => root_num 3 (by
    have := List.mem_range.1 (List.mem_filter.1 hp).1
    omega)
  rw [List.map_congr_left h, primes64]
  decide +kernel
end Go.Proofs.Ytobkkbpeoohfkaa
