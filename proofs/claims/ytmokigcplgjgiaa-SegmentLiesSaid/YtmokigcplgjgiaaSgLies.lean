/-
  The reference's Lies: the row of each sector's segment and slot.
-/
import Derived.Test.YtmokigcplgjgiaaSgAwake
import Derived.Test.YtmokigcplgjgiaaRowN
import Derived.Deep.RegionHeld
namespace Go.Proofs.Ytmokigcplgjgiaa.Sg
open Go.RowKit
attribute [local go_sem ↓] Go.wp_at_zero Go.wp_at_succ
/-- The cells of a row of pairs. -/
def pv : List (Int × Int) → List Value
  | [] => []
  | p :: l => .int .i64 p.1 :: .int .i64 p.2 :: pv l
theorem pv_append (l r : List (Int × Int)) : pv (l ++ r) = pv l ++ pv r := by
  induction l with
  | nil => rfl
  | cons p l ih => simp [pv, ih]
theorem pv_length (l : List (Int × Int)) : (pv l).length = l.length * 2 := by
  induction l with
  | nil => rfl
  | cons p l ih => simp [pv, ih]; omega
theorem pv_get {l : List (Int × Int)} {k : Nat} {p : Int × Int} (h : l[k]? = some p) : (pv l)[k * 2]? = some (.int .i64 p.1) ∧ (pv l)[k * 2 + 1]? = some (.int .i64 p.2) := by
  induction l generalizing k with
  | nil => simp at h
  | cons q l ih =>
    cases k with
    | zero =>
      simp at h
      subst h
      exact ⟨rfl, rfl⟩
    | succ k =>
      have := ih (k := k) (by simpa using h)
      rw [show (k + 1) * 2 = k * 2 + 1 + 1 by omega, show k * 2 + 1 + 1 + 1 = k * 2 + 1 + 1 + 1 from rfl, pv, List.getElem?_cons_succ, List.getElem?_cons_succ, List.getElem?_cons_succ, List.getElem?_cons_succ]
      exact this
/-- The sectors ahead, and the first m slots. -/
def lieL (b m : Nat) : List (Int × Int) := (-1, -1) :: (-1, -1) :: (List.range m).map fun k => (((k / b : Nat) : Int), ((k % b : Nat) : Int))
theorem lieL_length (b m : Nat) : (lieL b m).length = m + 2 := by simp [lieL]
theorem lieL_succ (b m : Nat) : lieL b (m + 1) = lieL b m ++ [(((m / b : Nat) : Int), ((m % b : Nat) : Int))] := by
  simp [lieL, List.range_succ]
theorem lieL_step {b i j : Nat} (hj : j < b) : pv (lieL b (i * b + j + 1)) = pv (lieL b (i * b + j)) ++ [.int .i64 (i : Int), .int .i64 (j : Int)] := by
  have e1 : (i * b + j) / b = i := by rw [Nat.add_comm, Nat.add_mul_div_right _ _ (by omega), Nat.div_eq_of_lt hj, Nat.zero_add]
  have e2 : (i * b + j) % b = j := by rw [Nat.add_comm, Nat.add_mul_mod_self_right, Nat.mod_eq_of_lt hj]
  rw [lieL_succ, pv_append, e1, e2]; rfl
theorem lieL_at {b m k : Nat} (h : k < m) : (lieL b m)[k + 2]? = some (((k / b : Nat) : Int), ((k % b : Nat) : Int)) := by
  simp [lieL, h]
theorem twoElt : EltN Try.prog 34 36 (.agg #[.int .i64 0, .int .i64 0]) 2 16 := ⟨Try.underlying34, by kernel_rfl, rfl, by omega, by omega⟩
theorem pv_one (l : List (Int × Int)) : ∀ u ∈ pv l, u.oneCell' = true := by
  induction l with
  | nil => intro u hu; simp [pv] at hu
  | cons p l ih =>
    intro u hu
    simp only [pv, List.mem_cons] at hu
    rcases hu with rfl | rfl | h
    · rfl
    · rfl
    · exact ih u h
set_option maxRecDepth 100000 in
set_option maxHeartbeats 12800000 in
theorem lies_any (a b : Nat) (ha : a ≤ 64) (hb : b ≤ 32) (w : World) : Calls Try.prog 19 #[.int .i64 a, .int .i64 b] w (RetRowN 36 2 (pv (lieL b (a * b))) w) := by
  go_enter Try.func19, Try.ntmps19
  go_wp2_with fail
  go_loopw [5, 6] (fun o i wr => ∃ (k : Nat) (A : Option Addr) (c : Nat), k ≤ a ∧ o = .slice A (k * b + 2) c ∧ i = .int .i64 k ∧ Below w.heap.size w wr ∧ wr.ownsRow w.heap.size 36 2 (.slice A (k * b + 2) c) (k * b + 2) (pv (lieL b (k * b)))) (fun _ i _ => a - (intOf i).toNat)
  case atStart =>
    refine ⟨0, some ⟨w.heap.size, 0, none⟩, 2, Nat.zero_le _, by rw [Nat.zero_mul], rfl, (Below.refl _ _).alloc (Nat.le_refl _) _, ?_⟩
    rw [Nat.zero_mul]
    exact World.ownsRow_lit w #[.int .i64 (-1), .int .i64 (-1), .int .i64 (-1), .int .i64 (-1)] 2 (Nat.le_refl _) two_le_maxLen rfl
  case round =>
    obtain ⟨k, A, c, hk, rfl, rfl, hbw, how⟩ := hrel
    have BB := Lib.hid hbw
    have OO := Lib.hid how
    clear hbw how
    by_cases hlt : k < a
    · have h0 : (k : Int) < (a : Int) := by omega
      obtain ⟨s, hs⟩ : ∃ s, s = k * b := ⟨_, rfl⟩
      have HS := Lib.hid hs
      have HX := Lib.hid (show s ≤ 64 * 32 by rw [hs]; exact Nat.mul_le_mul (by omega) hb)
      rw [← hs] at OO ⊢
      clear hs
      obtain ⟨wo, hwo⟩ : ∃ v, v = wr := ⟨_, rfl⟩
      subst hwo
      go_wp2_with fail
      go_loopw [5, 7] (fun o i wr => ∃ (q : Nat) (A : Option Addr) (c : Nat), q ≤ b ∧ o = .slice A (s + q + 2) c ∧ i = .int .i64 q ∧ Below w.heap.size w wr ∧ wr.ownsRow w.heap.size 36 2 (.slice A (s + q + 2) c) (s + q + 2) (pv (lieL b (s + q)))) (fun _ i _ => b - (intOf i).toNat)
      case atStart => exact ⟨0, A, c, Nat.zero_le _, rfl, rfl, BB.out, OO.out⟩
      case round =>
        clear BB OO
        obtain ⟨q, A, c, hq, rfl, rfl, hbw, how⟩ := hrel
        have BB := Lib.hid hbw
        have OO := Lib.hid how
        clear hbw how
        by_cases hlq : q < b
        · have h1 : (q : Int) < (b : Int) := by omega
          have FB := Lib.hid (BB.out.alloc BB.out.size (.cells #[.int .i64 (k : Int), .int .i64 (q : Int)] 36))
          have FO := Lib.hid (own_belowN OO.out ((Below.refl wr.heap.size wr).alloc (Nat.le_refl _) (.cells #[.int .i64 (k : Int), .int .i64 (q : Int)] 36)))
          have FR := Lib.hid (Rd.lit wr 36 [.int .i64 (k : Int), .int .i64 (q : Int)])
          go_wp2_with
            (at_builtin
             refine wpList_appN _ rfl (.tmp 21) (.tmp 25) 34 rfl twoElt (base := w.heap.size) (v := .slice A (s + q + 2) c) rfl FO.out (m := 1) rfl FR.out rfl (by intro v hv; simp only [List.mem_cons, List.not_mem_nil, or_false] at hv; rcases hv with rfl | rfl <;> rfl) (by have := HX.out; omega) FB.out.size ?_
             intro A3 c3 w3 ho3 hg3 _
             have hb3 : Below w.heap.size w w3 := app_belowN FB.out FO.out hg3 (Nat.le_refl _) FB.out.size
             have O3 := Lib.hid ho3
             have B3 := Lib.hid hb3
             clear ho3 hg3 hb3 FO FR FB)
          go_roundw
          case rel => exact ⟨q + 1, A3, c3, by omega, slice_eq (by omega), by go_num, B3.out, own_eqN O3.out (by omega) (by rw [HS.out, ← lieL_step hlq]; rfl)⟩
          case measure => simp [intOf]; omega
        · obtain rfl : b = q := by omega
          go_wp2_with fail
          go_roundw
          case rel => exact ⟨k + 1, A, c, by omega, slice_eq (by rw [HS.out, Nat.add_mul]; omega), by go_num, BB.out, own_eqN OO.out (by rw [HS.out, Nat.add_mul]; omega) (by rw [HS.out, Nat.add_mul, Nat.one_mul])⟩
          case measure => simp [intOf]; omega
    · obtain rfl : a = k := by omega
      go_wp2_with fail
      go_ret
      exact ⟨A, a * b + 2, c, rfl, OO.out, BB.out⟩
end Go.Proofs.Ytmokigcplgjgiaa.Sg
