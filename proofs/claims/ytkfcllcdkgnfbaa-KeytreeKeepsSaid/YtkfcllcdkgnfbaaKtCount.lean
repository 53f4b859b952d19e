/-
  The contract of the reference's Count.
-/
import Derived.Test.YtkfcllcdkgnfbaaKtPunct
namespace Go.Proofs.Ytkfcllcdkgnfbaa.Kt
open Go.RowKit
attribute [local go_sem ↓] Go.wp_at_zero Go.wp_at_succ
theorem manyI_ok {d : Int} (h0 : 0 ≤ d) (h1 : d ≤ 17) : manyI d = 2 ^ (17 - d).toNat ∧ 1 ≤ manyI d ∧ manyI d ≤ 131072 := by
  obtain ⟨n, rfl⟩ := Int.eq_ofNat_of_zero_le h0
  have hn : n ≤ 17 := by omega
  match n, hn with
  | 0, _ => decide
  | 1, _ => decide
  | 2, _ => decide
  | 3, _ => decide
  | 4, _ => decide
  | 5, _ => decide
  | 6, _ => decide
  | 7, _ => decide
  | 8, _ => decide
  | 9, _ => decide
  | 10, _ => decide
  | 11, _ => decide
  | 12, _ => decide
  | 13, _ => decide
  | 14, _ => decide
  | 15, _ => decide
  | 16, _ => decide
  | 17, _ => decide
/-- How many leaves nodes have. -/
def countL : List Nd → Int
  | [] => 0
  | x :: l => manyI x.d + countL l
theorem countL_append (a b : List Nd) : countL (a ++ b) = countL a + countL b := by
  induction a with
  | nil => simp [countL]
  | cons x l ih => simp only [List.cons_append, countL, ih]; omega
theorem countL_bd (l : List Nd) (h : ∀ x ∈ l, okN x) : 0 ≤ countL l ∧ countL l ≤ l.length * 131072 := by
  induction l with
  | nil => simp [countL]
  | cons x l ih =>
    obtain ⟨h1, h2⟩ := ih (fun y hy => h y (by simp [hy]))
    obtain ⟨_, h3, h4⟩ := manyI_ok (h x (by simp)).1 (h x (by simp)).2.1
    rw [countL, List.length_cons]; omega
theorem countL_snoc (l : List Nd) {k : Nat} (h : k < l.length) : countL (l.take (k + 1)) = countL (l.take k) + manyI l[k].d := by
  rw [List.take_succ_eq_append_getElem h, countL_append]; simp [countL]
set_option maxRecDepth 100000 in
set_option maxHeartbeats 3200000 in
theorem count_any {B : Nat} (A : Option Addr) (n c : Nat) (l : List Nd) (w : World) (hl : l.length = n) (hv : ∀ x ∈ l, okN x) (hr : Rd B w A (nvs l)) (hn : n ≤ 1000000) :
    Calls Try.prog 22 #[.slice A n c] w (fun e w' => e = .returned (.int .i64 (countL l)) ∧ w = w') := by
  have hl3 : ∀ x ∈ l, x.s.length = 32 := fun x hx => (hv x hx).2.2.2
  have HL := Lib.hid hl
  have HR := Lib.hid hr
  have HV := Lib.hid hv
  have H3 := Lib.hid hl3
  clear hl hr hv hl3
  go_enter Try.func22, Try.ntmps22
  go_wp2_with fail
  go_loopw [3, 4] (fun s i wr => ∃ k : Nat, k ≤ n ∧ i = .int .i64 k ∧ s = .int .i64 (countL (l.take k)) ∧ wr = w) (fun _ i _ => n - (intOf i).toNat)
  case atStart => exact ⟨0, by omega, rfl, rfl, rfl⟩
  case round =>
    obtain ⟨k, hk, rfl, rfl, rfl⟩ := hrel
    by_cases hlt : k < n
    · have hkl : k < l.length := by rw [HL.out]; exact hlt
      obtain ⟨ad, hA, hbl, hcell⟩ := rd_node HR.out H3.out hkl
      subst hA
      have hx := HV.out l[k] (List.getElem_mem hkl)
      have hsn := countL_snoc l hkl
      have hbd := countL_bd (l.take k) (fun y hy => HV.out y (List.mem_of_mem_take hy))
      have hkt : (l.take k).length = k := by rw [List.length_take]; omega
      obtain ⟨x, hxe⟩ : ∃ x, x = l[k] := ⟨_, rfl⟩
      rw [← hxe] at hx hsn hcell
      have c0 := hcell 0 (.int .i64 x.d) rfl
      rw [add_zero] at c0
      obtain ⟨S, hS⟩ : ∃ S, S = countL (l.take k) := ⟨_, rfl⟩
      obtain ⟨M, hM⟩ : ∃ M, M = manyI x.d := ⟨_, rfl⟩
      have hmb := manyI_ok hx.1 hx.2.1
      rw [← hM] at hmb hsn
      rw [← hS] at hbd hsn
      rw [← hS]
      have w1 : IntKind.i64.wrap M = M := IntWalk.i64_in _ (by omega)
      have w2 : IntKind.i64.wrap (S + M) = S + M := IntWalk.i64_in _ (by omega)
      have k0 : (0 : Int) ≤ (k : Int) := by omega
      have k1 : (k : Int) < (n : Int) := by omega
      have HMM := Lib.hid hM
      have HSN := Lib.hid hsn
      have HD := Lib.hid (show -9223372036854775808 ≤ x.d by have := hx.1; omega)
      clear hcell hx hxe hsn hbd hkt hS hM hmb
      go_wp2_with fail
      refine (many_any x.d HD.out _).mono ?_
      rintro e w3 ⟨rfl, rfl⟩
      rw [← HMM.out]
      go_wp2_with fail
      go_roundw
      case rel => exact ⟨k + 1, by omega, by go_num, by rw [HSN.out], trivial⟩
      case measure => simp [intOf]; omega
    · obtain rfl : k = n := by omega
      go_wp2
      go_ret
      rw [List.take_of_length_le (by rw [HL.out]; exact Nat.le_refl _)]
      exact ⟨rfl, rfl⟩
end Go.Proofs.Ytkfcllcdkgnfbaa.Kt
