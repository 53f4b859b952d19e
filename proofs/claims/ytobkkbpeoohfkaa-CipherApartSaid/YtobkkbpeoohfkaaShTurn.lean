/-
  The contracts of the turns to the right.
-/
import Derived.Test.YtobkkbpeoohfkaaRows
import Derived.Test.YtobkkbpeoohfkaaShPlain
namespace Go.Proofs.Ytobkkbpeoohfkaa
open Go.RowKit
theorem neg_and (n : Nat) (h0 : 0 < n) (h1 : n < 32) : bits BinOp.and IntKind.u64 (18446744073709551616 - (n : Int)) 31 = ((32 - n : Nat) : Int) := by
  have e : (18446744073709551616 - (n : Int)) = ((18446744073709551616 - n : Nat) : Int) := by omega
  rw [e, show ((31 : Int)) = ((31 : Nat) : Int) from rfl, u64_and_nat _ 31 (by omega) (by decide)]
  congr 1
  rw [show (31 : Nat) = 2 ^ 5 - 1 from rfl, Nat.and_two_pow_sub_one_eq_mod]; omega
theorem rr_sum (X : UInt32) {m : Nat} (h0 : 0 < m) (h1 : m < 32) : (rr X m).toNat = X.toNat / 2 ^ m + X.toNat * 2 ^ (32 - m) % 4294967296 := by
  have h2 : X.toNat * 2 ^ (32 - m) % 4294967296 = (X.toNat % 2 ^ m) <<< (32 - m) := by
    rw [show (4294967296 : Nat) = 2 ^ m * 2 ^ (32 - m) by rw [← Nat.pow_add, show m + (32 - m) = 32 by omega], Nat.mul_mod_mul_right, Nat.shiftLeft_eq]
  have h3 : X.toNat / 2 ^ m < 2 ^ (32 - m) := by
    rw [Nat.div_lt_iff_lt_mul (Nat.two_pow_pos m), ← Nat.pow_add, show 32 - m + m = 32 by omega]; exact X.toNat_lt
  rw [h2, Nat.add_comm, Nat.shiftLeft_add_eq_or_of_lt h3, ← h2, rr, rotl, UInt32.toNat_or, UInt32.toNat_shiftLeft, UInt32.toNat_shiftRight, ofNat_small (by omega), show 32 - (32 - m) = m by omega, ofNat_small h1, Nat.shiftLeft_eq, Nat.shiftRight_eq_div_pow]
theorem pow_mod (k : Nat) (hk : k < 32) : ((2 : Int) ^ k % 4294967296) = ((2 ^ k : Nat) : Int) := by
  have hp : (2 : Nat) ^ k % 4294967296 = 2 ^ k := Nat.mod_eq_of_lt (Nat.pow_lt_pow_right (by omega) hk : 2 ^ k < 2 ^ 32)
  rw [← hp]; simp
theorem rr_val (X : UInt32) {m : Nat} (h0 : 0 < m) (h1 : m < 32) :
    ((X.toNat : Int) / (2 ^ m % 4294967296) % 4294967296 + (X.toNat : Int) * (2 ^ (32 - m) % 4294967296) % 4294967296) % 4294967296 = ((rr X m).toNat : Int) := by
  have hl := (rr X m).toNat_lt
  rw [pow_mod m h1, pow_mod (32 - m) (by omega)]
  rw [rr_sum X h0 h1] at hl ⊢
  have hx := X.toNat_lt
  have h4 : X.toNat / 2 ^ m < 4294967296 := Nat.lt_of_le_of_lt (Nat.div_le_self _ _) hx
  rw [← Int.natCast_ediv, ← Int.natCast_mul]
  generalize X.toNat / 2 ^ m = A at *
  generalize X.toNat * 2 ^ (32 - m) = B at *
  omega
theorem rot_any (X : UInt32) (m : Nat) (w : World) (h0 : 0 < m) (h1 : m < 32) :
    Calls Try.prog 67 #[.int .u32 X.toNat, .int .i64 (-(m : Int))] w (fun e w' => e = .returned (.int .u32 (rr X m).toNat) ∧ w = w') := by
  have b0 : (0 : Int) ≤ (X.toNat : Int) := by omega
  have b1 : (X.toNat : Int) ≤ 4294967295 := by have := X.toNat_lt; omega
  have HR := Lib.hid (w_rotl X (n := 32 - m) (by omega) (by omega))
  obtain ⟨s, hs⟩ : ∃ s : Nat, s = 32 - m := ⟨_, rfl⟩
  have HA : bits BinOp.and IntKind.u64 (IntKind.u64.wrap (-(m : Int))) 31 = (s : Int) := by
    rw [hs, ← neg_and m h0 h1]; congr 1
    show (-(m : Int)) % 18446744073709551616 = _
    omega
  have s0 : (0 : Int) < (s : Int) := by omega
  have s1 : (s : Int) < 32 := by omega
  go_enter Try.func67, Try.ntmps67
  go_wp2
  go_ret
  refine ⟨ret_int ?_, rfl⟩
  exact HR.out
theorem turned_any (X : UInt32) (m : Nat) (w : World) (h0 : 0 < m) (h1 : m < 32) :
    Calls Try.prog 65 #[.int .u32 X.toNat, .int .i64 (m : Int)] w (fun e w' => e = .returned (.int .u32 (rr X m).toNat) ∧ w = w') := by
  go_enter Try.func65, Try.ntmps65
  go_wp2_with fail
  refine (rot_any X m _ h0 h1).mono ?_
  rintro e w' ⟨rfl, rfl⟩
  go_wp2_with fail
  go_ret
  exact ⟨rfl, rfl⟩
theorem rturn_any (X : UInt32) (m : Nat) (w : World) (h0 : 0 < m) (h1 : m < 32) :
    Calls Try.prog 62 #[.int .u32 X.toNat, .int .u64 (m : Int)] w (fun e w' => e = .returned (.int .u32 (rr X m).toNat) ∧ w = w') := by
  have b0 : (0 : Int) ≤ (X.toNat : Int) := by omega
  have b1 : (X.toNat : Int) ≤ 4294967295 := by have := X.toNat_lt; omega
  have c0 : (0 : Int) ≤ 32 - (m : Int) := by omega
  have c1 : (32 : Int) - (m : Int) < 32 := by omega
  have hz : ¬ ((2 : Int) ^ m % 4294967296 = 0) := by rw [pow_mod m h1]; have := Nat.two_pow_pos m; omega
  go_enter Try.func62, Try.ntmps62
  go_wp2
  go_ret
  exact ⟨ret_int (rr_val X h0 h1), rfl⟩
end Go.Proofs.Ytobkkbpeoohfkaa
