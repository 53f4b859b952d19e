/-
  The contracts of the two Get: the number that stands in 1 to 8 bytes.
-/
import Derived.Test.YtafnpgjioehnjaaPut
import Derived.Laws.BitsAllLaws
namespace Go.Proofs.Ytafnpgjioehnjaa
open Go.RowKit

/-- The number that stands in l. -/
def getL (l : List UInt8) : Nat := l.foldl (fun n c => n * 256 + c.toNat) 0

theorem getL_nil : getL [] = 0 := rfl
theorem getL_snoc (l : List UInt8) (c : UInt8) : getL (l ++ [c]) = getL l * 256 + c.toNat := by simp [getL, List.foldl_append]
theorem getL_step {l : List UInt8} {k : Nat} (h : k < l.length) : getL (l.take (k + 1)) = getL (l.take k) * 256 + l[k].toNat := by
  rw [List.take_succ_eq_append_getElem h, getL_snoc]
theorem getL_take {l : List UInt8} : ∀ k, k ≤ l.length → getL (l.take k) < 256 ^ k
  | 0, _ => by simp [getL]
  | k + 1, h => by
    have h1 := getL_take k (Nat.le_of_succ_le h)
    have hb : l[k].toNat < 256 := UInt8.toNat_lt _
    rw [getL_step h, Nat.pow_succ]
    omega
theorem getL_lt (l : List UInt8) : getL l < 256 ^ l.length := by
  have h := getL_take l.length (Nat.le_refl _)
  rwa [List.take_of_length_le (Nat.le_refl _)] at h
theorem getL_small {l : List UInt8} {k : Nat} (h : k < l.length) (h8 : l.length ≤ 8) : getL (l.take k) * 256 + 255 < 18446744073709551616 := by
  have h1 := getL_take k (Nat.le_of_lt h)
  have h2 : 256 ^ k ≤ 256 ^ 7 := Nat.pow_le_pow_right (by omega) (by omega)
  have h3 : 256 ^ 7 = 72057594037927936 := by decide
  omega
theorem or_byte (Z b : Nat) (hb : b < 256) : Z * 256 ||| b = Z * 256 + b := by
  have e : Z * 256 = Z <<< 8 := by rw [Nat.shiftLeft_eq]
  rw [e, ← Nat.shiftLeft_add_eq_or_of_lt hb]
theorem get_or {l : List UInt8} {k Z : Nat} (hZ : Z = getL (l.take k)) (h : k < l.length) (h8 : l.length ≤ 8) :
    bits BinOp.or IntKind.u64 (IntKind.u64.wrap ((Z : Int) * 256)) (IntKind.u64.wrap (l[k].toNat : Int)) = ((Z * 256 + l[k].toNat : Nat) : Int) := by
  have hs := getL_small h h8
  have hb : l[k].toNat < 256 := UInt8.toNat_lt _
  rw [← hZ] at hs
  have e1 : IntKind.u64.wrap ((Z : Int) * 256) = ((Z * 256 : Nat) : Int) := (IntWalk.u64_in ((Z : Int) * 256) (by omega)).trans (Int.natCast_mul Z 256).symm
  have e2 : IntKind.u64.wrap (l[k].toNat : Int) = (l[k].toNat : Int) := IntWalk.u64_in (l[k].toNat : Int) (by clear e1; omega)
  rw [e1, e2]
  clear e1 e2
  have g1 : Z * 256 < 18446744073709551616 := Nat.lt_of_le_of_lt (Nat.le_add_right _ _) hs
  have g2 : l[k].toNat < 18446744073709551616 := Nat.lt_trans hb (by decide)
  have e3 := u64_or_nat (Z * 256) l[k].toNat g1 g2
  clear g1 g2
  rw [e3, or_byte Z _ hb]
theorem get_add {l : List UInt8} {k Z : Nat} (hZ : Z = getL (l.take k)) (h : k < l.length) (h8 : l.length ≤ 8) :
    IntKind.u64.wrap (IntKind.u64.wrap ((Z : Int) * 256) + IntKind.u64.wrap (l[k].toNat : Int)) = ((Z * 256 + l[k].toNat : Nat) : Int) := by
  have hs := getL_small h h8
  have hb : l[k].toNat < 256 := UInt8.toNat_lt _
  rw [← hZ] at hs
  rw [IntWalk.u64_in ((Z : Int) * 256) (by omega), IntWalk.u64_in (l[k].toNat : Int) (by omega), IntWalk.u64_in _ (by omega)]
  omega
theorem get_all (l : List UInt8) : getL (l.take l.length) = getL l := by rw [List.take_of_length_le (Nat.le_refl _)]
theorem ret_get {z z' : Int} {b : Bool} (h : z = z') : Ending.returned (.tuple #[.int .u64 z, .bool b]) = .returned (.tuple #[.int .u64 z', .bool b]) := by rw [h]

set_option maxHeartbeats 400000 in
theorem wget_in {B : Nat} (A : Option Addr) (n c : Nat) (l : List UInt8) (w : World) (hn : l.length = n) (ha : Rd B w A (bv l)) (h1 : 1 ≤ n) (h8 : n ≤ 8) :
    Calls Try.prog 12 #[.slice A n c] w fun e w' => e = .returned (.tuple #[.int .u64 (getL l : Int), .bool true]) ∧ w = w' := by
  subst hn
  go_enter Try.func12, Try.ntmps12
  go_wp2
  go_loop [4, 6, 17] (fun m u i => ∃ k Z : Nat, k ≤ l.length ∧ i = .int .i64 k ∧ m = .int .u64 (Z : Int) ∧ Hid (Z = getL (l.take k))) (fun _ _ i => l.length - (intOf i).toNat)
  case atStart => exact ⟨0, 0, Nat.zero_le _, rfl, rfl, rfl⟩
  case round =>
    obtain ⟨k, Z, hk, rfl, rfl, HZ⟩ := hrel
    by_cases hlt : k < l.length
    · obtain ⟨ad, rfl, _, hc⟩ := ha.at_ hlt
      go_wp2
      go_round
      case rel => exact ⟨k + 1, Z * 256 + l[k].toNat, by omega, by go_num, int_eq (get_or HZ.out hlt h8), by show _ = _; rw [getL_step hlt, HZ.out]⟩
      case measure => simp [intOf]; omega
    · obtain rfl : k = l.length := by omega
      go_wp2
      go_ret2
      exact ⟨ret_get (by rw [HZ.out, get_all]), rfl⟩

set_option maxHeartbeats 400000 in
theorem wget_out (A : Option Addr) (n c : Nat) (w : World) (h : n < 1 ∨ 8 < n) (hm : n ≤ maxLen) :
    Calls Try.prog 12 #[.slice A n c] w fun e w' => e = .returned (.tuple #[.int .u64 0, .bool false]) ∧ w = w' := by
  unfold maxLen at hm
  rcases h with h | h
  · go_enter Try.func12, Try.ntmps12
    go_wp2
    go_ret2
    exact ⟨rfl, rfl⟩
  · have h' : ¬ n < 1 := by omega
    go_enter Try.func12, Try.ntmps12
    go_wp2
    go_ret2
    exact ⟨rfl, rfl⟩

set_option maxHeartbeats 400000 in
theorem rget_in {B : Nat} (A : Option Addr) (n c : Nat) (l : List UInt8) (w : World) (hn : l.length = n) (ha : Rd B w A (bv l)) (h1 : 1 ≤ n) (h8 : n ≤ 8) :
    Calls Try.prog 13 #[.slice A n c] w fun e w' => e = .returned (.tuple #[.int .u64 (getL l : Int), .bool true]) ∧ w = w' := by
  subst hn
  go_enter Try.func13, Try.ntmps13
  go_wp2
  go_loop [4, 5] (fun m i => ∃ k Z : Nat, k ≤ l.length ∧ i = .int .i64 k ∧ m = .int .u64 (Z : Int) ∧ Hid (Z = getL (l.take k))) (fun _ i => l.length - (intOf i).toNat)
  case atStart => exact ⟨0, 0, Nat.zero_le _, rfl, rfl, rfl⟩
  case round =>
    obtain ⟨k, Z, hk, rfl, rfl, HZ⟩ := hrel
    by_cases hlt : k < l.length
    · obtain ⟨ad, rfl, _, hc⟩ := ha.at_ hlt
      go_wp2
      go_round
      case rel => exact ⟨k + 1, Z * 256 + l[k].toNat, by omega, by go_num, int_eq (get_add HZ.out hlt h8), by show _ = _; rw [getL_step hlt, HZ.out]⟩
      case measure => simp [intOf]; omega
    · obtain rfl : k = l.length := by omega
      go_wp2
      go_ret2
      exact ⟨ret_get (by rw [HZ.out, get_all]), rfl⟩

set_option maxHeartbeats 400000 in
theorem rget_out (A : Option Addr) (n c : Nat) (w : World) (h : n < 1 ∨ 8 < n) (hm : n ≤ maxLen) :
    Calls Try.prog 13 #[.slice A n c] w fun e w' => e = .returned (.tuple #[.int .u64 0, .bool false]) ∧ w = w' := by
  unfold maxLen at hm
  rcases h with h | h
  · go_enter Try.func13, Try.ntmps13
    go_wp2
    go_ret2
    exact ⟨rfl, rfl⟩
  · have h' : ¬ n < 1 := by omega
    go_enter Try.func13, Try.ntmps13
    go_wp2
    go_ret2
    exact ⟨rfl, rfl⟩

/-- What Get tells of l: a number and whether there is one. -/
def getN (l : List UInt8) : Nat := if 1 ≤ l.length ∧ l.length ≤ 8 then getL l else 0
def getOk (l : List UInt8) : Bool := decide (1 ≤ l.length ∧ l.length ≤ 8)

theorem wget_any {B : Nat} (A : Option Addr) (n c : Nat) (l : List UInt8) (w : World) (hn : l.length = n) (ha : Rd B w A (bv l)) (hm : n ≤ maxLen) :
    Calls Try.prog 12 #[.slice A n c] w fun e w' => e = .returned (.tuple #[.int .u64 (getN l : Int), .bool (getOk l)]) ∧ w = w' := by
  by_cases h : 1 ≤ l.length ∧ l.length ≤ 8
  · rw [getN, if_pos h, show getOk l = true from decide_eq_true h]
    exact wget_in A n c l w hn ha (by omega) (by omega)
  · rw [getN, if_neg h, show getOk l = false from decide_eq_false h]
    exact wget_out A n c w (by omega) hm
theorem rget_any {B : Nat} (A : Option Addr) (n c : Nat) (l : List UInt8) (w : World) (hn : l.length = n) (ha : Rd B w A (bv l)) (hm : n ≤ maxLen) :
    Calls Try.prog 13 #[.slice A n c] w fun e w' => e = .returned (.tuple #[.int .u64 (getN l : Int), .bool (getOk l)]) ∧ w = w' := by
  by_cases h : 1 ≤ l.length ∧ l.length ≤ 8
  · rw [getN, if_pos h, show getOk l = true from decide_eq_true h]
    exact rget_in A n c l w hn ha (by omega) (by omega)
  · rw [getN, if_neg h, show getOk l = false from decide_eq_false h]
    exact rget_out A n c w (by omega) hm
end Go.Proofs.Ytafnpgjioehnjaa
