import Derived.Test.YtllgaodnfoehkaaPlain
import Derived.Deep.QuietTactic
import Derived.BigQuiet
namespace Go.Proofs.Ytllgaodnfoehkaa
open Go.RowKit
theorem w_byte (b : UInt8) : (b.toNat : Int) = ((UInt32.ofNat b.toNat).toNat : Int) := by
  rw [UInt32.toNat_ofNat']; have := b.toNat_lt; omega
theorem w_bshl (b : UInt8) {n : Nat} (h : n ≤ 24) : (b.toNat : Int) * 2 ^ n = ((UInt32.ofNat b.toNat <<< UInt32.ofNat n).toNat : Int) := by
  rw [← w_shl _ (by omega), ← w_byte]
  have h1 := b.toNat_lt
  have h2 : (2 : Nat) ^ n ≤ 2 ^ 24 := Nat.pow_le_pow_right (by omega) h
  have h3 : b.toNat * 2 ^ n < 4294967296 := Nat.lt_of_le_of_lt (Nat.mul_le_mul_left _ h2) (by omega)
  have e : (b.toNat : Int) * 2 ^ n = ((b.toNat * 2 ^ n : Nat) : Int) := by rw [Int.natCast_mul, Int.natCast_pow]; rfl
  rw [e]; omega
theorem w4_val (b0 b1 b2 b3 : UInt8) : bits BinOp.or IntKind.u32 (bits BinOp.or IntKind.u32 (bits BinOp.or IntKind.u32 (b0.toNat : Int) ((b1.toNat : Int) * 256)) ((b2.toNat : Int) * 65536)) ((b3.toNat : Int) * 16777216) = ((w4 b0 b1 b2 b3).toNat : Int) := by
  rw [show (256 : Int) = 2 ^ 8 from rfl, show (65536 : Int) = 2 ^ 16 from rfl, show (16777216 : Int) = 2 ^ 24 from rfl, w_bshl b1 (by omega), w_bshl b2 (by omega), w_bshl b3 (by omega), w_byte b0, w_or, w_or, w_or]
  rfl
set_option maxHeartbeats 400000 in
theorem word_any (g o n c : Nat) (b0 b1 b2 b3 : UInt8) (w : World) (hn : 4 ≤ n) (c0 : w.cell? ⟨g, o, none⟩ = some (.int .u8 (b0.toNat : Int)))
    (c1 : w.cell? ⟨g, o + 1, none⟩ = some (.int .u8 (b1.toNat : Int))) (c2 : w.cell? ⟨g, o + 2, none⟩ = some (.int .u8 (b2.toNat : Int))) (c3 : w.cell? ⟨g, o + 3, none⟩ = some (.int .u8 (b3.toNat : Int))) :
    Calls Try.prog 33 #[.slice (some ⟨g, o, none⟩) n c] w (RetQ (.int .u32 ((w4 b0 b1 b2 b3).toNat : Int)) w) := by
  have l0 : (0 : Int) < (n : Int) := by omega
  have l1 : (1 : Int) < (n : Int) := by omega
  have l2 : (2 : Int) < (n : Int) := by omega
  have l3 : (3 : Int) < (n : Int) := by omega
  have b0h : (b0.toNat : Int) ≤ 255 := by have := b0.toNat_lt; omega
  have b1h : (b1.toNat : Int) ≤ 255 := by have := b1.toNat_lt; omega
  have b2h : (b2.toNat : Int) ≤ 255 := by have := b2.toNat_lt; omega
  have b3h : (b3.toNat : Int) ≤ 255 := by have := b3.toNat_lt; omega
  go_enter Try.func33, Try.ntmps33
  go_wp2
  go_quiet (fail)
  go_wp2
  go_ret
  exact RetQ.mk1 (ret_int (w4_val b0 b1 b2 b3))
set_option maxHeartbeats 400000 in
theorem number_any (g o n c : Nat) (b0 b1 b2 b3 : UInt8) (w : World) (hn : 4 ≤ n) (c0 : w.cell? ⟨g, o, none⟩ = some (.int .u8 (b0.toNat : Int)))
    (c1 : w.cell? ⟨g, o + 1, none⟩ = some (.int .u8 (b1.toNat : Int))) (c2 : w.cell? ⟨g, o + 2, none⟩ = some (.int .u8 (b2.toNat : Int))) (c3 : w.cell? ⟨g, o + 3, none⟩ = some (.int .u8 (b3.toNat : Int))) :
    Calls Try.prog 22 #[.slice (some ⟨g, o, none⟩) n c] w (RetQ (.int .u32 ((w4 b0 b1 b2 b3).toNat : Int)) w) := by
  have l0 : (0 : Int) < (n : Int) := by omega
  have l1 : (1 : Int) < (n : Int) := by omega
  have l2 : (2 : Int) < (n : Int) := by omega
  have l3 : (3 : Int) < (n : Int) := by omega
  have b0h : (b0.toNat : Int) ≤ 255 := by have := b0.toNat_lt; omega
  have b1h : (b1.toNat : Int) ≤ 255 := by have := b1.toNat_lt; omega
  have b2h : (b2.toNat : Int) ≤ 255 := by have := b2.toNat_lt; omega
  have b3h : (b3.toNat : Int) ≤ 255 := by have := b3.toNat_lt; omega
  go_enter Try.func22, Try.ntmps22
  go_wp2
  go_quiet (fail)
  go_wp2
  go_ret
  exact RetQ.mk1 (ret_int (w4_val b0 b1 b2 b3))
end Go.Proofs.Ytllgaodnfoehkaa
