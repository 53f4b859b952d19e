import Derived.Test.YtobkkbpeoohfkaaArr
import Derived.Test.YtobkkbpeoohfkaaChPlain
import Derived.Deep.QuietTactic
import Derived.BigQuiet
namespace Go.Proofs.Ytobkkbpeoohfkaa
open Go.RowKit
theorem w4_val (b0 b1 b2 b3 : UInt8) : bits BinOp.or IntKind.u32 (bits BinOp.or IntKind.u32 (bits BinOp.or IntKind.u32 (b0.toNat : Int) ((b1.toNat : Int) * 256)) ((b2.toNat : Int) * 65536)) ((b3.toNat : Int) * 16777216) = ((w4 b0 b1 b2 b3).toNat : Int) := by
  rw [show (256 : Int) = 2 ^ 8 from rfl, show (65536 : Int) = 2 ^ 16 from rfl, show (16777216 : Int) = 2 ^ 24 from rfl, w_bshl b1 (by omega), w_bshl b2 (by omega), w_bshl b3 (by omega), w_byte b0, w_or, w_or, w_or]
  rfl
set_option maxHeartbeats 400000 in
theorem cword_any (g o n c : Nat) (b0 b1 b2 b3 : UInt8) (w : World) (hn : 4 ≤ n) (c0 : w.cell? ⟨g, o, none⟩ = some (.int .u8 (b0.toNat : Int)))
    (c1 : w.cell? ⟨g, o + 1, none⟩ = some (.int .u8 (b1.toNat : Int))) (c2 : w.cell? ⟨g, o + 2, none⟩ = some (.int .u8 (b2.toNat : Int))) (c3 : w.cell? ⟨g, o + 3, none⟩ = some (.int .u8 (b3.toNat : Int))) :
    Calls Try.prog 46 #[.slice (some ⟨g, o, none⟩) n c] w (RetQ (.int .u32 ((w4 b0 b1 b2 b3).toNat : Int)) w) := by
  have l0 : (0 : Int) < (n : Int) := by omega
  have l1 : (1 : Int) < (n : Int) := by omega
  have l2 : (2 : Int) < (n : Int) := by omega
  have l3 : (3 : Int) < (n : Int) := by omega
  have b0h : (b0.toNat : Int) ≤ 255 := by have := b0.toNat_lt; omega
  have b1h : (b1.toNat : Int) ≤ 255 := by have := b1.toNat_lt; omega
  have b2h : (b2.toNat : Int) ≤ 255 := by have := b2.toNat_lt; omega
  have b3h : (b3.toNat : Int) ≤ 255 := by have := b3.toNat_lt; omega
  go_enter Try.func46, Try.ntmps46
  go_wp2
  go_quiet (fail)
  go_wp2
  go_ret
  exact RetQ.mk1 (ret_int (w4_val b0 b1 b2 b3))
end Go.Proofs.Ytobkkbpeoohfkaa
