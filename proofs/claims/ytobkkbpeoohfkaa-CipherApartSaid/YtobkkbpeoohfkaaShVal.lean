/-
  A round's numbers as the walk has them.
-/
import Derived.Test.YtobkkbpeoohfkaaShSpread
namespace Go.Proofs.Ytobkkbpeoohfkaa
open Go.RowKit
theorem w_and (a b : UInt32) : bits BinOp.and IntKind.u32 (a.toNat : Int) (b.toNat : Int) = ((a &&& b).toNat : Int) := by
  rw [u32_and_nat _ _ a.toNat_lt b.toNat_lt, UInt32.toNat_and]
theorem w_not (e : UInt32) : bits BinOp.xor IntKind.u32 IntKind.u32.max (e.toNat : Int) = ((~~~e).toNat : Int) := by
  rw [show (IntKind.u32.max : Int) = (((0xffffffff : UInt32).toNat) : Int) from rfl, w_xor]
  have h : (0xffffffff : UInt32) ^^^ e = ~~~e := by
    apply UInt32.eq_of_toBitVec_eq
    simp
    exact BitVec.allOnes_xor
  rw [h]
theorem w_neg (e : UInt32) : 4294967295 - (e.toNat : Int) = ((~~~e).toNat : Int) := by
  rw [UInt32.toNat_not]
  have := e.toNat_lt
  simp [UInt32.size]
  omega
theorem w_add5 (a b c d e : UInt32) : ((a.toNat : Int) + (b.toNat : Int) + (c.toNat : Int) + (d.toNat : Int) + (e.toNat : Int)) % 4294967296 = ((a + b + c + d + e).toNat : Int) := by
  rw [UInt32.toNat_add, UInt32.toNat_add, UInt32.toNat_add, UInt32.toNat_add]; omega
theorem t1_val (a b c d e f g h y x : UInt32) : ((h.toNat : Int) + bits BinOp.xor IntKind.u32 (bits BinOp.xor IntKind.u32 ((rr e 6).toNat : Int) ((rr e 11).toNat : Int)) ((rr e 25).toNat : Int) +
    bits BinOp.xor IntKind.u32 (bits BinOp.and IntKind.u32 (e.toNat : Int) (f.toNat : Int)) (bits BinOp.and IntKind.u32 (bits BinOp.xor IntKind.u32 IntKind.u32.max (e.toNat : Int)) (g.toNat : Int)) + (y.toNat : Int) + (x.toNat : Int)) % 4294967296 = ((St.t1 ⟨a, b, c, d, e, f, g, h⟩ y x).toNat : Int) := by
  simp only [w_not, w_and, w_xor, w_add5]; rfl
theorem t2_val (a b c d e f g h : UInt32) : (bits BinOp.xor IntKind.u32 (bits BinOp.xor IntKind.u32 ((rr a 2).toNat : Int) ((rr a 13).toNat : Int)) ((rr a 22).toNat : Int) +
    bits BinOp.xor IntKind.u32 (bits BinOp.xor IntKind.u32 (bits BinOp.and IntKind.u32 (a.toNat : Int) (b.toNat : Int)) (bits BinOp.and IntKind.u32 (a.toNat : Int) (c.toNat : Int))) (bits BinOp.and IntKind.u32 (b.toNat : Int) (c.toNat : Int))) % 4294967296 = ((St.t2 ⟨a, b, c, d, e, f, g, h⟩).toNat : Int) := by
  simp only [w_and, w_xor, w_add]; rfl
end Go.Proofs.Ytobkkbpeoohfkaa
