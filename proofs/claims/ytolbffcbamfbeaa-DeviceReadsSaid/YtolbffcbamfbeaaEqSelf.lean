/-
  An array of numbers is equal to itself, as Go compares.
-/
import Derived.Test.YtolbffcbamfbeaaArr
import Derived.ChangeKeysEq
namespace Go.Proofs.Ytolbffcbamfbeaa
open Go.RowKit
section
variable {P : Program} (w : World)
theorem run_eqItems_self (d : Nat) {e : TypeId} {k : IntKind} (he : P.underlying e = some (.int k)) (xs : Array Value) (hx : ∀ i (h : i < xs.size), ∃ z, xs[i] = .int k z) :
    ∀ is : List Nat, (∀ i ∈ is, i < xs.size) → (Op.eqItems (d + 1) e 1 xs xs is).run P w = .ok true w
  | [], _ => by simp [Op.eqItems]
  | i :: is, h => by
    have hi := h i (by simp)
    obtain ⟨z, hz⟩ := hx i hi
    have hp : (part e xs (i * 1)).run P w = .ok (.int k z) w := run_part_plain w (by simp [Program.plainKey, he]) (by rw [Nat.mul_one, Array.getElem?_eq_getElem hi, hz])
    have hq : (Op.equalIn (d + 1) e (.int k z) (.int k z)).run P w = .ok true w := by rw [run_equalIn_int w d e k k z z he]; simp
    simp only [Op.eqItems, Sem.run_bind, hp, hq, Result.andThen_ok]
    simpa using run_eqItems_self d he xs hx is (fun j hj => h j (by simp [hj]))
theorem run_equal_self {t e n : Nat} {k : IntKind} {i : TypeInfo} (ht : P.underlying t = some (.array n e)) (he : P.underlying e = some (.int k)) (hi : P.info? e = some i) (hc : P.cellsOf e = 1) (xs : Array Value) (hn : xs.size = n)
    (hx : ∀ i (h : i < xs.size), ∃ z, xs[i] = .int k z) : (Op.equalIn 10000 t (.agg xs) (.agg xs)).run P w = .ok true w := by
  rw [show (10000 : Nat) = 9998 + 1 + 1 from rfl, run_equalIn_array w (9998 + 1) xs xs ht hi, hc, run_eqItems_self w 9998 he xs hx (List.range n) (fun j hj => by have := List.mem_range.1 hj; omega)]
end
end Go.Proofs.Ytolbffcbamfbeaa
