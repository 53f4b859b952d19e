/-
  Whether two arrays of bytes are the same, as Go compares.
-/
import Derived.Test.YtolbffcbamfbeaaEqSelf
namespace Go.Proofs.Ytolbffcbamfbeaa
open Go.RowKit
section
variable {P : Program} (w : World)
theorem run_eqItems_bytes (d : Nat) {e : TypeId} (he : P.underlying e = some (.int .u8)) (a b : List UInt8) :
    ∀ is : List Nat, (∀ i ∈ is, i < a.length ∧ i < b.length) → (Op.eqItems (d + 1) e 1 (bva a) (bva b) is).run P w = .ok (is.all fun i => a.getD i 0 == b.getD i 0) w
  | [], _ => by simp [Op.eqItems]
  | i :: is, h => by
    obtain ⟨h1, h2⟩ := h i (by simp)
    have ih := run_eqItems_bytes d he a b is (fun j hj => h j (by simp [hj]))
    have hp : (part e (bva a) (i * 1)).run P w = .ok (.int .u8 ((a.getD i 0).toNat : Int)) w := run_part_plain w (by simp [Program.plainKey, he]) (by rw [Nat.mul_one]; exact bva_get h1)
    have hq : (part e (bva b) (i * 1)).run P w = .ok (.int .u8 ((b.getD i 0).toNat : Int)) w := run_part_plain w (by simp [Program.plainKey, he]) (by rw [Nat.mul_one]; exact bva_get h2)
    have hr : (Op.equalIn (d + 1) e (.int .u8 ((a.getD i 0).toNat : Int)) (.int .u8 ((b.getD i 0).toNat : Int))).run P w = .ok (a.getD i 0 == b.getD i 0) w := by
      rw [run_equalIn_int w d e .u8 .u8 _ _ he]
      congr 1
      by_cases hab : a.getD i 0 = b.getD i 0
      · rw [hab]; simp
      · have : ¬ (((a.getD i 0).toNat : Int) = ((b.getD i 0).toNat : Int)) := fun h => hab (UInt8.toNat_inj.1 (by omega))
        rw [beq_eq_false_iff_ne.2 hab]
        exact (by simpa using this)
    simp only [Op.eqItems, Sem.run_bind, hp, hq, hr, Result.andThen_ok]
    rw [List.all_cons]
    cases a.getD i 0 == b.getD i 0
    · simp
    · simpa using ih
theorem all_get (a b : List UInt8) (h : a.length = b.length) : ((List.range a.length).all fun i => a.getD i 0 == b.getD i 0) = decide (a = b) := by
  rw [Bool.eq_iff_iff, List.all_eq_true, decide_eq_true_iff]
  constructor
  · intro hh
    refine List.ext_getElem h fun i h1 h2 => ?_
    have := hh i (List.mem_range.2 h1)
    rw [beq_iff_eq, List.getD_eq_getElem?_getD, List.getD_eq_getElem?_getD, List.getElem?_eq_getElem h1, List.getElem?_eq_getElem h2] at this
    exact this
  · rintro rfl i _
    simp
theorem run_equal_bytes {t e n : Nat} {i : TypeInfo} (ht : P.underlying t = some (.array n e)) (he : P.underlying e = some (.int .u8)) (hi : P.info? e = some i) (hc : P.cellsOf e = 1) (a b : List UInt8) (ha : a.length = n) (hb : b.length = n) :
    (Op.equalIn 10000 t (.agg (bva a)) (.agg (bva b))).run P w = .ok (decide (a = b)) w := by
  rw [show (10000 : Nat) = 9998 + 1 + 1 from rfl, run_equalIn_array w (9998 + 1) (bva a) (bva b) ht hi, hc, run_eqItems_bytes w 9998 he a b (List.range n) (fun j hj => by have := List.mem_range.1 hj; omega), ← ha, all_get a b (by omega)]
end
end Go.Proofs.Ytolbffcbamfbeaa
