/-
  Texts of this seat, one behind the other: KgEq.
-/
import Derived.Test.YtippbjpodnnhiaaProg
import Derived.Laws.StructEq
import Derived.Test.YtippbjpodnnhiaaMh1
/-
  Whether two nodes of the reference are the same, as Go compares.
-/
namespace Go.Proofs.Ytippbjpodnnhiaa.Kg
open Go.RowKit
theorem run_equal_bytes_at {P : Program} (w : World) (d : Nat) {t e n : Nat} {i : TypeInfo} (ht : P.underlying t = some (.array n e)) (he : P.underlying e = some (.int .u8)) (hi : P.info? e = some i) (hc : P.cellsOf e = 1) (a b : List UInt8) (ha : a.length = n) (hb : b.length = n) :
    (Op.equalIn (d + 1 + 1) t (.agg (bva a)) (.agg (bva b))).run P w = .ok (decide (a = b)) w := by
  rw [run_equalIn_array w (d + 1) (bva a) (bva b) ht hi, hc, run_eqItems_bytes w d he a b (List.range n) (fun j hj => by have := List.mem_range.1 hj; omega), ← ha, all_get a b (by omega)]
theorem part_seed (x : Nd) (hs : x.s.length = 32) (w : World) : (part 39 (ndC x) 2).run Try.prog w = .ok (.agg (bva x.s)) w := by
  have hc : Try.prog.cellsOf 39 = 32 := by kernel_rfl
  have he : (ndC x).extract 2 (2 + 32) = bva x.s := by
    apply Array.ext'
    rw [Array.toList_extract]
    simp [ndC, ndV, bva, List.extract]
    rw [List.take_of_length_le (by rw [bv_length]; omega)]
  have : (part 39 (ndC x) 2).run Try.prog w = .ok (.agg ((ndC x).extract 2 (2 + Try.prog.cellsOf 39))) w := by
    simp [part, isAgg, run_underlying Try.underlying39, hc]
  rw [this, hc, he]
theorem part_d (x : Nd) (w : World) : (part 3 (ndC x) 0).run Try.prog w = .ok (.int .i64 x.d) w := run_part_plain w (by kernel_rfl) rfl
theorem part_a (x : Nd) (w : World) : (part 38 (ndC x) 1).run Try.prog w = .ok (.int .u64 x.a) w := run_part_plain w (by kernel_rfl) rfl
theorem node_fields : (Try.prog.fieldsOf 41).toList.map (fun f => (f.name == "_", f.type, f.offset)) = [(false, 3, 0), (false, 38, 1), (false, 39, 2)] := by kernel_rfl
theorem node_under : Try.prog.underlying 41 = some (.struct (Try.prog.fieldsOf 41)) := by kernel_rfl
theorem eq_node (a b : Nd) (ha : a.s.length = 32) (hb : b.s.length = 32) (w : World) : (Op.equalIn 10000 41 (.agg (ndC a)) (.agg (ndC b))).run Try.prog w = .ok (decide (a = b)) w := by
  rw [show (10000 : Nat) = 9999 + 1 from rfl, run_equalIn_struct w 9999 41 (ndC a) (ndC b) node_under (by kernel_rfl)]
  obtain ⟨i, hi⟩ : ∃ i, Try.prog.info? 5 = some i := Option.isSome_iff_exists.1 (by kernel_rfl)
  have h3 := run_equal_bytes_at w 9997 Try.underlying39 Try.underlying5 hi (by kernel_rfl) a.s b.s ha hb
  have h1 := run_equalIn_int (P := Try.prog) w 9998 3 .i64 .i64 a.d b.d Try.underlying3
  have h2 := run_equalIn_int (P := Try.prog) w 9998 38 .u64 .u64 a.a b.a Try.underlying38
  have hf := node_fields
  generalize (Try.prog.fieldsOf 41).toList = fs at hf
  have hp1 : ∀ y : Nd, y.s.length = 32 → (part 39 (ndC y) 2).run Try.prog w = .ok (.agg (bva y.s)) w := fun y hy => part_seed y hy w
  rcases fs with _ | ⟨f0, _ | ⟨f1, _ | ⟨f2, _ | ⟨f3, fs⟩⟩⟩⟩
  · simp at hf
  · simp at hf
  · simp at hf
  · simp only [List.map_cons, List.map_nil, List.cons.injEq, Prod.mk.injEq, and_true, beq_eq_false_iff_ne] at hf
    obtain ⟨⟨n0, t0, o0⟩, ⟨n1, t1, o1⟩, ⟨n2, t2, o2⟩⟩ := hf
    have hab : (decide (a = b)) = ((a.d == b.d) && ((a.a == b.a) && decide (a.s = b.s))) := by
      obtain ⟨d, x, s⟩ := a
      obtain ⟨d', x', s'⟩ := b
      by_cases e1 : d = d' <;> by_cases e2 : x = x' <;> by_cases e3 : s = s' <;> simp [e1, e2, e3]
    rw [hab]
    rw [Op.eqFields, if_pos n0, Sem.run_bind, t0, o0, part_d, Result.andThen_ok, Sem.run_bind, part_d, Result.andThen_ok, Sem.run_bind, h1, Result.andThen_ok]
    cases a.d == b.d
    · rfl
    · rw [Bool.true_and, if_neg (by simp), Op.eqFields, if_pos n1, Sem.run_bind, t1, o1, part_a, Result.andThen_ok, Sem.run_bind, part_a, Result.andThen_ok, Sem.run_bind, h2, Result.andThen_ok]
      cases a.a == b.a
      · rfl
      · rw [Bool.true_and, if_neg (by simp), Op.eqFields, if_pos n2, Sem.run_bind, t2, o2, hp1 a ha, Result.andThen_ok, Sem.run_bind, hp1 b hb, Result.andThen_ok, Sem.run_bind, h3, Result.andThen_ok]
        cases decide (a.s = b.s)
        · rfl
        · rfl
  · simp at hf
end Go.Proofs.Ytippbjpodnnhiaa.Kg
