/-
  A Lit that is built of its three parts.
-/
import Derived.Test.YtobkkbpeoohfkaaCiUse
import Derived.Laws.Tables
import Derived.Great.FillDense
namespace Go.Proofs.Ytobkkbpeoohfkaa.Ci
open Go.RowKit
theorem fill_step (place : Nat → Option (Nat × Nat)) {i off size : Nat} (hp : place i = some (off, size)) (v : Value) (hv : v.cells.size = size) (cells : Array Value) (hle : off + size ≤ cells.size) (rest : List (Nat × Value)) :
    Instr.fill place cells ((i, v) :: rest) = Instr.fill place ((v.cells.toList.zipIdx 0).foldl (fun cs (x : Value × Nat) => cs.setIfInBounds (off + x.2) x.1) cells) rest := by
  rw [Instr.fill, hp]
  simp only [hv]
  rw [if_neg (by simp; omega)]
  congr 1
  rw [← Array.foldl_toList]
  simp
/-- The three places of a Lit. -/
def places3 (i : Nat) : Option (Nat × Nat) := #[(0, 32), (32, 1), (33, 32)][i]?
set_option maxRecDepth 100000 in
theorem build_lit (k off : List UInt8) (n : Int) (hk : k.length = 32) (ho : off.length = 32) (W : World) :
    (Instr.build 46 #[(0, .agg (bva k)), (1, .int .u64 n), (2, .agg (bva off))]).run Try.prog W = .ok (.agg (litC k n off)) W := by
  have e : Try.prog.built 46 [(0, .agg (bva k)), (1, .int .u64 n), (2, .agg (bva off))] = Instr.fill places3 (litC zeros 0 zeros) [(0, .agg (bva k)), (1, .int .u64 n), (2, .agg (bva off))] := by kernel_rfl
  refine run_build W 46 _ _ ?_
  show Try.prog.built 46 [(0, .agg (bva k)), (1, .int .u64 n), (2, .agg (bva off))] = _
  rw [e]
  have s0 : (litC zeros 0 zeros).size = 65 := litC_size zeros_length zeros_length
  have c1 : (Value.agg (bva k)).cells = bva k := rfl
  have c2 : (Value.int .u64 n).cells = #[Value.int .u64 n] := rfl
  have c3 : (Value.agg (bva off)).cells = bva off := rfl
  have l1 : (bva k).toList.length = 32 := by rw [Array.length_toList, bva_size, hk]
  have l3 : (bva off).toList.length = 32 := by rw [Array.length_toList, bva_size, ho]
  obtain ⟨z1, f1⟩ := Great.foldl_set 0 (bva k).toList 0 (litC zeros 0 zeros)
  generalize hA : ((bva k).toList.zipIdx 0).foldl (fun cs (x : Value × Nat) => cs.setIfInBounds (0 + x.2) x.1) (litC zeros 0 zeros) = A at z1 f1
  obtain ⟨z2, f2⟩ := Great.foldl_set 32 [Value.int .u64 n] 0 A
  generalize hB : ([Value.int .u64 n].zipIdx 0).foldl (fun cs (x : Value × Nat) => cs.setIfInBounds (32 + x.2) x.1) A = B at z2 f2
  obtain ⟨z3, f3⟩ := Great.foldl_set 33 (bva off).toList 0 B
  generalize hC : ((bva off).toList.zipIdx 0).foldl (fun cs (x : Value × Nat) => cs.setIfInBounds (33 + x.2) x.1) B = C at z3 f3
  rw [fill_step places3 (off := 0) (size := 32) rfl _ (by rw [c1, bva_size, hk]) _ (by rw [s0]; omega), c1, hA,
    fill_step places3 (off := 32) (size := 1) rfl _ (by rw [c2]; rfl) _ (by rw [z1, s0]; omega), c2, hB,
    fill_step places3 (off := 33) (size := 32) rfl _ (by rw [c3, bva_size, ho]) _ (by rw [z2, z1, s0]; omega), c3, hC, Instr.fill]
  congr 1
  have hL : ∀ i : Nat, (litC k n off)[i]? = (bv k ++ (Value.int .u64 n :: bv off))[i]? := fun i => by rw [litC, List.getElem?_toArray]; rfl
  apply Array.ext_getElem?
  intro j
  rw [f3 j, f2 j, f1 j, z2, z1, s0, l1, l3, hL]
  by_cases h1 : j < 32
  · rw [if_neg (by omega), if_neg (by omega), if_pos (by omega), List.getElem?_append_left (by rw [bv_length]; omega)]
    simp [bva]
  · by_cases h2 : j = 32
    · subst h2
      rw [if_neg (by omega), if_pos (by simp), List.getElem?_append_right (by rw [bv_length]; omega), bv_length, hk]
      rfl
    · by_cases h3 : j < 65
      · rw [if_pos (by omega), List.getElem?_append_right (by rw [bv_length]; omega), bv_length, hk, show j - 32 = (j - 33) + 1 by omega, List.getElem?_cons_succ]
        simp [bva]
      · rw [if_neg (by omega), if_neg (by simp; omega), if_neg (by omega), List.getElem?_eq_none (by simp [bv_length, hk, ho]; omega)]
        exact Array.getElem?_eq_none (by rw [s0]; omega)
theorem exec_build {P : Program} {w : World} {r : Operand → Value} {o : Oper} {v : Value} (t : TypeId) (parts : Array (Nat × Operand)) (ho : o.op = .build t parts) (h : (Instr.build t (parts.map fun (i, x) => (i, r x))).run P w = .ok v w) :
    (execOp r o).run P w = .ok (.value v) w := by
  unfold execOp
  simp only [ho, Sem.run_bind, h, Result.andThen_ok, Sem.run_pure]
/-- A load of a whole row under a guard that holds. -/
theorem wpList_load_if {P : Program} {w : World} {ops : Array Oper} {rest : List Oper} {o : Oper} {a : Act} {Q : Exit → Act → World → Prop} (hgd : Region.wanted o (yielded ops a.tmps) = true) (ty : TypeId) (x : Operand) (ho : o.op = .load ty x) {g : Nat} {cs : Array Value} {A : TypeId} {d : TypeDesc}
    (hx : a.eval x = .pointer (some ⟨g, 0, none⟩)) (hg : Blk w g cs A) (hu : P.underlying ty = some d) (hd : (match d with | .struct _ | .array _ _ => true | _ => false) = true) (hi : (P.info? ty).map (·.size) = some cs.size)
    (h : wpList P ops Q rest (a.put o.dst (.agg cs)) w) : wpList P ops Q (o :: rest) a w := by
  unfold wpList
  rw [if_pos hgd]
  refine .inl ?_
  unfold Oper.wp
  rw [exec_load ty x ho hx hg hu hd hi]
  exact h
end Go.Proofs.Ytobkkbpeoohfkaa.Ci
