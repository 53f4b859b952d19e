/-
  The held nodes that are built of their parts.
-/
import Derived.Test.YtkfcllcdkgnfbaaKtBuild
import Derived.Test.YtkfcllcdkgnfbaaKtDelete
namespace Go.Proofs.Ytkfcllcdkgnfbaa.Kt
open Go.RowKit
set_option maxRecDepth 100000 in
theorem build_held (x : Nd) (hs : x.s.length = 32) (W : World) :
    (Instr.build 48 #[(0, .int .i64 x.d), (1, .int .u64 x.a), (2, .agg (bva x.s))]).run Try.prog W = .ok (.agg (ndC x)) W := by
  have e : Try.prog.built 48 [(0, .int .i64 x.d), (1, .int .u64 x.a), (2, .agg (bva x.s))] = Instr.fill places3 (ndC zeroNd) [(0, .int .i64 x.d), (1, .int .u64 x.a), (2, .agg (bva x.s))] := by kernel_rfl
  refine run_build W 48 _ _ ?_
  show Try.prog.built 48 [(0, .int .i64 x.d), (1, .int .u64 x.a), (2, .agg (bva x.s))] = _
  rw [e]
  have s0 : (ndC zeroNd).size = 34 := ndC_size rfl
  have c1 : (Value.int .i64 x.d).cells = #[Value.int .i64 x.d] := rfl
  have c2 : (Value.int .u64 x.a).cells = #[Value.int .u64 x.a] := rfl
  have c3 : (Value.agg (bva x.s)).cells = bva x.s := rfl
  have l3 : (bva x.s).toList.length = 32 := by rw [Array.length_toList, bva_size, hs]
  obtain ⟨z1, f1⟩ := Great.foldl_set 0 [Value.int .i64 x.d] 0 (ndC zeroNd)
  generalize hA : ([Value.int .i64 x.d].zipIdx 0).foldl (fun cs (x : Value × Nat) => cs.setIfInBounds (0 + x.2) x.1) (ndC zeroNd) = A at z1 f1
  obtain ⟨z2, f2⟩ := Great.foldl_set 1 [Value.int .u64 x.a] 0 A
  generalize hB : ([Value.int .u64 x.a].zipIdx 0).foldl (fun cs (x : Value × Nat) => cs.setIfInBounds (1 + x.2) x.1) A = B at z2 f2
  obtain ⟨z3, f3⟩ := Great.foldl_set 2 (bva x.s).toList 0 B
  generalize hC : ((bva x.s).toList.zipIdx 0).foldl (fun cs (x : Value × Nat) => cs.setIfInBounds (2 + x.2) x.1) B = C at z3 f3
  rw [fill_step places3 (off := 0) (size := 1) rfl _ (by rw [c1]; rfl) _ (by rw [s0]; omega), c1, hA,
    fill_step places3 (off := 1) (size := 1) rfl _ (by rw [c2]; rfl) _ (by rw [z1, s0]; omega), c2, hB,
    fill_step places3 (off := 2) (size := 32) rfl _ (by rw [c3, bva_size, hs]) _ (by rw [z2, z1, s0]; omega), c3, hC, Instr.fill]
  congr 1
  have hL : ∀ i : Nat, (ndC x)[i]? = (Value.int .i64 x.d :: Value.int .u64 x.a :: bv x.s)[i]? := fun i => by rw [ndC, List.getElem?_toArray]; rfl
  apply Array.ext_getElem?
  intro j
  rw [f3 j, f2 j, f1 j, z2, z1, s0, l3, hL]
  match j with
  | 0 => simp
  | 1 => simp
  | j + 2 =>
    by_cases h3 : j < 32
    · rw [if_pos (by omega), List.getElem?_cons_succ, List.getElem?_cons_succ]
      simp [bva]
    · rw [if_neg (by omega), if_neg (by simp; omega), if_neg (by simp), List.getElem?_eq_none (by simp [bv_length, hs]; omega)]
      exact Array.getElem?_eq_none (by rw [s0]; omega)
theorem one_fillH (x : Nd) (hs : x.s.length = 32) : Instr.fill (fun i => some (i * 34, 34)) ((Array.range (1 * 34)).map ((Value.agg (ndC zeroNd)).cells[· % (Value.agg (ndC zeroNd)).cells.size]!)) [(0, .agg (ndC x))] = some (ndC x) := one_fill x hs
end Go.Proofs.Ytkfcllcdkgnfbaa.Kt
