/-
  A struct that is built of all of its parts, in their order: its cells are theirs, one behind the other. A row of one element.
-/
import Derived.Test.YtolbffcbamfbeaaBuildN
import Derived.Test.YtolbffcbamfbeaaShMid
namespace Go.Proofs.Ytolbffcbamfbeaa
open Go.RowKit
/-- The parts' cells, one behind the other. -/
def cellsOf : List (Nat × Value) → List Value
  | [] => []
  | x :: ps => x.2.cells.toList ++ cellsOf ps
/-- Each part's place lies behind the one ahead of it. -/
def FitsL (place : Nat → Option (Nat × Nat)) : Nat → List (Nat × Value) → Prop
  | _, [] => True
  | off, x :: ps => place x.1 = some (off, x.2.cells.size) ∧ FitsL place (off + x.2.cells.size) ps
theorem foldl_splice (off : Nat) : ∀ (cs : List Value) (k : Nat) (L : List Value), off + k + cs.length ≤ L.length → (cs.zipIdx k).foldl (fun cs (x : Value × Nat) => cs.setIfInBounds (off + x.2) x.1) L.toArray = (splice L (off + k) cs).toArray
  | [], k, L, _ => by
    have e : splice L (off + k) [] = L := by unfold splice; simp
    rw [e]; rfl
  | v :: cs, k, L, h => by
    rw [List.length_cons] at h
    rw [List.zipIdx_cons, List.foldl_cons]
    show List.foldl _ (L.toArray.setIfInBounds (off + k) v) (cs.zipIdx (k + 1)) = _
    rw [List.setIfInBounds_toArray, foldl_splice off cs (k + 1) (L.set (off + k) v) (by rw [List.length_set]; omega), ← Nat.add_assoc, splice_set _ _ _ _ (by omega)]
theorem fill_list (place : Nat → Option (Nat × Nat)) : ∀ (ps : List (Nat × Value)) (pre rest : List Value), FitsL place pre.length ps → (cellsOf ps).length ≤ rest.length →
    Instr.fill place (pre ++ rest).toArray ps = some (pre ++ (cellsOf ps ++ rest.drop (cellsOf ps).length)).toArray
  | [], pre, rest, _, _ => by rw [Instr.fill]; rfl
  | (i, v) :: ps, pre, rest, ⟨hp, hf⟩, hl => by
    have hl' : v.cells.toList.length + (cellsOf ps).length ≤ rest.length := by simpa [cellsOf] using hl
    have hvl : v.cells.toList.length = v.cells.size := by simp
    rw [fill_step place hp v rfl _ (by simp; omega), foldl_splice pre.length v.cells.toList 0 (pre ++ rest) (by simp; omega), splice_right]
    have e : splice rest 0 v.cells.toList = v.cells.toList ++ rest.drop v.cells.toList.length := by rw [splice, List.take_zero, List.nil_append, Nat.zero_add]
    rw [e, ← List.append_assoc]
    have h := fill_list place ps (pre ++ v.cells.toList) (rest.drop v.cells.toList.length) (by rw [List.length_append, hvl]; exact hf) (by rw [List.length_drop]; omega)
    rw [h]
    simp [cellsOf, List.drop_drop, List.append_assoc]
/-- All of it is filled. -/
theorem fill_struct (place : Nat → Option (Nat × Nat)) (zero : Array Value) (ps : List (Nat × Value)) (hf : FitsL place 0 ps) (hl : (cellsOf ps).length = zero.size) : Instr.fill place zero ps = some (cellsOf ps).toArray := by
  have h := fill_list place ps [] zero.toList hf (by simp; omega)
  rw [List.nil_append, List.nil_append, hl] at h
  rw [show zero.toList.toArray = zero by simp] at h
  rw [h]
  congr 2
  rw [List.drop_of_length_le (by simp), List.append_nil]
theorem build_struct {P : Program} (W : World) (t : TypeId) (parts : List (Nat × Value)) (place : Nat → Option (Nat × Nat)) (zero : Array Value) (e : P.built t parts = Instr.fill place zero parts) (hf : FitsL place 0 parts) (hl : (cellsOf parts).length = zero.size) :
    (Instr.build t parts.toArray).run P W = .ok (.agg (cellsOf parts).toArray) W := by
  refine run_build W t _ _ ?_
  show P.built t parts.toArray.toList = _
  rw [show parts.toArray.toList = parts by simp, e, fill_struct place zero parts hf hl]
/-- A row of one element of several cells. -/
theorem run_one {P : Program} (W : World) (t e : TypeId) (ie : TypeInfo) (z v : Value) (size : Nat) (ht : P.underlying t = some (.slice e)) (hi : P.info? e = some ie) (hz : ie.zero = some z) (hs : ie.size = size) (hzs : z.cells.size = size) (hv : v.cells.size = size) (h0 : 0 < size) (h1 : size ≤ 2 ^ 24) :
    (Instr.buildSlice t 1 #[(0, v)]).run P W = .ok (.slice (some ⟨W.heap.size, 0, none⟩) 1 1) (W.alloc (.cells v.cells e)) := by
  have hf := fill_struct (fun i => some (i * size, size)) ((Array.range (1 * size)).map (z.cells[· % z.cells.size]!)) [(0, v)] ⟨by rw [hv]; simp, trivial⟩ (by simp [cellsOf, hv])
  have hc : (cellsOf [(0, v)]).toArray = v.cells := by simp [cellsOf]
  rw [hc] at hf
  exact run_buildSlice W t e 1 _ _ ie z ht hi hz (by omega) (by omega) (by rw [hs]; exact hf)
/-- .. and by the element's row of the table. -/
theorem run_oneN {P : Program} {t e : TypeId} {z : Value} {size bytes : Nat} (E : EltN P t e z size bytes) (W : World) (v : Value) (hv : v.cells.size = size) (h1 : size ≤ 2 ^ 24) :
    (Instr.buildSlice t 1 #[(0, v)]).run P W = .ok (.slice (some ⟨W.heap.size, 0, none⟩) 1 1) (W.alloc (.cells v.cells e)) := by
  obtain ⟨i, hi, hz, hs, _⟩ := info_parts E.info
  exact run_one W t e i z v size E.under hi hz hs E.cells_ hv E.pos h1
theorem exec_buildSlice {P : Program} {w w' : World} {r : Operand → Value} {o : Oper} {v : Value} (t : TypeId) (n : Nat) (parts : Array (Nat × Operand)) (ho : o.op = .buildSlice t n parts) (h : (Instr.buildSlice t n (parts.map fun (i, x) => (i, r x))).run P w = .ok v w') :
    (execOp r o).run P w = .ok (.value v) w' := by
  unfold execOp
  simp only [ho, Sem.run_bind, h, Result.andThen_ok, Sem.run_pure]
theorem wp_buildSliceN {P : Program} {o : Oper} {a : Act} {w w' : World} {K : Act → World → Prop} {Q : Exit → Act → World → Prop} {v : Value} (t : TypeId) (n : Nat) (parts : Array (Nat × Operand)) (ho : o.op = .buildSlice t n parts) (h : (Instr.buildSlice t n (parts.map fun (i, x) => (i, a.eval x))).run P w = .ok v w')
    (hk : K (a.put o.dst v) w') : o.wp P a w K Q := by
  unfold Oper.wp
  rw [exec_buildSlice t n parts ho h]
  exact hk
end Go.Proofs.Ytolbffcbamfbeaa
