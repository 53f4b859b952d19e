/-
  Arrays of numbers by value, as lists: their cells, the blocks that hold them; a splice of bytes; bits of numbers of 32 bits.
-/
import Derived.Test.YtmokigcplgjgiaaWords
import Derived.Test.YtmokigcplgjgiaaU32
import Derived.Deep.QuietTactic
import Derived.BigQuiet
import Derived.Deep.LoopGhost
import Derived.Deep.DrawnRows
import Derived.Deep.MidRow
import Derived.Deep.RegionHeld
import Derived.Laws.CopyOwn
import Derived.Laws.Rows
import Derived.BigRegion
namespace Go.Proofs.Ytmokigcplgjgiaa
open Go.RowKit
/-- The cells of a state. -/
def uv (s : List UInt32) : Array Value := (s.map fun x => Value.int .u32 (x.toNat : Int)).toArray
theorem uv_size (s : List UInt32) : (uv s).size = s.length := by simp [uv]
theorem uv_get {s : List UInt32} {k : Nat} (h : k < s.length) : (uv s)[k]? = some (.int .u32 ((s.getD k 0).toNat : Int)) := by
  simp [uv, h]
theorem uv_set (s : List UInt32) (k : Nat) (x : UInt32) : (uv s).setIfInBounds k (.int .u32 (x.toNat : Int)) = uv (s.set k x) := by
  simp [uv, List.map_set]
theorem uv_one (s : List UInt32) : (uv s).all (·.oneCell') = true := by
  simp [uv, Value.oneCell']
/-- The cells of a key, or of a block. -/
def bva (k : List UInt8) : Array Value := (bv k).toArray
theorem bva_size (k : List UInt8) : (bva k).size = k.length := by simp [bva, bv_length]
theorem bva_get {l : List UInt8} {k : Nat} (h : k < l.length) : (bva l)[k]? = some (.int .u8 ((l.getD k 0).toNat : Int)) := by
  rw [bva, List.getElem?_toArray, bv_get h, List.getD_eq_getElem?_getD, List.getElem?_eq_getElem h]; rfl
theorem block_below {wr w1 : World} {g : Nat} {o : Obj} (h : wr.heap[g]? = some o) (hb : Below wr.heap.size wr w1) : w1.heap[g]? = some o := by
  rw [hb.block g (Array.getElem?_eq_some_iff.1 h).1]; exact h
def Blk (w : World) (g : Nat) (cs : Array Value) (A : TypeId) : Prop := w.heap[g]? = some (.cells cs A (0, 0))
theorem Blk.cell {w : World} {g : Nat} {cs : Array Value} {A : TypeId} (h : Blk w g cs A) (j : Nat) : w.cell? ⟨g, j, none⟩ = cs[j]? := cell_of_row w g j cs A _ h
theorem Blk.free {w : World} {g : Nat} {cs : Array Value} {A : TypeId} (h : Blk w g cs A) (j : Nat) : w.frozen? ⟨g, j, none⟩ = false := frozen_of_row w g j cs A h
theorem Blk.below {w w1 : World} {g : Nat} {cs : Array Value} {A : TypeId} (h : Blk w g cs A) (hb : Below w.heap.size w w1) : Blk w1 g cs A := block_below h hb
theorem Blk.drewN {w : World} {g : Nat} {cs : Array Value} {A : TypeId} (h : Blk w g cs A) (q : Nat) : Blk (w.drewN q) g cs A := h
theorem Blk.set {w : World} {g : Nat} {s : List UInt32} {A : TypeId} (h : Blk w g (uv s) A) (k : Nat) (x : UInt32) : Blk (w.setCell ⟨g, k, none⟩ (.int .u32 (x.toNat : Int))) g (uv (s.set k x)) A := by
  rw [← uv_set]; exact heap_setCell_same _ _ _ _ _ _ h
theorem Blk.setv {w : World} {g : Nat} {s : List UInt32} {A : TypeId} {v : Value} (h : Blk w g (uv s) A) (k : Nat) (x : UInt32) (hv : v = .int .u32 (x.toNat : Int)) : Blk (w.setCell ⟨g, k, none⟩ v) g (uv (s.set k x)) A := by
  rw [hv]; exact h.set k x
theorem Blk.other {w : World} {g g' : Nat} {cs : Array Value} {A : TypeId} (h : Blk w g cs A) (hg : g ≠ g') (k : Nat) (x : Value) : Blk (w.setCell ⟨g', k, none⟩ x) g cs A := by
  unfold Blk; rw [heap_setCell_other _ _ _ _ hg]; exact h
theorem Blk.cellu {w : World} {g : Nat} {s : List UInt32} {A : TypeId} (h : Blk w g (uv s) A) {k : Nat} (hk : k < s.length) : w.cell? ⟨g, k, none⟩ = some (.int .u32 ((s.getD k 0).toNat : Int)) := by
  rw [h.cell, uv_get hk]
theorem Blk.cellb {w : World} {g : Nat} {l : List UInt8} {A : TypeId} (h : Blk w g (bva l) A) {k : Nat} (hk : k < l.length) : w.cell? ⟨g, k, none⟩ = some (.int .u8 ((l.getD k 0).toNat : Int)) := by
  rw [h.cell, bva_get hk]

theorem three_blocks (w : World) (A B C : Obj) : (((w.alloc A).alloc B).alloc C).heap[w.heap.size]? = some A ∧ (((w.alloc A).alloc B).alloc C).heap[w.heap.size + 1]? = some B ∧ (((w.alloc A).alloc B).alloc C).heap[w.heap.size + 1 + 1]? = some C ∧ Below w.heap.size w (((w.alloc A).alloc B).alloc C) := by
  refine ⟨?_, ?_, ?_, (((Below.refl _ _).alloc (Nat.le_refl _) _).alloc (by simp) _).alloc (by simp; omega) _⟩
  · rw [heap_alloc_old _ _ (by simp; omega)]
    exact heap_alloc2_old _ _ _
  · rw [heap_alloc_old _ _ (by simp)]
    exact heap_alloc2_new _ _ _
  · have h := heap_alloc_new ((w.alloc A).alloc B) C
    have e : ((w.alloc A).alloc B).heap.size = w.heap.size + 1 + 1 := by simp
    rwa [e] at h
theorem bva_set (l : List UInt8) (k : Nat) (x : UInt8) : (bva l).setIfInBounds k (.int .u8 (x.toNat : Int)) = bva (l.set k x) := by
  simp [bva, bv, List.map_set]
theorem bva_one (l : List UInt8) : (bva l).all (·.oneCell') = true := by
  simp [bva, bv, Value.oneCell']
theorem Blk.setb {w : World} {g : Nat} {l : List UInt8} {A : TypeId} {v : Value} (h : Blk w g (bva l) A) (k : Nat) (x : UInt8) (hv : v = .int .u8 (x.toNat : Int)) : Blk (w.setCell ⟨g, k, none⟩ v) g (bva (l.set k x)) A := by
  rw [hv, ← bva_set]; exact heap_setCell_same _ _ _ _ _ _ h
theorem exec_load {P : Program} {w : World} {r : Operand → Value} {o : Oper} (ty : TypeId) (x : Operand) (ho : o.op = .load ty x) {g : Nat} {cs : Array Value} {A : TypeId} {d : TypeDesc} (hx : r x = .pointer (some ⟨g, 0, none⟩)) (hg : Blk w g cs A)
    (hu : P.underlying ty = some d) (hd : (match d with | .struct _ | .array _ _ => true | _ => false) = true) (hi : (P.info? ty).map (·.size) = some cs.size) :
    (execOp r o).run P w = .ok (.value (.agg cs)) w := by
  unfold execOp
  simp only [ho, hx, Instr.loadAt, Instr.sureAddr, Sem.run_bind, Sem.run_pure, Result.andThen_ok, run_loadVar_row w g A ty cs (0, 0) d hg hu hd hi]
theorem blk_new {w : World} {B : TypeId} {cs : Array Value} (old : Array Value) : Blk ((w.alloc (.cells old B)).setRow w.heap.size cs) w.heap.size cs B := setRow_heap _ _ _ _ _ _ (heap_alloc_new _ _)
theorem blk_past {w : World} {g : Nat} {A B : TypeId} {cs cs' old : Array Value} (h : Blk w g cs A) : Blk ((w.alloc (.cells old B)).setRow w.heap.size cs') g cs A := by
  have hg : g < w.heap.size := (Array.getElem?_eq_some_iff.1 h).1
  unfold Blk
  rw [setRow_other _ _ _ _ (by omega), heap_alloc_old _ _ hg]
  exact h
theorem below_new {B : Nat} {a w : World} {T : TypeId} {cs old : Array Value} (h : Below B a w) (hB : B ≤ w.heap.size) : Below B a ((w.alloc (.cells old T)).setRow w.heap.size cs) := below_setRow (h.alloc hB _) hB _
theorem Blk.lt {w : World} {g : Nat} {cs : Array Value} {A : TypeId} (h : Blk w g cs A) : g < w.heap.size := (Array.getElem?_eq_some_iff.1 h).1
theorem splice_get {α : Type} (L : List α) (off : Nat) (cs : List α) (h : off + cs.length ≤ L.length) (j : Nat) :
    (splice L off cs)[j]? = if j < off then L[j]? else if j < off + cs.length then cs[j - off]? else L[j]? := by
  unfold splice
  have hl : (L.take off).length = off := by simp; omega
  by_cases h1 : j < off
  · rw [if_pos h1, List.getElem?_append_left (by omega), List.getElem?_take, if_pos h1]
  · rw [if_neg h1, List.getElem?_append_right (by omega), hl]
    by_cases h2 : j < off + cs.length
    · rw [if_pos h2, List.getElem?_append_left (by omega)]
    · rw [if_neg h2, List.getElem?_append_right (by omega), List.getElem?_drop]
      congr 1; omega
theorem splice_bv (l : List UInt8) (off : Nat) (b : List UInt8) : splice (bv l) off (bv b) = bv (splice l off b) := by
  simp [splice, bv_append, bv_take, bv_drop, bv_length]
theorem own_of_blk {w : World} {g base n : Nat} {e : TypeId} {l : List UInt8} (h : Blk w g (bva l) e) (hn : l.length = n) (hm : n ≤ maxLen) (hb : base ≤ g) : w.ownsRow base e 1 (.slice (some ⟨g, 0, none⟩) n n) n (bv l) := by
  refine ⟨by rw [bv_length]; omega, .inr ⟨g, n, _, rfl, hb, h, Nat.le_refl _, hm, by rw [bva_size]; omega, ?_⟩⟩
  rw [bva, List.toList_toArray]
  exact List.take_of_length_le (by rw [bv_length]; omega)
theorem blk_of_own {w : World} {g base n : Nat} {e : TypeId} {l : List UInt8} (h : w.ownsRow base e 1 (.slice (some ⟨g, 0, none⟩) n n) n (bv l)) (hn : 0 < n) : Blk w g (bva l) e := by
  rcases h.2 with ⟨_, h0⟩ | ⟨g', cap, cur, hv, _, hg, hc, _, hs, ht⟩
  · omega
  · injection hv with h1 h2 h3
    injection h1 with h1
    injection h1 with h1
    subst h1; subst h3
    rw [List.take_of_length_le (by simp; omega)] at ht
    unfold Blk
    rw [hg, bva, ← ht]
theorem made_zero (s : Nat) : (madeCells (Value.int IntKind.u8 0).cells (s * 1)).toList = bv (List.replicate s 0) := by
  have e : (Value.int IntKind.u8 0).cells = #[Value.int IntKind.u8 0] := rfl
  rw [e, toList_madeCells_one]
  simp [bv]
theorem bv_take_get {b : List UInt8} {m j : Nat} {v : Value} (h : (bv (b.take m))[j]? = some v) : (bv b)[j]? = some v := by
  rw [bv_take, List.getElem?_take] at h
  split at h
  · exact h
  · cases h
theorem uv_nums (s : List UInt32) : ∀ i (h : i < (uv s).size), ∃ z, (uv s)[i] = .int .u32 z := fun i h => by
  rw [uv_size] at h
  exact ⟨(s[i].toNat : Int), by simp [uv]⟩
theorem bva_nums (s : List UInt8) : ∀ i (h : i < (bva s).size), ∃ z, (bva s)[i] = .int .u8 z := fun i h => by
  rw [bva_size] at h
  exact ⟨(s[i].toNat : Int), by simp [bva, bv]⟩
theorem w_byte (b : UInt8) : (b.toNat : Int) = ((UInt32.ofNat b.toNat).toNat : Int) := by
  rw [UInt32.toNat_ofNat']; have := b.toNat_lt; omega
theorem w_bshl (b : UInt8) {n : Nat} (h : n ≤ 24) : (b.toNat : Int) * 2 ^ n = ((UInt32.ofNat b.toNat <<< UInt32.ofNat n).toNat : Int) := by
  rw [← w_shl _ (by omega), ← w_byte]
  have h1 := b.toNat_lt
  have h2 : (2 : Nat) ^ n ≤ 2 ^ 24 := Nat.pow_le_pow_right (by omega) h
  have h3 : b.toNat * 2 ^ n < 4294967296 := Nat.lt_of_le_of_lt (Nat.mul_le_mul_left _ h2) (by omega)
  have e : (b.toNat : Int) * 2 ^ n = ((b.toNat * 2 ^ n : Nat) : Int) := by rw [Int.natCast_mul, Int.natCast_pow]; rfl
  rw [e]; omega
theorem big_bit (x : UInt32) {i : Nat} (h : 32 ≤ i) : x.toNat.testBit i = false :=
  Nat.testBit_lt_two_pow (Nat.lt_of_lt_of_le x.toNat_lt (Nat.pow_le_pow_right (by omega) h))
theorem shl_bit (x : UInt32) {n : Nat} (h : n < 32) (i : Nat) : (x <<< UInt32.ofNat n).toNat.testBit i = (decide (i < 32) && (decide (n ≤ i) && x.toNat.testBit (i - n))) := by
  rw [UInt32.toNat_shiftLeft, ofNat_small h, show (2 : Nat) ^ 32 = 2 ^ 32 from rfl, Nat.testBit_mod_two_pow, Nat.testBit_shiftLeft]
theorem shr_bit (x : UInt32) {n : Nat} (h : n < 32) (i : Nat) : (x >>> UInt32.ofNat n).toNat.testBit i = x.toNat.testBit (n + i) := by
  rw [UInt32.toNat_shiftRight, ofNat_small h, Nat.testBit_shiftRight]
theorem rotl_bit (x : UInt32) {n : Nat} (h0 : 0 < n) (h : n < 32) (i : Nat) : (rotl x n).toNat.testBit i = ((decide (i < 32) && (decide (n ≤ i) && x.toNat.testBit (i - n))) || x.toNat.testBit (32 - n + i)) := by
  rw [rotl, UInt32.toNat_or, Nat.testBit_or, shl_bit x h, shr_bit x (by omega)]
end Go.Proofs.Ytmokigcplgjgiaa
