/-
  How a []uint64 that came in is opened: its numbers, as a list.
-/
import Derived.Test.YtkfcllcdkgnfbaaWords
import Derived.OpenShut
namespace Go.Proofs.Ytkfcllcdkgnfbaa
open Go.RowKit Go.ChangeShapes Go.WideShapes
/-- The cells of a row of 64-bit numbers without a sign. -/
def iv64 (l : List Int) : List Value := l.map (Value.int .u64)
theorem iv64_length (l : List Int) : (iv64 l).length = l.length := by simp [iv64]
theorem iv64_get {l : List Int} {k : Nat} (hk : k < l.length) : (iv64 l)[k]? = some (.int .u64 (l.getD k 0)) := by
  simp [iv64, hk]
theorem rd_u64 {B : Nat} {w : World} {A : Option Addr} {l : List Int} (h : Rd B w A (iv64 l)) {k : Nat} (hk : k < l.length) : ∃ ad, A = some ad ∧ ad.block < B ∧ w.cell? (ad.add k) = some (.int .u64 (l.getD k 0)) :=
  h k _ (iv64_get hk)
section
variable {H : Type} {enc : TypeId × Value → H} {P : Program} {w : World} {base : Nat} {spare : Nat → Bool} {held : Bool}
theorem open_u64s {t e : Nat} {a : Option Addr} {len cap : Nat} {d : DataW H} {ps : List MemPlace} (ht : P.underlying t = some (.slice e)) (he : P.underlying e = some (.int .u64)) (hc : P.cellsOf e = 1)
    (h : DataW.Trod enc P w base spare held t (.slice a len cap) d ps) : ∃ l : List Int, l.length = len ∧ len ≤ cap ∧ cap ≤ maxLen ∧ Rd w.heap.size w a (iv64 l) ∧ ∀ z ∈ l, 0 ≤ z ∧ z ≤ 18446744073709551615 := by
  obtain ⟨fuel, hf⟩ := h
  have hf' : DataW.trod enc P w base spare held fuel t [Value.slice a len cap] = some (d, ps) := hf
  rcases open_ints ht he hc hf' with ⟨hcs, _⟩ | ⟨a', len', cap', zs, hcs, _, hl, hm, hz, _, hcell, hwz⟩
  · simp only [List.cons.injEq, and_true] at hcs
    injection hcs with e1 e2 e3
    subst e1; subst e2; subst e3
    exact ⟨[], rfl, Nat.le_refl _, Nat.zero_le _, Rd.none, fun z hz => by simp at hz⟩
  · simp only [List.cons.injEq, and_true] at hcs
    injection hcs with e1 e2 e3
    subst e1; subst e2; subst e3
    have hlz : len ≤ zs.length := by rw [hz]; split <;> omega
    refine ⟨zs.take len, by rw [List.length_take]; omega, hl, hm, fun k u hu => ?_, fun z hz => bounds_u64 (hwz z (List.mem_of_mem_take hz))⟩
    have hk : k < len := by
      have := (List.getElem?_eq_some_iff.1 hu).1
      rw [iv64_length, List.length_take] at this; omega
    have hkz : k < zs.length := by omega
    have hg := hcell k hkz
    have hb := World.block_lt_of_cell? _ _ hg
    rw [add_block] at hb
    refine ⟨a', rfl, hb, ?_⟩
    have e2 : (iv64 (zs.take len))[k]? = some (.int .u64 zs[k]) := by simp [iv64, hk, hkz]
    have hd : zs.getD k 0 = zs[k] := by simp [List.getD, hkz]
    rw [hg, hd, ← hu, e2]
end
end Go.Proofs.Ytkfcllcdkgnfbaa
