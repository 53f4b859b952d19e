/-
  A set of leaves that a law keeps (map[uint64]bool), as a list of them; what is held behind the leaves that there are.
-/
import Derived.Test.YtkfcllcdkgnfbaaKtCan
import Derived.Maps.RangeWalk
import Derived.Maps.OwnSet
namespace Go.Proofs.Ytkfcllcdkgnfbaa.Kt
open Go.RowKit Go.Maps
attribute [local go_sem ↓] Go.wp_at_zero Go.wp_at_succ
theorem law64 : Keyed Try.prog 25 := int_keyed Try.underlying25
/-- How the set's elements read. -/
def boolP (P : Program) : Value → Option (DataW Unit × List MemPlace) := plainElem P 4
theorem wf64 {z : Int} (hz : 0 ≤ z ∧ z ≤ 18446744073709551615) : (Lit.int .u64 z).wf = true := by
  have h1 : IntKind.u64.min = 0 := by decide
  have h2 : IntKind.u64.max = 18446744073709551615 := by decide
  simp [Lit.wf, h1, h2]; omega
theorem boolR_mk (x : Bool) : (boolP Try.prog) (.bool x) = some (.lit (.bool x), []) := plainElem_bool Try.underlying4 x
theorem boolR_inv {v : Value} {y : DataW Unit × List MemPlace} (h : (boolP Try.prog) v = some y) : ∃ c, v = .bool c := by
  unfold boolP plainElem at h
  rw [Try.underlying4] at h
  cases v <;> simp at h
  exact ⟨_, rfl⟩
theorem boolR_val {v : Value} {c : Bool} {ps : List MemPlace} (h : (boolP Try.prog) v = some (.lit (.bool c), ps)) : v = .bool c := by
  obtain ⟨d, rfl⟩ := boolR_inv h
  rw [boolR_mk] at h
  injection h with h
  injection h with h _
  injection h with h
  injection h with h
  rw [h]
/-- The datum D is the set of ds. -/
structure CutM (D : DataW Unit) (ds : List Int) : Prop where
  tidy : Tidy D
  nodup : ds.Nodup
  size : Maps.size D = ds.length
  has : ∀ z, Maps.has D (.int .u64 z) = decide (z ∈ ds)
  at_ : ∀ z, D.atKey (.int .u64 z) (.lit (.bool false)) = .lit (.bool (decide (z ∈ ds)))
theorem cut_empty : CutM (.map []) [] := ⟨tidy_empty, List.nodup_nil, rfl, fun _ => rfl, fun _ => rfl⟩
theorem lit_ne {m z : Int} (h : z ≠ m) : (Lit.int .u64 z) ≠ Lit.int .u64 m := fun e => h (by injection e)
theorem CutM.put {D : DataW Unit} {ds : List Int} (h : CutM D ds) (m : Int) : CutM (D.put (.int .u64 m) (.lit (.bool true))) (if m ∈ ds then ds else m :: ds) := by
  have hk : WideAt.IsKeyLit (Lit.int .u64 m) := trivial
  have hm := h.tidy.isMap
  refine ⟨h.tidy.put hk _, ?_, ?_, fun z => ?_, fun z => ?_⟩
  · split
    · exact h.nodup
    · rename_i hn; exact List.nodup_cons.2 ⟨hn, h.nodup⟩
  · rw [size_put h.tidy, h.has]
    by_cases hn : m ∈ ds
    · rw [if_pos hn, if_pos (by simpa using hn), h.size]
    · rw [if_neg hn, if_neg (by simpa using hn), h.size]; rfl
  · by_cases hz : z = m
    · subst hz
      rw [has_put_same hm hk]
      split <;> simp_all
    · rw [has_put_other (lit_ne hz), h.has]
      split
      · rfl
      · simp [hz]
  · by_cases hz : z = m
    · subst hz
      rw [atKey_put_same hm hk]
      split <;> simp_all
    · rw [atKey_put_other (lit_ne hz), h.at_]
      split
      · rfl
      · simp [hz]
theorem put_mem {ds : List Int} (m z : Int) : z ∈ (if m ∈ ds then ds else m :: ds) ↔ z ∈ ds ∨ z = m := by
  split
  · rename_i h
    constructor
    · exact fun hz => .inl hz
    · rintro (hz | rfl)
      · exact hz
      · exact h
  · rw [List.mem_cons]; exact Or.comm
section
variable {w w' : World} {b n : Nat} {D : DataW Unit} {S : Nat → Prop}
theorem map_below (h : w.ownsMap Try.prog 25 (boolP Try.prog) b n D) (hb : Below w.heap.size w w') : w'.ownsMap Try.prog 25 (boolP Try.prog) b n D :=
  h.kept (row := none) ⟨hb.os, hb.tape, hb.output, hb.size, fun k hk _ => hb.block k hk⟩ (by simp)
theorem map_but (h : w.ownsMap Try.prog 25 (boolP Try.prog) b n D) (hb : But S w w') (hs : ¬ S b) : w'.ownsMap Try.prog 25 (boolP Try.prog) b n D := by
  have hlt := h.lt
  obtain ⟨es, clock, hbk, F, hsz, hD⟩ := h
  exact ⟨es, clock, (hb.block b hlt hs).trans hbk, F, hsz, hD⟩
theorem but_of_grown {row : Option Nat} (hg : w.grownBy w' row) (hS : ∀ k, row = some k → S k) : But S w w' := (But.refl w).grown hg (fun k hk => .inl (hS k hk))
theorem grown_of_below (hb : Below w.heap.size w w') : w.grownBy w' none := ⟨hb.os, hb.tape, hb.output, hb.size, fun k hk _ => hb.block k hk⟩
theorem below_of_grown (hg : w.grownBy w' none) : Below w.heap.size w w' := ⟨hg.os, hg.tape, hg.output, hg.size, fun k hk => hg.block k hk (by simp)⟩
end
/-- A look-up in the set. -/
theorem cut_look {w : World} {b n : Nat} {D : DataW Unit} {ds : List Int} (h : w.ownsMap Try.prog 25 (boolP Try.prog) b n D) (hc : CutM D ds) (z : Int) (hz : 0 ≤ z ∧ z ≤ 18446744073709551615) :
    (Instr.lookup 54 (.map (some b)) (.int .u64 z) false).run Try.prog w = .ok (.bool (decide (z ∈ ds))) w := by
  have hw := wf64 hz
  obtain ⟨v, ps, hrun, hv⟩ := h.lookup law64 Try.underlying54 (z := .bool false) (by kernel_rfl) (boolR_mk false) (keyOf_int_mk Try.underlying25 hw)
  rw [hc.at_] at hv
  rw [hrun, boolR_val hv]
theorem any_congr' {x : Nd} {ms ms' : List Int} (hx : okH x) (h : ∀ m, 0 ≤ m → m < 131072 → (m ∈ ms ↔ m ∈ ms')) : ms.any (inI x) = ms'.any (inI x) := by
  have hr : ∀ m, inI x m = true → 0 ≤ m ∧ m < 131072 := fun m hm => by
    rw [inI_iff] at hm
    have := hx.2.2.1
    have := hx.2.2.2.2.1
    omega
  rw [Bool.eq_iff_iff, List.any_eq_true, List.any_eq_true]
  constructor
  · rintro ⟨m, hm, hi⟩; exact ⟨m, (h m (hr m hi).1 (hr m hi).2).1 hm, hi⟩
  · rintro ⟨m, hm, hi⟩; exact ⟨m, (h m (hr m hi).1 (hr m hi).2).2 hm, hi⟩
theorem can_congr' : ∀ (f : Nat) (x : Nd) {ms ms' : List Int}, okH x → x.d = 17 - (f : Int) → (∀ m, 0 ≤ m → m < 131072 → (m ∈ ms ↔ m ∈ ms')) → canL f x ms = canL f x ms'
  | 0, x, _, _, hx, _, h => by unfold canL; rw [any_congr' hx h]
  | f + 1, x, _, _, hx, hd, h => by
    unfold canL
    rw [any_congr' hx h, can_congr' f _ (ndL_ok hx (by omega)).1 (by simp only [ndL]; omega) h, can_congr' f _ (ndR_ok hx (by omega)).1 (by simp only [ndR]; omega) h]
theorem root_in {s : List UInt8} (m : Int) : inI ⟨0, 0, s⟩ m = (decide (0 ≤ m) && decide (m < 131072)) := by
  rw [Bool.eq_iff_iff, inI_iff, Bool.and_eq_true, decide_eq_true_eq, decide_eq_true_eq]
  have : manyI (0 : Int) = 131072 := by decide
  show 0 ≤ m ∧ m < 0 + manyI 0 ↔ _
  rw [this]; omega
theorem nIn_all {s : List UInt8} {ds : List Int} (h : ∀ z ∈ ds, 0 ≤ z ∧ z < 131072) : nIn ⟨0, 0, s⟩ ds = ds.length := by
  unfold nIn
  rw [List.filter_eq_self.2]
  intro z hz
  have := h z hz
  rw [root_in]; simp; omega
end Go.Proofs.Ytkfcllcdkgnfbaa.Kt
