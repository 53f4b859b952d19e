/-
  What settles: pure.
-/
import Derived.Test.YtolbffcbamfbeaaKdPure
namespace Go.Proofs.Ytolbffcbamfbeaa.Kd
/-- The first k of the writes are stable, and of the next one the first bytes. -/
def settleL (k : Nat) (b : Int) (ws : List (Nat × List UInt8)) (st : List (List UInt8)) : List (List UInt8) :=
  match ws[k]? with
  | none => flushL st ws
  | some x => (flushL st (ws.take k)).set x.1 (tornL b x.2 ((flushL st (ws.take k)).getD x.1 zeroS))
theorem settle_all {k : Nat} {b : Int} {ws : List (Nat × List UInt8)} {st : List (List UInt8)} (h : ws.length ≤ k) : settleL k b ws st = flushL st ws := by
  unfold settleL; rw [List.getElem?_eq_none h]
theorem settle_torn {k : Nat} {b : Int} {ws : List (Nat × List UInt8)} {st : List (List UInt8)} (h : k < ws.length) : settleL k b ws st = (flushL st (ws.take k)).set ws[k].1 (tornL b ws[k].2 ((flushL st (ws.take k)).getD ws[k].1 zeroS)) := by
  unfold settleL; rw [List.getElem?_eq_getElem h]
theorem fall_past {kept b : Int} : ∀ (ws : List (Nat × List UInt8)) (j : Nat) (st : List (List UInt8)), kept < j → fallL kept b j ws st = st
  | [], _, _, _ => rfl
  | x :: ws, j, st, h => by
    rw [fallL, if_neg (by omega), if_neg (by omega)]
    exact fall_past ws (j + 1) st (by omega)
theorem fall_settle_at {kept b : Int} : ∀ (ws : List (Nat × List UInt8)) (j : Nat) (st : List (List UInt8)), (j : Int) ≤ kept → fallL kept b j ws st = settleL (kept - j).toNat b ws st
  | [], _, _, _ => rfl
  | x :: ws, j, st, h => by
    rw [fallL]
    by_cases he : (j : Int) = kept
    · rw [if_neg (by omega), if_pos he, fall_past ws (j + 1) _ (by omega), show (kept - j).toNat = 0 by omega]
      rfl
    · rw [if_pos (by omega), fall_settle_at ws (j + 1) _ (by omega)]
      obtain ⟨m, hm⟩ : ∃ m, (kept - j).toNat = m + 1 := ⟨(kept - j).toNat - 1, by omega⟩
      rw [hm, show (kept - ((j + 1 : Nat) : Int)).toNat = m by omega]
      rfl
theorem fall_settle {kept b : Int} (ws : List (Nat × List UInt8)) (st : List (List UInt8)) (h : 0 ≤ kept) : fallL kept b 0 ws st = settleL kept.toNat b ws st := by
  have := fall_settle_at (b := b) ws 0 st (show ((0 : Nat) : Int) ≤ kept from h)
  simpa using this
theorem flush_take_succ {st : List (List UInt8)} {ws : List (Nat × List UInt8)} {k : Nat} (h : k < ws.length) : flushL st (ws.take (k + 1)) = (flushL st (ws.take k)).set ws[k].1 ws[k].2 := by
  rw [List.take_succ_eq_append_getElem h, flushL, List.foldl_append]; rfl
/-- A device, settled. -/
def Dv.settle (d : Dv) (k : Nat) (b : Int) : Dv := { d with st := settleL k b d.wt d.st, wt := [] }
theorem settle_ok {d : Dv} (h : d.ok) (k : Nat) {b : Int} (hb : 0 ≤ b ∧ b ≤ 128) : (d.settle k b).ok := by
  have hw : ∀ x ∈ d.wt, x.2.length = 128 := fun x hx => (h.wt x hx).2
  have hl : ∀ ws : List (Nat × List UInt8), (∀ x ∈ ws, x.2.length = 128) → ∀ s ∈ flushL d.st ws, s.length = 128 := fun ws hws => flush_ok ws d.st h.st hws
  have hlen : (settleL k b d.wt d.st).length = d.st.length := by
    by_cases hk : k < d.wt.length
    · rw [settle_torn hk, List.length_set, flush_length]
    · rw [settle_all (by omega), flush_length]
  refine ⟨?_, fun x hx => absurd hx List.not_mem_nil, h.kept, h.bytes, by show (settleL k b d.wt d.st).length ≤ 4096; rw [hlen]; exact h.len⟩
  show ∀ s ∈ settleL k b d.wt d.st, s.length = 128
  by_cases hk : k < d.wt.length
  · rw [settle_torn hk]
    have h1 := hl (d.wt.take k) (fun x hx => hw x (List.mem_of_mem_take hx))
    exact set_ok h1 (torn_length (hw _ (List.getElem_mem hk)) (getD_ok h1 _) hb) _
  · rw [settle_all (by omega)]
    exact hl d.wt hw
theorem settle_len (d : Dv) (k : Nat) (b : Int) : (d.settle k b).st.length = d.st.length := by
  show (settleL k b d.wt d.st).length = _
  by_cases hk : k < d.wt.length
  · rw [settle_torn hk, List.length_set, flush_length]
  · rw [settle_all (by omega), flush_length]
theorem fall_is_settle {d : Dv} (h : 0 ≤ d.kept) (hi : d.gone = true → d.wt = []) : d.fall = d.settle d.kept.toNat d.bytes := by
  unfold Dv.fall Dv.settle
  split
  · rename_i hg
    have := hi hg
    obtain ⟨st, wt, k, b, l, g⟩ := d
    simp only at this
    subst this
    rfl
  · rw [fall_settle d.wt d.st h]
end Go.Proofs.Ytolbffcbamfbeaa.Kd
