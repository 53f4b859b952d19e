/-
  One device, of which the last write of a sector is read, flushed or not. No program.
-/
import Derived.Test.YtolbffcbamfbeaaKdFluP
namespace Go.Proofs.Ytolbffcbamfbeaa.Kd
def rdS (st : List (List UInt8)) (wt : List (Nat × List UInt8)) : Sy := ⟨⟨false, -1⟩, [⟨st, wt, 0, 0, false, false⟩]⟩
/-- All that is read of it. -/
def wants (st : List (List UInt8)) (wt : List (Nat × List UInt8)) : List (List UInt8) := (List.range st.length).map (nowL st wt)
variable {st : List (List UInt8)} {wt : List (Nat × List UInt8)} {i : Int} {s : List UInt8} {k : Nat}
theorem rd_new (x : Int) : S0.new x = rdS (List.replicate (clampN x) zeroS) [] := rfl
theorem rd_refuse (h : 0 ≤ i ∧ i < (st.length : Int)) : refuseN (rdS st wt).p ((rdS st wt).at 0) i = 0 := by
  show (if (false || false) = true then (13 : Int) else if i < 0 ∨ (st.length : Int) ≤ i then 2 else 0) = 0
  rw [if_neg (by simp), if_neg (by omega)]
theorem rd_wy {n : Nat} (h : n < st.length) : (rdS st wt).write 0 (n : Int) s = (0, rdS st (wt ++ [(n, s)])) := by
  rw [write_yes (rd_refuse (by omega))]; rfl
theorem rd_wn (h : ¬ (0 ≤ i ∧ i < (st.length : Int))) : (rdS st wt).write 0 i s = (2, rdS st wt) := by
  have hr : refuseN (rdS st wt).p ((rdS st wt).at 0) i = 2 := by
    show (if (false || false) = true then (13 : Int) else if i < 0 ∨ (st.length : Int) ≤ i then 2 else 0) = 2
    rw [if_neg (by simp), if_pos (by omega)]
  rw [write_no (by rw [hr]; decide), hr]
theorem rd_f : (rdS st wt).flush 0 = (0, rdS (flushL st wt) []) := rfl
theorem rd_read (h : k < st.length) : readV (rdS st wt).p ((rdS st wt).at 0) (k : Int) = .tuple #[.agg (bva (nowL st wt k)), .int .i64 0] := by
  rw [readV_yes (rd_refuse (by omega))]; rfl
theorem wants_length : (wants st wt).length = st.length := by simp [wants]
theorem wants_get (h : k < st.length) : (wants st wt)[k]'(by rw [wants_length]; exact h) = nowL st wt k := by simp [wants]
theorem wants_set {n : Nat} : wants st (wt ++ [(n, s)]) = (wants st wt).set n s := by
  apply List.ext_getElem?
  intro j
  rw [List.getElem?_set]
  unfold wants
  by_cases hj : j < st.length
  · rw [List.getElem?_map, List.getElem?_range hj]
    show some (nowL st (wt ++ [(n, s)]) j) = _
    rw [now_snoc]
    by_cases h : n = j
    · rw [if_pos h, if_pos h, if_pos (by simp; omega)]
    · rw [if_neg h, if_neg h, List.getElem?_map, List.getElem?_range hj]; rfl
  · rw [List.getElem?_eq_none (by simp; omega)]
    split
    · rw [if_neg (by simp; omega)]
    · rw [List.getElem?_eq_none (by simp; omega)]
theorem wants_flush : wants (flushL st wt) [] = wants st wt := by
  unfold wants
  rw [flush_length]
  refine List.map_congr_left fun k hk => ?_
  rw [flush_nil, flush_get _ _ _ (List.mem_range.1 hk)]
theorem wants_zero (M : Nat) : wants (List.replicate M zeroS) [] = List.replicate M zeroS := by
  apply List.ext_getElem?
  intro j
  unfold wants
  by_cases hj : j < M
  · rw [List.getElem?_map, List.getElem?_range (by simpa using hj), List.getElem?_replicate, if_pos hj]
    show some (nowL (List.replicate M zeroS) [] j) = _
    rw [flush_nil, List.getD_eq_getElem?_getD, List.getElem?_replicate, if_pos hj]; rfl
  · rw [List.getElem?_eq_none (by simp; omega), List.getElem?_eq_none (by simp; omega)]
theorem wants_ok {d : Dv} (h : d.ok) : ∀ x ∈ wants d.st d.wt, x.length = 128 := fun x hx => by
  obtain ⟨j, _, rfl⟩ := List.mem_map.1 hx
  exact now_ok _ _ _ h.st (fun v hv => (h.wt v hv).2)
end Go.Proofs.Ytolbffcbamfbeaa.Kd
