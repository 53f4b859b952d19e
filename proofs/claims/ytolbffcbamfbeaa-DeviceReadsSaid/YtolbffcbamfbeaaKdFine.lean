/-
  Devices that are in, and don't lie. No program.
-/
import Derived.Test.YtolbffcbamfbeaaKdAwake
namespace Go.Proofs.Ytolbffcbamfbeaa.Kd
/-- N devices of L sectors, that are in and don't lie, of which no more than m writes wait. -/
structure Fine (N L m : Nat) (S : Sy) : Prop where
  len : S.ds.length = N
  each : ∀ k, k < N → (S.at k).gone = false ∧ (S.at k).lies = false ∧ (S.at k).st.length = L ∧ (S.at k).wt.length ≤ m
variable {N L m k : Nat} {S : Sy} {i : Int} {s : List UInt8}
theorem at_map {f : Dv → Dv} {S : Sy} {P : Pw} {k : Nat} (hk : k < S.ds.length) : (Sy.mk P (S.ds.map f)).at k = f (S.at k) := by
  show (S.ds.map f).getD k noDv = f (S.ds.getD k noDv)
  rw [List.getD_eq_getElem?_getD, List.getD_eq_getElem?_getD, List.getElem?_map, List.getElem?_eq_getElem hk]; rfl
theorem Fine.count (h : Fine N L m S) : Fine N L m S.count := by
  unfold Sy.count
  split
  · refine ⟨by show (S.ds.map Dv.fall).length = N; rw [List.length_map, h.len], fun k hk => ?_⟩
    rw [at_map (by rw [h.len]; exact hk)]
    obtain ⟨h1, h2, h3, h4⟩ := h.each k hk
    unfold Dv.fall
    rw [if_neg (by rw [h1]; simp)]
    exact ⟨h1, h2, by show (fallL _ _ _ _ _).length = L; rw [fall_length]; exact h3, by show 0 ≤ m; omega⟩
  · exact ⟨h.len, h.each⟩
theorem Fine.put (h : Fine N L m S) (hk : k < N) {d : Dv} {m' : Nat} (hm : m ≤ m') (h1 : d.gone = false) (h2 : d.lies = false) (h3 : d.st.length = L) (h4 : d.wt.length ≤ m') : Fine N L m' (S.put k d) := by
  refine ⟨by rw [len_put]; exact h.len, fun j hj => ?_⟩
  rw [at_put _ (by rw [h.len]; exact hk)]
  split
  · exact ⟨h1, h2, h3, h4⟩
  · obtain ⟨a, b, c, d⟩ := h.each j hj
    exact ⟨a, b, c, by omega⟩
theorem Fine.more (h : Fine N L m S) {m' : Nat} (hm : m ≤ m') : Fine N L m' S := ⟨h.len, fun k hk => by obtain ⟨a, b, c, d⟩ := h.each k hk; exact ⟨a, b, c, by omega⟩⟩
theorem count_p : S.count.p = S.p.step := by unfold Sy.count; split <;> rfl
theorem put_p {d : Dv} : (S.put k d).p = S.p := rfl
theorem write_fine (h : Fine N L m S) (hk : k < N) (ho : S.p.off = false) (hi : 0 ≤ i ∧ i < (L : Int)) (hf : S.p.fails = false) :
    (S.write k i s).1 = 0 ∧ Fine N L (m + 1) (S.write k i s).2 ∧ (S.write k i s).2.p = S.p.step := by
  obtain ⟨h1, h2, h3, h4⟩ := h.each k hk
  have hr : refuseN S.p (S.at k) i = 0 := by unfold refuseN; rw [ho, h1, h3, if_neg (by simp), if_neg (by omega)]
  have hw : S.write k i s = (if S.p.fails then 13 else 0, (S.put k { S.at k with wt := (S.at k).wt ++ [(i.toNat, s)] }).count) := by unfold Sy.write; rw [if_neg (by rw [hr]; simp)]
  rw [hw, hf]
  exact ⟨rfl, (h.put (d := (S.at k).add i.toNat s) (m' := m + 1) hk (by omega) h1 h2 h3 (by show ((S.at k).wt ++ [(i.toNat, s)]).length ≤ m + 1; rw [List.length_append, List.length_singleton]; omega)).count, by rw [count_p]; rfl⟩
theorem write_out8 (h : Fine N L m S) (hk : k < N) (ho : S.p.off = false) (hi : i < 0 ∨ (L : Int) ≤ i) : S.write k i s = (2, S) := by
  obtain ⟨h1, h2, h3, h4⟩ := h.each k hk
  have hr : refuseN S.p (S.at k) i = 2 := by unfold refuseN; rw [ho, h1, h3, if_neg (by simp), if_pos hi]
  rw [write_no (by rw [hr]; simp), hr]
theorem write_down8 (ho : S.p.off = true) : S.write k i s = (13, S) := by
  have hr : refuseN S.p (S.at k) i = 13 := by unfold refuseN; rw [ho, if_pos (by simp)]
  rw [write_no (by rw [hr]; simp), hr]
theorem flush_down8 (ho : S.p.off = true) : S.flush k = (13, S) := flush_down (by rw [ho]; rfl)
theorem flush_fine (h : Fine N L m S) (hk : k < N) (ho : S.p.off = false) (hf : S.p.fails = false) :
    (S.flush k).1 = 0 ∧ Fine N L m (S.flush k).2 ∧ (S.flush k).2.p = S.p.step := by
  obtain ⟨h1, h2, h3, h4⟩ := h.each k hk
  have hw : S.flush k = (0, S.count.put k { S.at k with st := flushL (S.at k).st (S.at k).wt, wt := [] }) := by
    unfold Sy.flush; rw [if_neg (by rw [ho, h1]; simp), if_neg (by rw [hf]; simp), if_neg (by rw [h2]; simp)]
  rw [hw]
  exact ⟨rfl, h.count.put hk (Nat.le_refl _) h1 h2 (by show (flushL _ _).length = L; rw [flush_length]; exact h3) (by show 0 ≤ m; omega), by show S.count.p = _; rw [count_p]⟩
theorem flush_fails8 (h : Fine N L m S) (hk : k < N) (ho : S.p.off = false) (hf : S.p.fails = true) : S.flush k = (13, S.count) :=
  flush_fails (by rw [ho, (h.each k hk).1]; simp) hf
/-- Power that fails behind so many operations. -/
theorem step_more {P : Pw} {n : Nat} (h : P.left = (n : Int) + 1) : P.fails = false ∧ P.step.off = false ∧ P.step.left = (n : Int) := by
  unfold Pw.fails Pw.step
  rw [h, if_neg (by omega)]
  exact ⟨by rw [decide_eq_false (show ¬ ((n : Int) + 1 - 1 < 0) by omega)]; simp, by show decide _ = false; exact decide_eq_false (by omega), by show (n : Int) + 1 - 1 = n; omega⟩
theorem step_none {P : Pw} (h : P.left = 0) : P.fails = true ∧ P.step.off = true := by
  unfold Pw.fails Pw.step
  rw [h]
  exact ⟨rfl, rfl⟩
theorem step_never {P : Pw} (h : P.left = -1) : P.fails = false ∧ P.step = P := by
  unfold Pw.fails Pw.step
  rw [h]
  exact ⟨rfl, rfl⟩
theorem Fine.new (h : Fine N L m S) (x : Int) (hx : clampN x = L) : Fine (N + 1) L m (S.new x) := by
  have hlen : (S.new x).ds.length = N + 1 := by show (S.ds ++ [_]).length = _; rw [List.length_append, h.len]; rfl
  refine ⟨hlen, fun k hk => ?_⟩
  by_cases hkn : k < N
  · rw [show (S.new x).at k = S.at k from getD_left8 (by rw [h.len]; exact hkn)]
    exact h.each k hkn
  · have : k = S.ds.length := by rw [h.len]; omega
    subst this
    rw [show (S.new x).at S.ds.length = newDv (clampN x) from getD_last8]
    exact ⟨rfl, rfl, by show (List.replicate _ _).length = L; rw [List.length_replicate]; exact hx, by show 0 ≤ m; omega⟩
theorem fine_zero {L : Nat} : Fine 0 L 0 S0 := ⟨rfl, fun k hk => by omega⟩
theorem Fine.restart (h : Fine N L m S) : Fine N L m S.restart := ⟨h.len, h.each⟩
theorem Fine.fail (h : Fine N L m S) (x : Int) : Fine N L m (S.fail x) := ⟨h.len, h.each⟩
theorem failN_nat (n : Nat) : failN (n : Int) = n := by unfold failN; omega
end Go.Proofs.Ytolbffcbamfbeaa.Kd
