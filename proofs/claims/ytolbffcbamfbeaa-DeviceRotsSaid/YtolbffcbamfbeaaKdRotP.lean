/-
  A byte that rots, twice. No program.
-/
import Derived.Test.YtolbffcbamfbeaaKdMore
namespace Go.Proofs.Ytolbffcbamfbeaa.Kd
theorem rotS_get {s : List UInt8} {a j : Nat} {x : UInt8} (hj : j < s.length) : (rotS s a x).getD j 0 = if j = a then s.getD j 0 ^^^ x else s.getD j 0 := by
  unfold rotS
  rw [List.getD_eq_getElem?_getD, List.getElem?_set]
  by_cases h : a = j
  · subst h; rw [if_pos rfl, if_pos hj, if_pos rfl]; rfl
  · rw [if_neg h, if_neg (fun e => h e.symm), List.getD_eq_getElem?_getD]
theorem rotL_get {st : List (List UInt8)} {n a i : Nat} {x : UInt8} (hi : i < st.length) : (rotL st n a x).getD i zeroS = if i = n then rotS (st.getD i zeroS) a x else st.getD i zeroS := by
  unfold rotL
  rw [List.getD_eq_getElem?_getD, List.getElem?_set]
  by_cases h : n = i
  · subst h; rw [if_pos rfl, if_pos hi, if_pos rfl]; rfl
  · rw [if_neg h, if_neg (fun e => h e.symm), List.getD_eq_getElem?_getD]
theorem rotS_back (s : List UInt8) (a : Nat) (x : UInt8) (ha : a < s.length) : rotS (rotS s a x) a x = s := by
  unfold rotS
  rw [List.set_set]
  have h1 : (s.set a (s.getD a 0 ^^^ x)).getD a 0 = s.getD a 0 ^^^ x := by
    rw [List.getD_eq_getElem?_getD, List.getElem?_set, if_pos rfl, if_pos ha]; rfl
  rw [h1, UInt8.xor_assoc, UInt8.xor_self, UInt8.xor_zero, List.getD_eq_getElem?_getD, List.getElem?_eq_getElem ha]
  exact List.set_getElem_self ..
theorem rotL_back (st : List (List UInt8)) (n a : Nat) (x : UInt8) (hn : n < st.length) (ha : a < (st.getD n zeroS).length) : rotL (rotL st n a x) n a x = st := by
  have h1 : (rotL st n a x).getD n zeroS = rotS (st.getD n zeroS) a x := by rw [rotL_get hn, if_pos rfl]
  rw [rotL, h1, rotS_back _ _ _ ha]
  unfold rotL
  rw [List.set_set, List.getD_eq_getElem?_getD, List.getElem?_eq_getElem hn]
  exact List.set_getElem_self ..
variable {S : Sy} {k : Nat} {i a : Int} {x : UInt8}
theorem rot_p : (S.rot k i a x).p = S.p := by unfold Sy.rot; split <;> rfl
theorem rot_len : (S.rot k i a x).ds.length = S.ds.length := by unfold Sy.rot; split; exact len_put _; rfl
/-- What is stable behind it. -/
theorem rot_at (hk : k < S.ds.length) : ((S.rot k i a x).at k).st = if hasByte (S.at k).st.length i a then rotL (S.at k).st i.toNat a.toNat x else (S.at k).st := by
  unfold Sy.rot
  split
  · rw [at_put _ hk, if_pos rfl]; rfl
  · rfl
theorem rot_at_len (hk : k < S.ds.length) : ((S.rot k i a x).at k).st.length = (S.at k).st.length := by
  rw [rot_at hk]; split
  · exact rotL_length
  · rfl
theorem hasByte_iff {n : Nat} {i a : Int} : hasByte n i a = true ↔ 0 ≤ i ∧ i < (n : Int) ∧ 0 ≤ a ∧ a < 128 := by
  unfold hasByte; simp only [Bool.and_eq_true, decide_eq_true_eq, and_assoc]
/-- Twice: as it was. -/
theorem rot_twice (hk : k < S.ds.length) (h3 : ∀ s ∈ (S.at k).st, s.length = 128) : (((S.rot k i a x).rot k i a x).at k).st = (S.at k).st := by
  rw [rot_at (by rw [rot_len]; exact hk), rot_at_len hk, rot_at hk]
  by_cases h : hasByte (S.at k).st.length i a = true
  · rw [if_pos h, if_pos h]
    have := hasByte_iff.1 h
    exact rotL_back _ _ _ _ (by omega) (by rw [getD_ok h3]; omega)
  · rw [if_neg h, if_neg h]
/-- What stands at a place behind it. -/
theorem rot_byte (hk : k < S.ds.length) (h3 : ∀ s ∈ (S.at k).st, s.length = 128) {u v : Nat} (hu : u < (S.at k).st.length) (hv : v < 128) :
    ((((S.rot k i a x).at k).st.getD u zeroS).getD v 0) = if hasByte (S.at k).st.length i a = true ∧ (u : Int) = i ∧ (v : Int) = a then ((S.at k).st.getD u zeroS).getD v 0 ^^^ x else ((S.at k).st.getD u zeroS).getD v 0 := by
  rw [rot_at hk]
  by_cases h : hasByte (S.at k).st.length i a = true
  · have hb := hasByte_iff.1 h
    rw [if_pos h, rotL_get hu]
    by_cases h1 : u = i.toNat
    · rw [if_pos h1, rotS_get (by rw [getD_ok h3]; exact hv)]
      by_cases h2 : v = a.toNat
      · rw [if_pos h2, if_pos ⟨h, by omega, by omega⟩]
      · rw [if_neg h2, if_neg (fun e => h2 (by omega))]
    · rw [if_neg h1, if_neg (fun e => h1 (by omega))]
  · rw [if_neg h, if_neg (fun e => h e.1)]
end Go.Proofs.Ytolbffcbamfbeaa.Kd
