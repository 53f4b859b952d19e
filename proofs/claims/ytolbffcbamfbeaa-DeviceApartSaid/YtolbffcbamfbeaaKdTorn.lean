/-
  What a device shows whose power failed behind writes of unlike sectors. No program.
-/
import Derived.Test.YtolbffcbamfbeaaKdFine
namespace Go.Proofs.Ytolbffcbamfbeaa.Kd
/-- The writes of the first sectors, each full of its number and one. -/
def wr8 (n : Nat) : List (Nat × List UInt8) := (List.range' 0 n).map fun j => (j, secC (UInt8.ofNat (j + 1)))
def dev8 (k : Nat) (b : Int) (n : Nat) : Dv := ⟨List.replicate 12 zeroS, wr8 n, k, b, false, false⟩
/-- .. on power that fails behind so many operations. -/
def sys8 (l : Int) (k : Nat) (b : Int) (n : Nat) : Sy := ⟨⟨false, l⟩, [dev8 k b n]⟩
/-- .. and when it has failed. -/
def end8 (k : Nat) (b : Int) (n : Nat) : Sy := ⟨⟨true, -1⟩, [(dev8 k b n).fall]⟩
theorem wr8_snoc (n : Nat) : wr8 n ++ [(n, secC (UInt8.ofNat (n + 1)))] = wr8 (n + 1) := by
  unfold wr8; rw [List.range'_concat, List.map_append]; simp
theorem wr8_length (n : Nat) : (wr8 n).length = n := by simp [wr8]
theorem refuse8 {l : Int} {k : Nat} {b : Int} {n m : Nat} (hm : m < 12) : refuseN (sys8 l k b n).p ((sys8 l k b n).at 0) (m : Int) = 0 := by
  show (if (false || false) = true then (13 : Int) else if (m : Int) < 0 ∨ ((List.replicate 12 zeroS).length : Int) ≤ m then 2 else 0) = 0
  rw [if_neg (by simp), if_neg (by rw [List.length_replicate]; omega)]
theorem write8t {k : Nat} {b : Int} {n : Nat} (hn : n < 12) : (sys8 (-1) k b n).write 0 (n : Int) (secC (UInt8.ofNat (n + 1))) = (0, sys8 (-1) k b (n + 1)) := by
  rw [write_yes (refuse8 hn)]
  show (0, Sy.mk ⟨false, -1⟩ [⟨List.replicate 12 zeroS, wr8 n ++ [(n, secC (UInt8.ofNat (n + 1)))], k, b, false, false⟩]) = _
  rw [wr8_snoc]; rfl
theorem write80 {k : Nat} {b : Int} {n : Nat} (hn : n < 12) : (sys8 0 k b n).write 0 (n : Int) (secC (UInt8.ofNat (n + 1))) = (13, end8 k b (n + 1)) := by
  rw [write_yes (refuse8 hn)]
  show (13, Sy.mk ⟨true, -1⟩ [Dv.fall ⟨List.replicate 12 zeroS, wr8 n ++ [(n, secC (UInt8.ofNat (n + 1)))], k, b, false, false⟩]) = _
  rw [wr8_snoc]; rfl
theorem flush80 {k : Nat} {b : Int} {n : Nat} : (sys8 0 k b n).flush 0 = (13, end8 k b n) := rfl
theorem start8 {k : Nat} {b : Int} (hb : 0 ≤ b) : (S0.new 12).put 0 (((S0.new 12).at 0).tear (k : Int) b) = sys8 (-1) k (min b 128) 0 := by
  show Sy.mk ⟨false, -1⟩ [⟨List.replicate 12 zeroS, [], keptN k, bytesN b, false, false⟩] = _
  rw [show keptN (k : Int) = k by unfold keptN; omega, show bytesN b = min b 128 by unfold bytesN; omega]; rfl
theorem torn_get {b : Int} {s t : List UInt8} {j : Nat} (hs : s.length = 128) (_ : t.length = 128) (hj : j < 128) : (tornL b s t).getD j 0 = if (j : Int) < b then s.getD j 0 else t.getD j 0 := by
  unfold tornL
  rw [List.getD_eq_getElem?_getD, List.getD_eq_getElem?_getD, List.getD_eq_getElem?_getD]
  by_cases h : (j : Int) < b
  · rw [if_pos h, List.getElem?_append_left (by rw [List.length_take]; omega), List.getElem?_take, if_pos (by omega)]
  · rw [if_neg h, List.getElem?_append_right (by rw [List.length_take]; omega), List.getElem?_drop, List.length_take]
    congr 2; omega
theorem sec_get {c : UInt8} {j : Nat} (hj : j < 128) : (secC c).getD j 0 = c := by
  unfold secC; rw [List.getD_eq_getElem?_getD, List.getElem?_replicate, if_pos hj]; rfl
theorem zero_get {j : Nat} (hj : j < 128) : zeroS.getD j 0 = 0 := by
  unfold zeroS; rw [List.getD_eq_getElem?_getD, List.getElem?_replicate, if_pos hj]; rfl
theorem end8_st (k : Nat) (b : Int) (n : Nat) : ((end8 k b n).at 0).st = fallL k b 0 (wr8 n) (List.replicate 12 zeroS) := rfl
theorem end8_len (k : Nat) (b : Int) (n : Nat) : ((end8 k b n).at 0).st.length = 12 := by rw [end8_st, fall_length, List.length_replicate]
/-- What stands at a place. -/
theorem end8_get {k n i j : Nat} {b : Int} (hn : n ≤ 12) (hi : i < 12) (hj : j < 128) : (((end8 k b n).at 0).st.getD i zeroS).getD j 0 = if i < n ∧ (i < k ∨ i = k ∧ (j : Int) < b) then UInt8.ofNat (i + 1) else 0 := by
  have hz : (List.replicate 12 zeroS).getD i zeroS = zeroS := by rw [List.getD_eq_getElem?_getD, List.getElem?_replicate, if_pos hi]; rfl
  have h := fall_run k b (fun j => secC (UInt8.ofNat (j + 1))) n 0 (List.replicate 12 zeroS) (by rw [List.length_replicate]; omega) i (by rw [List.length_replicate]; exact hi)
  rw [end8_st, show fallL k b 0 (wr8 n) (List.replicate 12 zeroS) = fallL k b 0 ((List.range' 0 n).map fun j => (j, secC (UInt8.ofNat (j + 1)))) (List.replicate 12 zeroS) from rfl, h, hz]
  by_cases h1 : i < n
  · rw [if_pos ⟨by omega, by omega⟩]
    by_cases h2 : i < k
    · rw [if_pos (by omega), if_pos ⟨h1, .inl h2⟩, sec_get hj]
    · rw [if_neg (by omega)]
      by_cases h3 : i = k
      · rw [if_pos (by omega), torn_get (secC_length _) zeroS_length hj, sec_get hj, zero_get hj]
        by_cases h4 : (j : Int) < b
        · rw [if_pos h4, if_pos ⟨h1, .inr ⟨h3, h4⟩⟩]
        · rw [if_neg h4, if_neg (by rintro ⟨_, h | ⟨_, h⟩⟩ <;> omega)]
      · rw [if_neg (by omega), zero_get hj, if_neg (by rintro ⟨_, h | ⟨h, _⟩⟩ <;> omega)]
  · rw [if_neg (by omega), zero_get hj, if_neg (by rintro ⟨h, _⟩; omega)]
theorem end8_secs (k : Nat) (b : Int) (hb : 0 ≤ b ∧ b ≤ 128) (n : Nat) : ∀ s ∈ ((end8 k b n).at 0).st, s.length = 128 := by
  rw [end8_st]
  exact fall_ok _ _ _ _ _ hb (fun s hs => by rw [List.eq_of_mem_replicate hs]; exact zeroS_length) (fun x hx => by
    obtain ⟨j, _, rfl⟩ := List.mem_map.1 hx; exact secC_length _)
/-- The cell of a byte of a row of sectors. -/
theorem svs_byte {l : List (List UInt8)} (h : ∀ x ∈ l, x.length = 128) {i j : Nat} (hi : i < l.length) (hj : j < 128) : (svs l)[128 * i + j]? = some (.int .u8 (((l.getD i zeroS).getD j 0).toNat : Int)) := by
  have hl : (l[i]).length = 128 := h _ (List.getElem_mem hi)
  refine svs_get h hi ?_
  have h1 : l.getD i zeroS = l[i] := by rw [List.getD_eq_getElem?_getD, List.getElem?_eq_getElem hi]; rfl
  rw [h1, bv, List.getElem?_map, List.getElem?_eq_getElem (by omega), List.getD_eq_getElem?_getD, List.getElem?_eq_getElem (by omega)]; rfl
end Go.Proofs.Ytolbffcbamfbeaa.Kd
