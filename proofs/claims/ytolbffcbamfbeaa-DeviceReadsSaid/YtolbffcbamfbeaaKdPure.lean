/-
  Layer 8, pure: devices, what waits, power, as the document says. No program.
-/
import Derived.ProofKit
namespace Go.Proofs.Ytolbffcbamfbeaa.Kd
/-- A device: stable sectors, the writes that wait, what it was told. -/
structure Dv where
  st : List (List UInt8)
  wt : List (Nat × List UInt8)
  kept : Int
  bytes : Int
  lies : Bool
  gone : Bool
/-- Power: is it off; behind how many operations it fails. -/
structure Pw where
  off : Bool
  left : Int
def zeroS : List UInt8 := List.replicate 128 0
def nowL (st : List (List UInt8)) (ws : List (Nat × List UInt8)) (n : Nat) : List UInt8 := ws.foldl (fun s w => if w.1 = n then w.2 else s) (st.getD n zeroS)
def flushL (st : List (List UInt8)) (ws : List (Nat × List UInt8)) : List (List UInt8) := ws.foldl (fun st w => st.set w.1 w.2) st
/-- A torn write. -/
def tornL (bytes : Int) (s t : List UInt8) : List UInt8 := s.take bytes.toNat ++ t.drop bytes.toNat
def fallL (kept bytes : Int) : Nat → List (Nat × List UInt8) → List (List UInt8) → List (List UInt8)
  | _, [], st => st
  | k, w :: ws, st => fallL kept bytes (k + 1) ws (if (k : Int) < kept then st.set w.1 w.2 else if (k : Int) = kept then st.set w.1 (tornL bytes w.2 (st.getD w.1 zeroS)) else st)
def Dv.fall (d : Dv) : Dv := if d.gone then d else { d with st := fallL d.kept d.bytes 0 d.wt d.st, wt := [] }
def Dv.now (d : Dv) (n : Nat) : List UInt8 := nowL d.st d.wt n
/-- An operation: does power fail at it? -/
def Pw.fails (p : Pw) : Bool := decide (0 ≤ p.left) && decide (p.left - 1 < 0)
def Pw.step (p : Pw) : Pw := if p.left < 0 then p else ⟨decide (p.left - 1 < 0), p.left - 1⟩
/-- May an operation at a sector be done? 13: down; 2: no such one. -/
def refuseN (p : Pw) (d : Dv) (n : Int) : Int := if p.off || d.gone then 13 else if n < 0 ∨ (d.st.length : Int) ≤ n then 2 else 0
/-- All of a power's devices. -/
structure Sy where
  p : Pw
  ds : List Dv
def Sy.count (S : Sy) : Sy := if S.p.fails then ⟨S.p.step, S.ds.map Dv.fall⟩ else ⟨S.p.step, S.ds⟩
def Sy.put (S : Sy) (i : Nat) (d : Dv) : Sy := ⟨S.p, S.ds.set i d⟩
def noDv : Dv := ⟨[], [], 0, 0, false, false⟩
def Sy.at (S : Sy) (i : Nat) : Dv := S.ds.getD i noDv
def Sy.write (S : Sy) (i : Nat) (n : Int) (s : List UInt8) : Int × Sy :=
  let d := S.at i
  if refuseN S.p d n ≠ 0 then (refuseN S.p d n, S)
  else (if S.p.fails then 13 else 0, (S.put i { d with wt := d.wt ++ [(n.toNat, s)] }).count)
def Sy.flush (S : Sy) (i : Nat) : Int × Sy :=
  let d := S.at i
  if S.p.off || d.gone then (13, S)
  else if S.p.fails then (13, S.count)
  else (0, if d.lies then S.count else S.count.put i { d with st := flushL d.st d.wt, wt := [] })
def Sy.read (S : Sy) (i : Nat) (n : Int) : Int × List UInt8 :=
  let d := S.at i
  if refuseN S.p d n ≠ 0 then (refuseN S.p d n, zeroS) else (0, d.now n.toNat)

/-! ### What is read -/
theorem now_snoc (st : List (List UInt8)) (ws : List (Nat × List UInt8)) (m : Nat) (s : List UInt8) (n : Nat) : nowL st (ws ++ [(m, s)]) n = if m = n then s else nowL st ws n := by
  rw [nowL, List.foldl_append]; rfl
theorem set_getD (st : List (List UInt8)) (m k : Nat) (s : List UInt8) (hk : k < st.length) : (st.set m s).getD k zeroS = if m = k then s else st.getD k zeroS := by
  rw [List.getD_eq_getElem?_getD, List.getD_eq_getElem?_getD, List.getElem?_set]
  split
  · rename_i h; subst h; simp [hk]
  · rfl
theorem flush_length : ∀ (ws : List (Nat × List UInt8)) (st : List (List UInt8)), (flushL st ws).length = st.length
  | [], _ => rfl
  | w :: ws, st => by rw [flushL, List.foldl_cons]; exact (flush_length ws (st.set w.1 w.2)).trans (by simp)
theorem now_cons (st : List (List UInt8)) (w : Nat × List UInt8) (ws : List (Nat × List UInt8)) (k : Nat) (hk : k < st.length) : nowL st (w :: ws) k = nowL (st.set w.1 w.2) ws k := by
  rw [nowL, List.foldl_cons, nowL, set_getD _ _ _ _ hk]
/-- What is flushed is what was read. -/
theorem flush_get : ∀ (ws : List (Nat × List UInt8)) (st : List (List UInt8)) (k : Nat), k < st.length → (flushL st ws).getD k zeroS = nowL st ws k
  | [], _, _, _ => rfl
  | w :: ws, st, k, hk => by
    rw [now_cons st w ws k hk]
    exact flush_get ws (st.set w.1 w.2) k (by simpa using hk)
theorem flush_nil (st : List (List UInt8)) (k : Nat) : nowL st [] k = st.getD k zeroS := rfl
theorem flush_now (st : List (List UInt8)) (ws : List (Nat × List UInt8)) : flushL st ws = (List.range st.length).map (nowL st ws) := by
  apply List.ext_getElem?
  intro k
  by_cases hk : k < st.length
  · have h := flush_get ws st k hk
    have hl : k < (flushL st ws).length := by rw [flush_length]; exact hk
    rw [List.getD_eq_getElem?_getD, List.getElem?_eq_getElem hl] at h
    rw [List.getElem?_eq_getElem hl, List.getElem?_map, List.getElem?_range hk]
    exact congrArg some h
  · rw [List.getElem?_eq_none (by rw [flush_length]; omega), List.getElem?_eq_none (by simp; omega)]
theorem fall_length : ∀ (kept bytes : Int) (ws : List (Nat × List UInt8)) (k : Nat) (st : List (List UInt8)), (fallL kept bytes k ws st).length = st.length
  | _, _, [], _, _ => rfl
  | kept, bytes, w :: ws, k, st => by
    rw [fallL, fall_length kept bytes ws]
    split
    · simp
    · split
      · simp
      · rfl
/-- All of a device's sectors are sectors. -/
structure Dv.ok (d : Dv) : Prop where
  st : ∀ s ∈ d.st, s.length = 128
  wt : ∀ w ∈ d.wt, w.1 < d.st.length ∧ w.2.length = 128
  kept : 0 ≤ d.kept
  bytes : 0 ≤ d.bytes ∧ d.bytes ≤ 128
  len : d.st.length ≤ 4096
theorem torn_length {bytes : Int} {s t : List UInt8} (hs : s.length = 128) (ht : t.length = 128) (hb : 0 ≤ bytes ∧ bytes ≤ 128) : (tornL bytes s t).length = 128 := by
  rw [tornL, List.length_append, List.length_take, List.length_drop]; omega
theorem zeroS_length : zeroS.length = 128 := by rw [zeroS, List.length_replicate]
theorem getD_ok {st : List (List UInt8)} (h : ∀ s ∈ st, s.length = 128) (k : Nat) : (st.getD k zeroS).length = 128 := by
  rw [List.getD_eq_getElem?_getD]
  by_cases hk : k < st.length
  · rw [List.getElem?_eq_getElem hk]; exact h _ (List.getElem_mem hk)
  · rw [List.getElem?_eq_none (by omega)]; exact zeroS_length
theorem set_ok {st : List (List UInt8)} {s : List UInt8} (h : ∀ s ∈ st, s.length = 128) (hs : s.length = 128) (k : Nat) : ∀ t ∈ st.set k s, t.length = 128 := fun t ht => by
  rcases List.mem_or_eq_of_mem_set ht with h1 | h1
  · exact h t h1
  · rw [h1]; exact hs
theorem now_ok : ∀ (ws : List (Nat × List UInt8)) (st : List (List UInt8)) (k : Nat), (∀ s ∈ st, s.length = 128) → (∀ w ∈ ws, w.2.length = 128) → (nowL st ws k).length = 128 := by
  intro ws st k h hw
  rw [nowL]
  have : ∀ (ws : List (Nat × List UInt8)) (s : List UInt8), s.length = 128 → (∀ w ∈ ws, w.2.length = 128) → (ws.foldl (fun s w => if w.1 = k then w.2 else s) s).length = 128 := by
    intro ws
    induction ws with
    | nil => exact fun s hs _ => hs
    | cons w ws ih =>
      intro s hs hw
      rw [List.foldl_cons]
      refine ih _ ?_ (fun v hv => hw v (by simp [hv]))
      split
      · exact hw w (by simp)
      · exact hs
  exact this ws _ (getD_ok h k) hw
theorem flush_ok : ∀ (ws : List (Nat × List UInt8)) (st : List (List UInt8)), (∀ s ∈ st, s.length = 128) → (∀ w ∈ ws, w.2.length = 128) → ∀ s ∈ flushL st ws, s.length = 128
  | [], _, h, _ => h
  | w :: ws, st, h, hw => by
    have := flush_ok ws (st.set w.1 w.2) (set_ok h (hw w (by simp)) _) (fun v hv => hw v (by simp [hv]))
    exact this
theorem fall_ok : ∀ (kept bytes : Int) (ws : List (Nat × List UInt8)) (k : Nat) (st : List (List UInt8)), 0 ≤ bytes ∧ bytes ≤ 128 → (∀ s ∈ st, s.length = 128) → (∀ w ∈ ws, w.2.length = 128) → ∀ s ∈ fallL kept bytes k ws st, s.length = 128
  | _, _, [], _, _, _, h, _ => h
  | kept, bytes, w :: ws, k, st, hb, h, hw => by
    rw [fallL]
    refine fall_ok kept bytes ws (k + 1) _ hb ?_ (fun v hv => hw v (by simp [hv]))
    split
    · exact set_ok h (hw w (by simp)) _
    · split
      · exact set_ok h (torn_length (hw w (by simp)) (getD_ok h _) hb) _
      · exact h
/-- Writes of the sectors k, k + 1 .. as they wait, torn. -/
theorem fall_run (kept bytes : Int) (f : Nat → List UInt8) : ∀ (n k : Nat) (st : List (List UInt8)), k + n ≤ st.length → ∀ i, i < st.length →
    (fallL kept bytes k ((List.range' k n).map fun j => (j, f j)) st).getD i zeroS = if k ≤ i ∧ i < k + n then (if (i : Int) < kept then f i else if (i : Int) = kept then tornL bytes (f i) (st.getD i zeroS) else st.getD i zeroS) else st.getD i zeroS
  | 0, k, st, _, i, _ => by
    rw [if_neg (by omega)]; rfl
  | n + 1, k, st, hl, i, hi => by
    rw [List.range'_succ, List.map_cons, fallL]
    obtain ⟨t, ht⟩ : ∃ t, t = (if (k : Int) < kept then st.set k (f k) else if (k : Int) = kept then st.set k (tornL bytes (f k) (st.getD k zeroS)) else st) := ⟨_, rfl⟩
    have htl : t.length = st.length := by rw [ht]; split <;> (try split) <;> simp
    have hg : ∀ j, j < st.length → j ≠ k → t.getD j zeroS = st.getD j zeroS := fun j hj hne => by
      rw [ht]
      split
      · rw [set_getD _ _ _ _ hj, if_neg (by omega)]
      · split
        · rw [set_getD _ _ _ _ hj, if_neg (by omega)]
        · rfl
    have h := fall_run kept bytes f n (k + 1) t (by omega) i (by omega)
    show (fallL kept bytes (k + 1) ((List.range' (k + 1) n).map fun j => (j, f j)) (if (k : Int) < kept then st.set k (f k) else if (k : Int) = kept then st.set k (tornL bytes (f k) (st.getD k zeroS)) else st)).getD i zeroS = _
    rw [← ht, h]
    by_cases hik : i = k
    · subst hik
      rw [if_neg (show ¬ (i + 1 ≤ i ∧ i < i + 1 + n) by omega), if_pos (show i ≤ i ∧ i < i + (n + 1) by omega), ht]
      split
      · rw [set_getD _ _ _ _ hi, if_pos rfl]
      · split
        · rw [set_getD _ _ _ _ hi, if_pos rfl]
        · rfl
    · rw [hg i hi hik]
      by_cases h1 : k + 1 ≤ i ∧ i < k + 1 + n
      · rw [if_pos h1, if_pos (show k ≤ i ∧ i < k + (n + 1) by omega)]
      · rw [if_neg h1, if_neg (show ¬ (k ≤ i ∧ i < k + (n + 1)) by omega)]
end Go.Proofs.Ytolbffcbamfbeaa.Kd
