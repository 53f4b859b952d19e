/-
  Texts of this seat, one behind the other: PkPure, PkBods, PkPut, PkCells, PkFill, PkRFill, PkOpen, PkROpen, PkSame, PkAwake, PkMore.
-/
import Derived.Laws.OwnMore
import Derived.Deep.Cut
import Derived.Deep.RegionHeld
import Derived.Test.YthdmdlnndbjcoaaCa4
/-
  Cells in bodies, purely: how they are filled, in which each is, and what a body tells.
-/
namespace Go.Proofs.Ythdmdlnndbjcoaa.Pk
open Go.RowKit
section
variable {α : Type} (enc : α → List UInt8)
/-- The bytes of some, one behind the other. -/
def encs : List α → List UInt8
  | [] => []
  | x :: l => enc x ++ encs l
theorem encs_append (a b : List α) : encs enc (a ++ b) = encs enc a ++ encs enc b := by
  induction a with
  | nil => rfl
  | cons x l ih => simp [encs, ih]
theorem encs_one (x : α) : encs enc [x] = enc x := by simp [encs]
/-- One more is put into the last one, or begins a new one. -/
def putS (ss : List (List α)) (x : α) : List (List α) :=
  if ss.length = 0 ∨ 103 < (encs enc (ss.getD (ss.length - 1) [])).length + (enc x).length then ss ++ [[x]] else ss.set (ss.length - 1) (ss.getD (ss.length - 1) [] ++ [x])
def segs (l : List α) : List (List α) := l.foldl (putS enc) []
theorem segs_nil : segs enc [] = [] := rfl
theorem segs_snoc (l : List α) (x : α) : segs enc (l ++ [x]) = putS enc (segs enc l) x := by simp [segs, List.foldl_append]
def putB (bs : List (List UInt8)) (b : List UInt8) : List (List UInt8) :=
  if bs.length = 0 ∨ 103 < (bs.getD (bs.length - 1) []).length + b.length then bs ++ [b] else bs.set (bs.length - 1) (bs.getD (bs.length - 1) [] ++ b)
/-- The bodies. -/
def fillB (l : List α) : List (List UInt8) := (segs enc l).map (encs enc)
/-- Of each the number of its body. -/
def inB (l : List α) : List Nat := (List.range l.length).map fun i => (segs enc (l.take (i + 1))).length - 1
theorem snoc_of {β : Type} {l : List β} (h : l.length ≠ 0) : ∃ a x, l = a ++ [x] := ⟨l.dropLast, l.getLast (by intro e; rw [e] at h; exact h rfl), (List.dropLast_concat_getLast _).symm⟩
theorem snoc_last {β : Type} (a : List β) (x d : β) : (a ++ [x]).getD ((a ++ [x]).length - 1) d = x := by simp
theorem snoc_set {β : Type} (a : List β) (x y : β) : (a ++ [x]).set ((a ++ [x]).length - 1) y = a ++ [y] := by simp
theorem map_last (ss : List (List α)) : (ss.map (encs enc)).getD ((ss.map (encs enc)).length - 1) [] = encs enc (ss.getD (ss.length - 1) []) := by
  by_cases h : ss.length = 0
  · rw [List.length_eq_zero_iff.1 h]; rfl
  · obtain ⟨a, x, rfl⟩ := snoc_of h
    rw [List.map_append, List.map_cons, List.map_nil, snoc_last, snoc_last]
theorem fill_snoc (l : List α) (x : α) : fillB enc (l ++ [x]) = putB (fillB enc l) (enc x) := by
  unfold fillB
  rw [segs_snoc, putS, putB, map_last, List.length_map]
  split
  · simp [encs]
  · rename_i h
    obtain ⟨a, y, he⟩ := snoc_of (l := segs enc l) (by omega)
    rw [he, snoc_set, snoc_last]
    simp only [List.map_append, List.map_cons, List.map_nil, encs_append, encs_one]
    simp
theorem fill_length (l : List α) : (fillB enc l).length = (segs enc l).length := by simp [fillB]
theorem in_length (l : List α) : (inB enc l).length = l.length := by simp [inB]
theorem in_snoc (l : List α) (x : α) : inB enc (l ++ [x]) = inB enc l ++ [(fillB enc (l ++ [x])).length - 1] := by
  unfold inB
  rw [List.length_append, List.length_singleton, List.range_succ, List.map_append, fill_length]
  congr 1
  · apply List.map_congr_left
    intro i hi
    rw [List.take_append_of_le_length (by have := List.mem_range.1 hi; omega)]
  · rw [List.map_cons, List.map_nil, List.take_of_length_le (by simp)]
/-- What holds of the bodies of l. -/
structure SegOk (l : List α) (ss : List (List α)) : Prop where
  flat : ss.flatten = l
  ne : ∀ s ∈ ss, s ≠ []
  le : ∀ s ∈ ss, (encs enc s).length ≤ 103
  gap : ∀ i s x t, ss[i]? = some s → ss[i + 1]? = some (x :: t) → 103 < (encs enc s).length + (enc x).length
theorem flat_count {ss : List (List α)} (h : ∀ s ∈ ss, s ≠ []) : ss.length ≤ ss.flatten.length := by
  induction ss with
  | nil => simp
  | cons s ss ih =>
    have h1 := ih (fun t ht => h t (by simp [ht]))
    have h2 : 0 < s.length := List.length_pos_iff.2 (h s (by simp))
    simp only [List.length_cons, List.flatten_cons, List.length_append]; omega
theorem SegOk.count {l : List α} {ss : List (List α)} (h : SegOk enc l ss) : ss.length ≤ l.length := by rw [← h.flat]; exact flat_count h.ne
theorem get_snoc {β : Type} {a : List β} {x s : β} {i : Nat} (h : (a ++ [x])[i]? = some s) : a[i]? = some s ∨ (i = a.length ∧ s = x) := by
  rcases Nat.lt_trichotomy i a.length with h1 | h1 | h1
  · rw [List.getElem?_append_left h1] at h; exact .inl h
  · subst h1; simp at h; exact .inr ⟨rfl, h.symm⟩
  · rw [List.getElem?_append_right (by omega), List.getElem?_eq_none (by simp; omega)] at h; cases h
theorem segOk_put {l : List α} {ss : List (List α)} {x : α} (hx : (enc x).length ≤ 103) (h : SegOk enc l ss) : SegOk enc (l ++ [x]) (putS enc ss x) := by
  unfold putS
  split
  · rename_i hc
    refine ⟨by simp [h.flat], fun s hs => ?_, fun s hs => ?_, fun i s y t h1 h2 => ?_⟩
    · rcases List.mem_append.1 hs with hs | hs
      · exact h.ne s hs
      · rw [List.mem_singleton] at hs; rw [hs]; simp
    · rcases List.mem_append.1 hs with hs | hs
      · exact h.le s hs
      · rw [List.mem_singleton] at hs; rw [hs, encs_one]; exact hx
    · rcases get_snoc h2 with h2 | ⟨h2, h3⟩
      · have : i < ss.length := by have := (List.getElem?_eq_some_iff.1 h2).1; omega
        rw [List.getElem?_append_left this] at h1
        exact h.gap i s y t h1 h2
      · injection h3 with h3 _; subst h3
        rw [List.getElem?_append_left (by omega)] at h1
        rcases hc with hc | hc
        · omega
        · have : ss.getD (ss.length - 1) [] = s := by rw [show ss.length - 1 = i by omega, List.getD_eq_getElem?_getD, h1]; rfl
          rw [this] at hc; exact hc
  · rename_i hc
    obtain ⟨a, z, rfl⟩ := snoc_of (l := ss) (by omega)
    rw [snoc_last] at hc
    rw [snoc_set, snoc_last]
    refine ⟨by rw [← h.flat]; simp, fun s hs => ?_, fun s hs => ?_, fun i s y t h1 h2 => ?_⟩
    · rcases List.mem_append.1 hs with hs | hs
      · exact h.ne s (by simp [hs])
      · rw [List.mem_singleton] at hs; rw [hs]; simp
    · rcases List.mem_append.1 hs with hs | hs
      · exact h.le s (by simp [hs])
      · rw [List.mem_singleton] at hs; rw [hs, encs_append, encs_one, List.length_append]; omega
    · have hi : i < a.length := by have := (List.getElem?_eq_some_iff.1 h2).1; simp at this; omega
      rw [List.getElem?_append_left hi] at h1
      have hg := h.gap i s
      rw [List.getElem?_append_left hi] at hg
      rcases get_snoc h2 with h2 | ⟨h6, h3⟩
      · have h4 : i + 1 < a.length := (List.getElem?_eq_some_iff.1 h2).1
        exact hg y t h1 (by rw [List.getElem?_append_left h4]; exact h2)
      · have hz := h.ne z (by simp)
        obtain ⟨u, v, rfl⟩ := List.exists_cons_of_ne_nil hz
        injection h3 with h3 _; subst h3
        exact hg y v h1 (by rw [h6]; simp)
theorem segOk_all {l : List α} (h : ∀ x ∈ l, (enc x).length ≤ 103) : SegOk enc l (segs enc l) := by
  have H : ∀ n, n ≤ l.length → SegOk enc (l.take n) (segs enc (l.take n)) := by
    intro n
    induction n with
    | zero => exact fun _ => ⟨rfl, fun s hs => by simp [segs] at hs, fun s hs => by simp [segs] at hs, fun i s x t h1 => by simp [segs] at h1⟩
    | succ n ih =>
      intro hn
      rw [List.take_succ_eq_append_getElem (by omega), segs_snoc]
      exact segOk_put enc (h _ (List.getElem_mem _)) (ih (by omega))
  have := H l.length (Nat.le_refl _)
  rwa [List.take_length] at this
theorem encs_take (l : List α) (m : Nat) : (encs enc l).take (encs enc (l.take m)).length = encs enc (l.take m) := by
  have h : encs enc l = encs enc (l.take m) ++ encs enc (l.drop m) := by rw [← encs_append, List.take_append_drop]
  rw [h, List.take_left]
theorem encs_step (l : List α) {m : Nat} (h : m < l.length) : encs enc (l.take (m + 1)) = encs enc (l.take m) ++ enc l[m] := by
  rw [List.take_succ_eq_append_getElem h, encs_append, encs_one]
theorem encs_cut (l : List α) {m k : Nat} (h : m < l.length) (h1 : (encs enc (l.take m)).length ≤ k) (h2 : k ≤ (encs enc (l.take (m + 1))).length) :
    (encs enc l).take k = encs enc (l.take m) ++ (enc l[m]).take (k - (encs enc (l.take m)).length) := by
  have e : (encs enc l).take k = (encs enc (l.take (m + 1))).take k := by
    rw [← encs_take enc l (m + 1), List.take_take, Nat.min_eq_left h2]
  rw [e, encs_step enc l h, List.take_append, List.take_of_length_le h1]
/-- The first body is that of the first ones. -/
theorem SegOk.first {l : List α} {ss : List (List α)} (h : SegOk enc l ss) {s : List α} (h0 : ss[0]? = some s) : s = l.take s.length ∧ s.length ≤ l.length := by
  cases ss with
  | nil => simp at h0
  | cons t ss =>
    simp at h0; subst h0
    have := h.flat
    rw [List.flatten_cons] at this
    rw [← this]; simp
theorem flat_take {ss : List (List α)} {i : Nat} {s : List α} (h : ss[i]? = some s) : (ss.take (i + 1)).flatten = (ss.take i).flatten ++ s := by
  obtain ⟨hi, rfl⟩ := List.getElem?_eq_some_iff.1 h
  rw [List.take_succ_eq_append_getElem hi, List.flatten_append]; simp
/-- More of ss' than of ss: only the last one of ss may have more there. -/
def Ext (ss ss' : List (List α)) : Prop := ss.length ≤ ss'.length ∧ (∀ i s, ss[i]? = some s → ∃ t, ss'[i]? = some (s ++ t) ∧ (i + 1 < ss.length → t = []))
theorem ext_refl (ss : List (List α)) : Ext ss ss := ⟨Nat.le_refl _, fun i s h => ⟨[], by simp [h], fun _ => rfl⟩⟩
theorem ext_put {ss ss' : List (List α)} {x : α} (h : Ext ss ss') : Ext ss (putS enc ss' x) := by
  obtain ⟨h1, h2⟩ := h
  unfold putS
  split
  · refine ⟨by simp; omega, fun i s hs => ?_⟩
    obtain ⟨t, h3, h4⟩ := h2 i s hs
    exact ⟨t, by rw [List.getElem?_append_left (List.getElem?_eq_some_iff.1 h3).1]; exact h3, h4⟩
  · rename_i hc
    obtain ⟨a, z, rfl⟩ := snoc_of (l := ss') (by omega)
    rw [snoc_set, snoc_last]
    refine ⟨by simpa using h1, fun i s hs => ?_⟩
    obtain ⟨t, h3, h4⟩ := h2 i s hs
    rcases get_snoc h3 with h5 | ⟨h5, h6⟩
    · exact ⟨t, by rw [List.getElem?_append_left (List.getElem?_eq_some_iff.1 h5).1]; exact h5, h4⟩
    · refine ⟨t ++ [x], by rw [h5, ← h6]; simp, fun h7 => ?_⟩
      simp at h1; omega
theorem ext_segs (a b : List α) : Ext (segs enc a) (segs enc (a ++ b)) := by
  have H : ∀ n, n ≤ b.length → Ext (segs enc a) (segs enc (a ++ b.take n)) := by
    intro n
    induction n with
    | zero => exact fun _ => by simpa using ext_refl _
    | succ n ih =>
      intro hn
      rw [List.take_succ_eq_append_getElem (by omega), ← List.append_assoc, segs_snoc]
      exact ext_put enc (ih (by omega))
  have := H b.length (Nat.le_refl _)
  rwa [List.take_length] at this
/-- In which body each is. -/
theorem in_at (l : List α) : ∀ i s k, (segs enc l)[i]? = some s → k < s.length → (inB enc l)[((segs enc l).take i).flatten.length + k]? = some i := by
  have H : ∀ n, n ≤ l.length → (segs enc (l.take n)).flatten.length = n ∧ ∀ i s k, (segs enc (l.take n))[i]? = some s → k < s.length → (inB enc (l.take n))[((segs enc (l.take n)).take i).flatten.length + k]? = some i := by
    intro n
    induction n with
    | zero => exact fun _ => ⟨rfl, fun i s k h => by simp [segs] at h⟩
    | succ n ih =>
      intro hn
      obtain ⟨ih1, ih⟩ := ih (by omega)
      have hL : (l.take n).length = n := by rw [List.length_take]; omega
      rw [List.take_succ_eq_append_getElem (by omega), in_snoc, fill_length, segs_snoc]
      generalize l[n] = x
      have hIL := in_length enc (l.take n)
      rw [hL] at hIL
      generalize segs enc (l.take n) = ss at ih ih1 ⊢
      generalize inB enc (l.take n) = I at ih hIL ⊢
      have new : ∀ k, (I ++ [k])[n]? = some k := fun k => by rw [← hIL]; simp
      have old : ∀ m u k, I[m]? = some u → (I ++ [k])[m]? = some u := fun m u k h => by rw [List.getElem?_append_left (List.getElem?_eq_some_iff.1 h).1]; exact h
      unfold putS
      split
      · refine ⟨by simp [ih1], fun i s k h1 h2 => ?_⟩
        rcases get_snoc h1 with h3 | ⟨h3, h4⟩
        · have hi := (List.getElem?_eq_some_iff.1 h3).1
          rw [List.take_append_of_le_length (by omega)]
          exact old _ _ _ (ih i s k h3 h2)
        · subst h4; subst h3
          simp at h2; subst h2
          rw [List.take_left', ih1, Nat.add_zero, new]
          · simp
          · rfl
      · rename_i hc
        obtain ⟨a, z, rfl⟩ := snoc_of (l := ss) (by omega)
        rw [snoc_set, snoc_last]
        have ih1' := ih1
        simp at ih1
        refine ⟨by simp; omega, fun i s k h1 h2 => ?_⟩
        rcases get_snoc h1 with h3 | ⟨h3, h4⟩
        · have hi := (List.getElem?_eq_some_iff.1 h3).1
          have := ih i s k (by rw [List.getElem?_append_left hi]; exact h3) h2
          rw [List.take_append_of_le_length (by omega)] at this ⊢
          exact old _ _ _ this
        · subst h4; subst h3
          rw [List.take_left' rfl]
          by_cases h5 : k < z.length
          · have := ih a.length z k (by simp) h5
            rw [List.take_left' rfl] at this
            exact old _ _ _ this
          · have h6 : k = z.length := by simp at h2; omega
            subst h6
            rw [show a.flatten.length + z.length = n by simp; omega, new]
            simp
  have := (H l.length (Nat.le_refl _)).2
  rwa [List.take_length] at this
end
section
open Ce
/-- The cells of all these bytes, and whether they are such: in so many steps. -/
def openN : Nat → List UInt8 → List Cl × Bool
  | 0, _ => ([], true)
  | n + 1, b => if b = [] then ([], true) else if (decCl b).2.2 = 0 then (if (openN n (b.drop (decCl b).2.1)).2 then ((decCl b).1 :: (openN n (b.drop (decCl b).2.1)).1, true) else ([], false)) else ([], false)
def openL (b : List UInt8) : List Cl × Bool := if 103 < b.length then ([], false) else openN b.length b
theorem encCl_pos {x : Cl} (h : okCl x) : 7 ≤ (encCl x).length := by
  rw [encCl_length h]; unfold headN; omega
theorem openN_more {x : Cl} (ok : okCl x) {n : Nat} (r : List UInt8) : openN (n + 1) (encCl x ++ r) = if (openN n r).2 then (x :: (openN n r).1, true) else ([], false) := by
  have h1 := encCl_pos ok
  rw [openN, if_neg (by intro e; have := congrArg List.length e; rw [List.length_append, List.length_nil] at this; omega), dec_enc ok r, if_pos rfl, List.drop_left]
theorem openN_yes {l : List Cl} (h : ∀ x ∈ l, okCl x) : ∀ {n : Nat}, (encs encCl l).length ≤ n → openN n (encs encCl l) = (l, true) := by
  induction l with
  | nil => intro n _; cases n <;> rfl
  | cons x l ih =>
    intro n hn
    have hx := h x (by simp)
    have h1 := encCl_pos hx
    rw [encs, List.length_append] at hn
    obtain ⟨m, rfl⟩ : ∃ m, n = m + 1 := ⟨n - 1, by omega⟩
    rw [encs, openN_more hx, ih (fun y hy => h y (by simp [hy])) (by omega), if_pos rfl]
theorem openN_no {r : List UInt8} (hr : r ≠ []) (hd : (decCl r).2.2 ≠ 0) {l : List Cl} (h : ∀ x ∈ l, okCl x) : ∀ {n : Nat}, (encs encCl l ++ r).length ≤ n → openN n (encs encCl l ++ r) = ([], false) := by
  induction l with
  | nil =>
    intro n hn
    have h1 := List.length_pos_iff.2 hr
    obtain ⟨m, rfl⟩ : ∃ m, n = m + 1 := ⟨n - 1, by simp [encs] at hn; omega⟩
    rw [encs, List.nil_append, openN, if_neg hr, if_neg hd]
  | cons x l ih =>
    intro n hn
    have hx := h x (by simp)
    have h1 := encCl_pos hx
    simp only [encs, List.length_append] at hn
    obtain ⟨m, rfl⟩ : ∃ m, n = m + 1 := ⟨n - 1, by omega⟩
    rw [encs, List.append_assoc, openN_more hx, ih (fun y hy => h y (by simp [hy])) (by rw [List.length_append]; omega), if_neg (by simp)]
theorem open_long {b : List UInt8} (h : 103 < b.length) : openL b = ([], false) := if_pos h
theorem open_yes {l : List Cl} (h : ∀ x ∈ l, okCl x) (hb : (encs encCl l).length ≤ 103) : openL (encs encCl l) = (l, true) := by
  rw [openL, if_neg (by omega), openN_yes h (Nat.le_refl _)]
theorem open_no {r : List UInt8} (hr : r ≠ []) (hd : (decCl r).2.2 ≠ 0) {l : List Cl} (h : ∀ x ∈ l, okCl x) : openL (encs encCl l ++ r) = ([], false) := by
  unfold openL
  split
  · rfl
  · exact openN_no hr hd h (Nat.le_refl _)
end
end Go.Proofs.Ythdmdlnndbjcoaa.Pk
/-
  A row of rows of bytes, all of them a call's own, each in a block of its own.
-/
namespace Go.Proofs.Ythdmdlnndbjcoaa.Pk
open Go.RowKit Ce
/-- One of its rows: where it lies, how much room there is, its bytes. -/
structure Eb where
  A : Option Addr
  c : Nat
  b : List UInt8
def Eb.v (e : Eb) : Value := .slice e.A e.b.length e.c
def ebv (l : List Eb) : List Value := l.map Eb.v
def ebb (l : List Eb) : List (List UInt8) := l.map Eb.b
theorem ebv_length (l : List Eb) : (ebv l).length = l.length := by simp [ebv]
theorem ebb_length (l : List Eb) : (ebb l).length = l.length := by simp [ebb]
theorem ebv_get {l : List Eb} {i : Nat} {e : Eb} (h : l[i]? = some e) : (ebv l)[i]? = some e.v := by rw [ebv, List.getElem?_map, h]; rfl
theorem ebb_getD {l : List Eb} {i : Nat} {e : Eb} (h : l[i]? = some e) : (ebb l).getD i [] = e.b := by rw [ebb, List.getD_eq_getElem?_getD, List.getElem?_map, h]; rfl
theorem ebv_one (l : List Eb) : ∀ u ∈ ebv l, u.oneCell' = true := by
  intro u hu
  obtain ⟨e, _, rfl⟩ := List.mem_map.1 hu
  rfl
structure Bods (w : World) (base : Nat) (v : Value) (n : Nat) (l : List Eb) : Prop where
  len : l.length = n
  own : w.ownsRow base 34 1 v n (ebv l)
  el : ∀ (i : Nat) (e : Eb), l[i]? = some e → w.ownsRow base 5 1 e.v e.b.length (bv e.b)
  ap : ∀ (i : Nat) (e : Eb) (k : Nat), l[i]? = some e → e.v.ownBlock = some k → v.ownBlock ≠ some k
  di : ∀ (i j : Nat) (e f : Eb) (k : Nat), l[i]? = some e → l[j]? = some f → e.v.ownBlock = some k → f.v.ownBlock = some k → i = j
/-- Its blocks. -/
def blks (v : Value) (l : List Eb) (k : Nat) : Prop := v.ownBlock = some k ∨ ∃ (i : Nat) (e : Eb), l[i]? = some e ∧ e.v.ownBlock = some k
section
variable {w w' w'' : World} {base n : Nat} {v : Value} {l : List Eb}
theorem Bods.nil : Bods w base (.slice none 0 0) 0 [] := ⟨rfl, World.ownsRow_nil _ _ _ _, fun i e h => by simp at h, fun i e k h => by simp at h, fun i j e f k h => by simp at h⟩
theorem blks_nil {k : Nat} : ¬ blks (.slice none 0 0) [] k := by
  rintro (h | ⟨i, e, h, _⟩)
  · cases h
  · simp at h
theorem Bods.lt (h : Bods w base v n l) {k : Nat} (hk : blks v l k) : base ≤ k ∧ k < w.heap.size := by
  rcases hk with hk | ⟨i, e, h1, h2⟩
  · exact h.own.lt k hk
  · exact (h.el i e h1).lt k h2
theorem Bods.but {S : Nat → Prop} (h : Bods w base v n l) (hb : But S w w') (hS : ∀ k, blks v l k → ¬ S k) : Bods w' base v n l :=
  ⟨h.len, Own.but h.own hb (fun k hk => hS k (.inl hk)), fun i e he => Own.but (h.el i e he) hb (fun k hk => hS k (.inr ⟨i, e, he, hk⟩)), h.ap, h.di⟩
theorem Bods.below (h : Bods w base v n l) (hb : Below w.heap.size w w') : Bods w' base v n l :=
  ⟨h.len, own_below h.own hb, fun i e he => own_below (h.el i e he) hb, h.ap, h.di⟩
theorem Bods.more {base' : Nat} (h : Bods w base v n l) (hb : base' ≤ base) : Bods w base' v n l := ⟨h.len, own_more h.own hb, fun i e he => own_more (h.el i e he) hb, h.ap, h.di⟩
theorem Bods.form (h : Bods w base v n l) : ∃ A c, v = .slice A n c ∧ n ≤ c ∧ c ≤ maxLen := by
  rcases h.own.2 with ⟨h1, h2⟩ | ⟨g, c, cur, h1, _, _, h2, h3, _⟩
  · subst h2; exact ⟨none, 0, h1, Nat.le_refl _, Nat.zero_le _⟩
  · exact ⟨_, c, h1, h2, h3⟩
theorem own_caps {w : World} {base n size c : Nat} {e : TypeId} {A : Option Addr} {xs : List Value} (h : w.ownsRow base e size (.slice A n c) n xs) : n ≤ c ∧ c ≤ maxLen := by
  rcases h.2 with ⟨h1, h2⟩ | ⟨g, c', cur, h1, _, _, h2, h3, _⟩
  · injection h1 with _ _ h4; subst h4; subst h2; exact ⟨Nat.le_refl _, Nat.zero_le _⟩
  · injection h1 with _ _ h4; subst h4; exact ⟨h2, h3⟩
theorem Bods.rdB {A : Option Addr} {c : Nat} (h : Bods w base (.slice A n c) n l) : RdB w.heap.size w A (ebb l) := by
  refine ⟨ebv l, by rw [ebv_length, ebb_length], Rd.own h.own, fun k v b h1 h2 => ?_⟩
  rw [ebv, List.getElem?_map] at h1
  rw [ebb, List.getElem?_map] at h2
  cases he : l[k]? with
  | none => rw [he] at h1; cases h1
  | some e =>
    rw [he] at h1 h2
    injection h1 with h1; injection h2 with h2
    subst h1; subst h2
    have ho := h.el k e he
    have hc := own_caps (A := e.A) (c := e.c) ho
    exact ⟨e.A, e.c, rfl, hc.1, hc.2, Rd.own ho⟩
/-- One more row, of a block of its own. -/
theorem Bods.push {v' : Value} {e : Eb} (h : Bods w base v n l) (he : w.ownsRow base 5 1 e.v e.b.length (bv e.b)) (hd : ∀ k, e.v.ownBlock = some k → ¬ blks v l k)
    (hg : w.grownBy w' v.ownBlock) (ho : w'.ownsRow base 34 1 v' (n + 1) (ebv l ++ [e.v])) (hv : v'.ownBlock = v.ownBlock ∨ v'.ownBlock = some w.heap.size) : Bods w' base v' (n + 1) (l ++ [e]) := by
  have hb : But (fun k => v.ownBlock = some k) w w' := (But.refl w).grown hg (fun k hk => .inl hk)
  have hel : ∀ (i : Nat) (f : Eb), l[i]? = some f → w'.ownsRow base 5 1 f.v f.b.length (bv f.b) := fun i f hf => Own.but (h.el i f hf) hb (fun k hk => h.ap i f k hf hk)
  have hvn : ∀ k, v'.ownBlock = some k → v.ownBlock = some k ∨ k = w.heap.size := fun k hk => by
    rcases hv with hv | hv
    · exact .inl (hv ▸ hk)
    · rw [hv] at hk; injection hk with hk; exact .inr hk.symm
  refine ⟨by rw [List.length_append, h.len]; rfl, by rw [ebv, List.map_append]; exact ho, fun i f hf => ?_, fun i f k hf hk => ?_, fun i j f g k hf hg' hk hk' => ?_⟩
  · rcases get_snoc hf with hf | ⟨_, rfl⟩
    · exact hel i f hf
    · exact Own.but he hb (fun k hk hv => hd k hk (.inl hv))
  · intro h1
    rcases get_snoc hf with hf | ⟨_, rfl⟩
    · rcases hvn k h1 with h2 | h2
      · exact h.ap i f k hf hk h2
      · have := ((h.el i f hf).lt k hk).2; omega
    · rcases hvn k h1 with h2 | h2
      · exact hd k hk (.inl h2)
      · have := (he.lt k hk).2; omega
  · rcases get_snoc hf with h1 | ⟨hi, h2⟩ <;> rcases get_snoc hg' with h3 | ⟨hj, h4⟩
    · exact h.di i j f g k h1 h3 hk hk'
    · exact absurd (.inr ⟨i, f, h1, hk⟩) (hd k (h4 ▸ hk'))
    · exact absurd (.inr ⟨j, g, h3, hk'⟩) (hd k (h2 ▸ hk))
    · rw [hi, hj]
/-- A row in place of another one: what was changed ahead of it is nothing, or that one's own block. -/
theorem Bods.set {g cap i : Nat} {e f : Eb} {row : Option Nat} (h : Bods w base (.slice (some ⟨g, 0, none⟩) n cap) n l) (hi : l[i]? = some e)
    (hg : w.grownBy w' row) (hr : ∀ k, row = some k → e.v.ownBlock = some k ∨ ¬ blks (.slice (some ⟨g, 0, none⟩) n cap) l k)
    (hf : w'.ownsRow base 5 1 f.v f.b.length (bv f.b)) (hd : ∀ k, f.v.ownBlock = some k → e.v.ownBlock = some k ∨ ¬ blks (.slice (some ⟨g, 0, none⟩) n cap) l k) :
    Bods (w'.setCell ⟨g, i, none⟩ f.v) base (.slice (some ⟨g, 0, none⟩) n cap) n (l.set i f) := by
  have hb : But (fun k => row = some k) w w' := (But.refl w).grown hg (fun k hk => .inl hk)
  have hlen : i < l.length := (List.getElem?_eq_some_iff.1 hi).1
  have hne : ∀ k, row = some k → k ≠ g := fun k hk he => by
    subst he
    rcases hr k hk with h1 | h1
    · exact h.ap i e k hi h1 rfl
    · exact h1 (.inl rfl)
  have own' : w'.ownsRow base 34 1 (.slice (some ⟨g, 0, none⟩) n cap) n (ebv l) := Own.but h.own hb (fun k hk hk' => by injection hk with hk; exact hne k hk' hk.symm)
  have hset : ∀ (x : Value) m xs (e2 : TypeId), w'.ownsRow base e2 1 x m xs → (∀ k, x.ownBlock = some k → k ≠ g) → (w'.setCell ⟨g, i, none⟩ f.v).ownsRow base e2 1 x m xs := fun x m xs e2 ho hk =>
    Own.but ho ((But.refl w').setCell (S := fun k => k = g) (.inl rfl) _) (fun k h1 h2 => hk k h1 h2)
  have get : ∀ (j : Nat) (f' : Eb), (l.set i f)[j]? = some f' → (j = i ∧ f' = f) ∨ (j ≠ i ∧ l[j]? = some f') := fun j f' hj => by
    by_cases hji : j = i
    · subst hji; rw [List.getElem?_set_self hlen] at hj; injection hj with hj; exact .inl ⟨rfl, hj.symm⟩
    · rw [List.getElem?_set_ne (fun e => hji e.symm)] at hj; exact .inr ⟨hji, hj⟩
  have fg : ∀ k, f.v.ownBlock = some k → k ≠ g := fun k hk he => by
    subst he
    rcases hd k hk with h1 | h1
    · exact h.ap i e k hi h1 rfl
    · exact h1 (.inl rfl)
  refine ⟨by rw [List.length_set]; exact h.len, ?_, fun j f' hj => ?_, fun j f' k hj hk => ?_, fun j j' f1 f2 k h1 h2 h3 h4 => ?_⟩
  · have := (own'.stored i f.v).1
    rw [ebv, List.map_set]; exact this
  · rcases get j f' hj with ⟨rfl, rfl⟩ | ⟨h1, h2⟩
    · exact hset _ _ _ _ hf fg
    · refine hset _ _ _ _ (Own.but (h.el j f' h2) hb (fun k hk hk' => ?_)) (fun k hk he => h.ap j f' k h2 hk (by rw [he]; rfl))
      rcases hr k hk' with h5 | h5
      · exact h1 (h.di j i f' e k h2 hi hk h5)
      · exact h5 (.inr ⟨j, f', h2, hk⟩)
  · intro hv
    injection hv with hv
    rcases get j f' hj with ⟨rfl, rfl⟩ | ⟨h1, h2⟩
    · exact fg k hk hv.symm
    · exact h.ap j f' k h2 hk (by rw [← hv]; rfl)
  · rcases get j f1 h1 with ⟨rfl, rfl⟩ | ⟨h5, h6⟩ <;> rcases get j' f2 h2 with ⟨rfl, rfl⟩ | ⟨h7, h8⟩
    · rfl
    · rcases hd k h3 with h9 | h9
      · exact absurd (h.di j' j f2 e k h8 hi h4 h9) h7
      · exact absurd (.inr ⟨j', f2, h8, h4⟩) h9
    · rcases hd k h4 with h9 | h9
      · exact absurd (h.di j j' f1 e k h6 hi h3 h9) h5
      · exact absurd (.inr ⟨j, f1, h6, h3⟩) h9
    · exact h.di j j' f1 f2 k h6 h8 h3 h4
end
end Go.Proofs.Ythdmdlnndbjcoaa.Pk
/-
  The contract of pack.put: a cell's bytes come behind those of the last body, or begin a new one.
-/
namespace Go.Proofs.Ythdmdlnndbjcoaa.Pk
open Go.RowKit Ce
attribute [local go_sem ↓] Go.wp_at_zero Go.wp_at_succ
theorem rowsElt : Elt Try.prog 24 34 (.slice none 0 0) 24 := ⟨Try.underlying24, by kernel_rfl, rfl, by omega⟩
/-- It tells bodies with one more cell in them: only the elder ones' blocks have changed, and the blocks are theirs, the cell's, or new. -/
def RetPut (base : Nat) (v : Value) (l : List Eb) (e : Eb) (w : World) (q : Ending) (w' : World) : Prop :=
  ∃ A n c l', q = .returned (.slice A n c) ∧ Bods w' base (.slice A n c) n l' ∧ ebb l' = putB (ebb l) e.b ∧ But (blks v l) w w' ∧ ∀ k, blks (.slice A n c) l' k → blks v l k ∨ e.v.ownBlock = some k ∨ w.heap.size ≤ k
theorem grown_but {S : Nat → Prop} {w w' : World} {row : Option Nat} (hg : w.grownBy w' row) (hr : ∀ k, row = some k → S k) : But S w w' := (But.refl w).grown hg (fun k hk => .inl (hr k hk))
theorem own_eqv {w : World} {base n n' : Nat} {e : TypeId} {v : Value} {xs : List Value} (h : w.ownsRow base e 1 v n xs) (hn : n' = n) : w.ownsRow base e 1 v n' xs := by subst hn; exact h
theorem oneEv (e : Eb) : ∀ u ∈ [e.v], u.oneCell' = true := by
  intro u hu
  rw [List.mem_singleton] at hu
  rw [hu]; rfl
theorem own_max1 {w : World} {base n : Nat} {e : TypeId} {v : Value} {xs : List Value} (h : w.ownsRow base e 1 v n xs) : n ≤ maxLen := own_max h
set_option maxRecDepth 100000 in
set_option maxHeartbeats 6400000 in
theorem put_any (w : World) (base : Nat) (A : Option Addr) (n c : Nat) (l : List Eb) (e : Eb) (h : Bods w base (.slice A n c) n l) (he : w.ownsRow base 5 1 e.v e.b.length (bv e.b))
    (hd : ∀ k, e.v.ownBlock = some k → ¬ blks (.slice A n c) l k) (hb : base ≤ w.heap.size) (hn : n ≤ 1000) (hl : ∀ f ∈ l, f.b.length ≤ 103) (hel : e.b.length ≤ 103) :
    Calls Try.prog 42 #[.slice A n c, e.v] w (RetPut base (.slice A n c) l e w) := by
  obtain ⟨m, hm⟩ : ∃ m, m = e.b.length := ⟨_, rfl⟩
  have H := Lib.hid h
  have HE := Lib.hid he
  have HD := Lib.hid hd
  have HM := Lib.hid hm
  have hev : e.v = .slice e.A m e.c := by rw [hm]; rfl
  have HEV := Lib.hid hev
  rw [hev]
  have new : ∀ W A' c' w', Below w.heap.size w W → w'.ownsRow base 34 1 (.slice A' (n + 1) c') (n + 1) (ebv l ++ [e.v]) → W.grownBy w' (Value.slice A n c).ownBlock →
      ((Value.slice A' (n + 1) c').ownBlock = (Value.slice A n c).ownBlock ∨ (Value.slice A' (n + 1) c').ownBlock = some W.heap.size) →
      ((ebb l).length = 0 ∨ 103 < ((ebb l).getD ((ebb l).length - 1) []).length + e.b.length) → RetPut base (.slice A n c) l e w (.returned (.slice A' (n + 1) c')) w' := by
    intro W A' c' w' hW ho hg hor hc
    refine ⟨A', n + 1, c', l ++ [e], rfl, (h.below hW).push (own_below he hW) hd hg ho hor, ?_, (But.of_below hW (fun k h1 h2 => by omega)).trans (grown_but hg (fun k hk => .inl hk)), fun k hk => ?_⟩
    · rw [putB, if_pos hc, ebb, List.map_append]; rfl
    · rcases hk with hk | ⟨i, f, hf, hk⟩
      · rcases hor with h1 | h1
        · exact .inl (.inl (h1 ▸ hk))
        · rw [h1] at hk; injection hk with hk; exact .inr (.inr (by have := hW.size; omega))
      · rcases get_snoc hf with hf | ⟨_, rfl⟩
        · exact .inl (.inr ⟨i, f, hf, hk⟩)
        · exact .inr (.inl hk)
  have NEW := Lib.hid new
  have HW := Lib.hid hb
  have H1 := Lib.hid (show Below w.heap.size w (w.alloc (.cells #[.slice e.A m e.c] 34)) from (Below.refl _ _).alloc (Nat.le_refl _) _)
  have HO := Lib.hid (own_below h.own H1.out)
  have HR := Lib.hid (show Rd (w.heap.size + 1) (w.alloc (.cells #[.slice e.A m e.c] 34)) (some ⟨w.heap.size, 0, .none⟩) [e.v] from by rw [HEV.out]; exact Rd.lit w 34 [.slice e.A m e.c])
  have HN3 := Lib.hid hn
  by_cases h0 : n = 0
  · have HN := Lib.hid (show (ebb l).length = 0 by rw [ebb_length, h.len]; exact h0)
    subst h0
    clear h he hd hm hev new hb hl hel hn
    go_enter Try.func42, Try.ntmps42
    go_wp2_with (
      at_builtin
      refine wpList_app _ rfl (.tmp 22) (.tmp 24) _ rfl rowsElt (base := base) (v := .slice A 0 c) rfl HO.out (m := 1) rfl HR.out rfl (oneEv e) ?_ ?_ ?_
      · omega
      · exact Nat.le_trans HW.out H1.out.size
      intro A6 c6 w6 ho6 hg6 hor6
      have O6 := Lib.hid ho6
      have G6 := Lib.hid hg6
      have R6 := Lib.hid hor6
      clear ho6 hg6 hor6)
    go_ret
    exact NEW.out _ _ _ _ H1.out O6.out G6.out R6.out (.inl HN.out)
  · obtain ⟨k, hk⟩ : ∃ k, n = k + 1 := ⟨n - 1, by omega⟩
    obtain ⟨g, hA, _, _, _⟩ := own_addr h.own (by omega)
    subst hA
    obtain ⟨f, hf⟩ : ∃ f, l[k]? = some f := ⟨l[k]'(by rw [h.len, hk]; omega), List.getElem?_eq_getElem _⟩
    have hfl : f.b.length ≤ 103 := hl f (List.mem_of_getElem? hf)
    have hlast : ((ebb l).getD ((ebb l).length - 1) []) = f.b := by rw [ebb_length, h.len, hk]; exact ebb_getD hf
    have hfo := h.el k f hf
    obtain ⟨q, hq⟩ : ∃ q, q = f.b.length := ⟨_, rfl⟩
    have hfv : f.v = .slice f.A q f.c := by rw [hq]; rfl
    have hcell : w.cell? ⟨g, k, none⟩ = some (.slice f.A q f.c) := by
      have := h.own.cells (g := g) rfl k _ (ebv_get hf)
      rw [add_head, hfv] at this; exact this
    have wk : IntKind.i64.wrap ((n : Int) - 1) = (k : Int) := by rw [IntWalk.i64_in _ (by omega)]; omega
    have ws : IntKind.i64.wrap ((q : Int) + (m : Int)) = ((q + m : Nat) : Int) := by rw [IntWalk.i64_in _ (by omega)]; omega
    have k0 : ¬ ((k : Int) < 0) := by omega
    have k1 : (k : Int) < (n : Int) := by omega
    have k2 : (0 : Int) ≤ (k : Int) := by omega
    have fin : ∀ A6 cc6 w6, w.grownBy w6 (Value.slice f.A q f.c).ownBlock → ∀ f' : Eb, f'.b = f.b ++ e.b → w6.ownsRow base 5 1 f'.v f'.b.length (bv f'.b) →
        (f'.v.ownBlock = (Value.slice f.A q f.c).ownBlock ∨ f'.v.ownBlock = some w.heap.size) → ¬ 103 < q + m → (Value.slice A6 (q + m) cc6) = f'.v →
        RetPut base (.slice (some ⟨g, 0, none⟩) n c) l e w (.returned (.slice (some ⟨g, 0, none⟩) n c)) (w6.setCell ⟨g, k, none⟩ f'.v) := by
      intro A6 cc6 w6 hg f' hb' ho hor hng _
      rw [← hfv] at hg hor
      have hd' : ∀ j, f'.v.ownBlock = some j → f.v.ownBlock = some j ∨ ¬ blks (.slice (some ⟨g, 0, none⟩) n c) l j := fun j hj => by
        rcases hor with h1 | h1
        · exact .inl (h1 ▸ hj)
        · rw [h1] at hj; injection hj with hj; exact .inr (fun hbl => by have := (h.lt hbl).2; omega)
      refine ⟨_, n, c, l.set k f', rfl, h.set hf hg (fun j hj => .inl hj) ho hd', ?_, ?_, fun j hj => ?_⟩
      · rw [putB, if_neg (by rw [hlast, ebb_length, h.len, ← hq, ← hm]; omega), hlast, ← hb', ebb_length, h.len, hk, ebb, List.map_set]; rfl
      · exact (grown_but hg (fun j hj => .inr ⟨k, f, hf, hj⟩)).setCell (.inl (.inl rfl)) _
      · rcases hj with hj | ⟨i, f2, h1, h2⟩
        · exact .inl (.inl hj)
        · by_cases hik : i = k
          · subst hik
            rw [List.getElem?_set_self (by rw [h.len, hk]; omega)] at h1
            injection h1 with h1; subst h1
            rcases hor with h3 | h3
            · exact .inl (.inr ⟨i, f, hf, h3 ▸ h2⟩)
            · rw [h3] at h2; injection h2 with h2; exact .inr (.inr (by omega))
          · rw [List.getElem?_set_ne (fun e => hik e.symm)] at h1
            exact .inl (.inr ⟨i, f2, h1, h2⟩)
    have FIN := Lib.hid fin
    have HC := Lib.hid hcell
    have HK := Lib.hid hk
    have HRE := Lib.hid (show Rd w.heap.size w e.A (bv e.b) from Rd.own (n := e.b.length) (c := e.c) HE.out)
    have HF1 := Lib.hid (show w.ownsRow base 5 1 (.slice f.A q f.c) q (bv f.b) from by rw [← hfv]; exact own_eqv hfo hq)
    have HST := Lib.hid (show ∀ w' : World, w.grownBy w' (Value.slice f.A q f.c).ownBlock → w'.cell? ⟨g, k, none⟩ = some (.slice f.A q f.c) ∧ w'.frozen? ⟨g, k, none⟩ = false from fun w' hg => ⟨hg.cell hcell (by rw [← hfv]; intro he2; exact h.ap k f g hf he2.symm rfl), (Own.but h.own (grown_but (S := fun k => (Value.slice f.A q f.c).ownBlock = some k) hg (fun _ hk => hk)) (fun j hj h2 => by rw [← hfv] at h2; exact h.ap k f j hf h2 hj)).frozenAt k⟩)
    have HF := Lib.hid hf
    have HFV := Lib.hid hfv
    have HFO := Lib.hid hfo
    have HLA := Lib.hid hlast
    have HQ := Lib.hid hq
    have HFL := Lib.hid hfl
    have HEL := Lib.hid hel
    clear h he hd hm hev new hb hl hel hn hf hfl hlast hfo hq hfv h0 hk fin
    by_cases hbig : 103 < q + m
    · have b1 : (103 : Int) < ((q + m : Nat) : Int) := by omega
      have HB := Lib.hid hbig
      clear hbig
      go_enter Try.func42, Try.ntmps42
      go_wp2_with (
        at_builtin
        refine wpList_app _ rfl (.tmp 22) (.tmp 24) _ rfl rowsElt (base := base) (v := .slice (some ⟨g, 0, none⟩) n c) rfl HO.out (m := 1) rfl HR.out rfl (oneEv e) ?_ ?_ ?_
        · have := HN3.out; omega
        · exact Nat.le_trans HW.out H1.out.size
        intro A6 c6 w6 ho6 hg6 hor6
        have O6 := Lib.hid ho6
        have G6 := Lib.hid hg6
        have R6 := Lib.hid hor6
        clear ho6 hg6 hor6)
      go_ret
      exact NEW.out _ _ _ _ H1.out O6.out G6.out R6.out (.inr (by rw [HLA.out, ← HQ.out, ← HM.out]; exact HB.out))
    · have b1 : ¬ (103 : Int) < ((q + m : Nat) : Int) := by omega
      have HB := Lib.hid hbig
      clear hbig
      go_enter Try.func42, Try.ntmps42
      go_wp2_with (
        at_builtin
        refine wpList_app _ rfl (.tmp 31) (.tmp 32) _ rfl Wi.bytesElt (base := base) (v := .slice f.A q f.c) (n := q) rfl HF1.out (m := m) rfl HRE.out (by rw [bv_length, HM.out]) (bv_one _) ?_ ?_ ?_
        · have := HFL.out; have := HEL.out; have := HM.out; have := HQ.out; omega
        · exact HW.out
        intro A6 cc6 w6 ho6 hg6 hor6
        obtain ⟨hc6, hz6⟩ := HST.out _ hg6
        have O6 := Lib.hid ho6
        have G6 := Lib.hid hg6
        have R6 := Lib.hid hor6
        clear ho6 hg6 hor6)
      go_ret
      obtain ⟨f', hf'⟩ : ∃ f' : Eb, f' = ⟨A6, cc6, f.b ++ e.b⟩ := ⟨_, rfl⟩
      have hlen : f'.b.length = q + m := by rw [hf', List.length_append, HQ.out, HM.out]
      have hv' : f'.v = .slice A6 (q + m) cc6 := by rw [Eb.v, hlen, hf']
      rw [← hv']
      exact FIN.out A6 cc6 w6 G6.out f' (by rw [hf']) (by rw [hv', hlen, hf', bv_append]; exact O6.out) (by rw [hv']; exact R6.out) HB.out hv'.symm
end Go.Proofs.Ythdmdlnndbjcoaa.Pk
/-
  A row of cells that a call makes, with their bodies; what opening a body tells.
-/
namespace Go.Proofs.Ythdmdlnndbjcoaa.Pk
open Go.RowKit Ce
/-- The cells alone. -/
def ys (l : List Cc) : List Cl := l.map Cc.y
theorem ys_length (l : List Cc) : (ys l).length = l.length := by simp [ys]
theorem ys_take (l : List Cc) (k : Nat) : ys (l.take k) = (ys l).take k := by simp [ys]
theorem ys_append (a b : List Cc) : ys (a ++ b) = ys a ++ ys b := by simp [ys]
theorem own_block_n {A : Option Addr} {n m c c' : Nat} : (Value.slice A n c).ownBlock = (Value.slice A m c').ownBlock := by cases A <;> rfl
def lenOf : Value → Nat
  | .slice _ n _ => n
  | _ => 0
/-- All may be. -/
def allOk (l : List Cc) : Prop := ∀ k ∈ l, okCl k.y
instance (l : List Cc) : Decidable (allOk l) := by unfold allOk; infer_instance
theorem ccs_one (l : List Cc) : ∀ u ∈ ccs l, u.oneCell' = true := by
  induction l with
  | nil => intro u hu; simp [ccs] at hu
  | cons k l ih =>
    intro u hu
    rw [ccs, List.mem_append] at hu
    rcases hu with h | h
    · simp only [ccV, clA, List.mem_cons, List.not_mem_nil, or_false] at h
      rcases h with rfl | rfl | rfl | rfl | rfl | rfl | rfl | rfl | rfl | rfl | rfl <;> rfl
    · exact ih u h
theorem cellsElt : EltN Try.prog 22 44 (.agg (clA zeroCl none 0)) 11 104 := ⟨Try.underlying22, by kernel_rfl, rfl, by omega, by omega⟩
theorem rd_but {S : Nat → Prop} {B : Nat} {w w' : World} {A : Option Addr} {xs : List Value} (h : Rd B w A xs) (hb : But S w w') (hS : ∀ ad, A = some ad → ¬ S ad.block) : Rd B w' A xs := fun k u hu => by
  obtain ⟨ad, hA, hlt, hc⟩ := h k u hu
  have h1 := World.block_lt_of_cell? _ _ hc
  rw [add_block] at h1
  exact ⟨ad, hA, hlt, by rw [World.cell?_of_block (w := w) (hb.block _ (by rw [add_block]; exact h1) (by rw [add_block]; exact hS ad hA))]; exact hc⟩
/-- The bodies of cells can be read, and lie where there is something. -/
def BodC (w : World) (l : List Cc) : Prop := ∀ k ∈ l, Rd w.heap.size w k.A (bv k.y.body) ∧ ∀ ad, k.A = some ad → ad.block < w.heap.size
theorem BodC.below {w w' : World} {l : List Cc} (h : BodC w l) (hb : Below w.heap.size w w') : BodC w' l := fun k hk => ⟨((h k hk).1.below hb).more hb.size, fun ad had => Nat.lt_of_lt_of_le ((h k hk).2 ad had) hb.size⟩
/-- A row of cells of a call's own, whose bodies lie elsewhere. -/
structure OwnC (w : World) (base : Nat) (A : Option Addr) (n c : Nat) (l : List Cc) : Prop where
  own : w.ownsRow base 44 11 (.slice A n c) n (ccs l)
  bodies : BodC w l
  apart : ∀ k ∈ l, ∀ ad, k.A = some ad → (Value.slice A n c).ownBlock ≠ some ad.block
section
variable {w w' : World} {base n c : Nat} {A : Option Addr} {l : List Cc}
theorem OwnC.nil : OwnC w base none 0 0 [] := ⟨World.ownsRow_nil _ _ _ _, fun k hk => by simp at hk, fun k hk => by simp at hk⟩
theorem OwnC.below (h : OwnC w base A n c l) (hb : Below w.heap.size w w') : OwnC w' base A n c l :=
  ⟨own_belowN h.own hb, h.bodies.below hb, h.apart⟩
theorem OwnC.len (h : OwnC w base A n c l) : l.length = n := by have := h.own.1; rw [ccs_length] at this; omega
theorem OwnC.pushs {ys : List Cc} {m : Nat} {A' : Option Addr} {c' : Nat} (h : OwnC w base A n c l) (hy : BodC w ys) (hd : ∀ y ∈ ys, ∀ ad, y.A = some ad → (Value.slice A n c).ownBlock ≠ some ad.block)
    (hg : w.grownBy w' (Value.slice A n c).ownBlock) (ho : w'.ownsRow base 44 11 (.slice A' (n + m) c') (n + m) (ccs l ++ ccs ys))
    (hv : (Value.slice A' (n + m) c').ownBlock = (Value.slice A n c).ownBlock ∨ (Value.slice A' (n + m) c').ownBlock = some w.heap.size) : OwnC w' base A' (n + m) c' (l ++ ys) := by
  have hb : But (fun k => (Value.slice A n c).ownBlock = some k) w w' := (But.refl w).grown hg (fun k hk => .inl hk)
  have all : ∀ k ∈ l ++ ys, (Rd w.heap.size w k.A (bv k.y.body) ∧ ∀ ad, k.A = some ad → ad.block < w.heap.size) ∧ ∀ ad, k.A = some ad → (Value.slice A n c).ownBlock ≠ some ad.block := fun k hk => by
    rcases List.mem_append.1 hk with h1 | h1
    · exact ⟨h.bodies k h1, h.apart k h1⟩
    · exact ⟨hy k h1, hd k h1⟩
  refine ⟨by rw [ccs_append]; exact ho, fun k hk => ⟨(rd_but (all k hk).1.1 hb (all k hk).2).more hb.size, fun ad had => Nat.lt_of_lt_of_le ((all k hk).1.2 ad had) hb.size⟩, fun k hk ad had h1 => ?_⟩
  rcases hv with h2 | h2
  · exact (all k hk).2 ad had (h2 ▸ h1)
  · rw [h2] at h1; injection h1 with h1
    have := (all k hk).1.2 ad had
    omega
theorem OwnC.push {y : Cc} {A' : Option Addr} {c' : Nat} (h : OwnC w base A n c l) (hy : Rd w.heap.size w y.A (bv y.y.body) ∧ ∀ ad, y.A = some ad → ad.block < w.heap.size) (hd : ∀ ad, y.A = some ad → (Value.slice A n c).ownBlock ≠ some ad.block)
    (hg : w.grownBy w' (Value.slice A n c).ownBlock) (ho : w'.ownsRow base 44 11 (.slice A' (n + 1) c') (n + 1) (ccs l ++ ccs [y]))
    (hv : (Value.slice A' (n + 1) c').ownBlock = (Value.slice A n c).ownBlock ∨ (Value.slice A' (n + 1) c').ownBlock = some w.heap.size) : OwnC w' base A' (n + 1) c' (l ++ [y]) :=
  h.pushs (fun k hk => by rw [List.mem_singleton] at hk; rw [hk]; exact hy) (fun k hk => by rw [List.mem_singleton] at hk; rw [hk]; exact hd) hg ho hv
end
/-- It tells the cells and whether the bytes are such. -/
def RetOpen (L : Nat) (b : List UInt8) (w : World) (e : Ending) (w' : World) : Prop :=
  ∃ A n c cl, e = .returned (.tuple #[.slice A n c, .bool (openL b).2]) ∧ w'.ownsRow w.heap.size 44 11 (.slice A n c) n (ccs cl) ∧ ys cl = (openL b).1 ∧ (BodC w' cl ∧ ∀ k ∈ cl, ∀ ad, k.A = some ad → L ≤ ad.block) ∧ Below w.heap.size w w'
theorem RetOpen.no {L : Nat} {b : List UInt8} {w w' : World} (h : openL b = ([], false)) (hb : Below w.heap.size w w') : RetOpen L b w (.returned (.tuple #[.slice none 0 0, .bool false])) w' :=
  ⟨none, 0, 0, [], by rw [h], World.ownsRow_nil _ _ _ _, by rw [h]; rfl, ⟨fun k hk => by simp at hk, fun k hk => by simp at hk⟩, hb⟩
end Go.Proofs.Ythdmdlnndbjcoaa.Pk
/-
  The contract of pack.Fill.
-/
namespace Go.Proofs.Ythdmdlnndbjcoaa.Pk
open Go.RowKit Ce
attribute [local go_sem ↓] Go.wp_at_zero Go.wp_at_succ
def ev (l : List Nat) : List Value := l.map fun n : Nat => Value.int .i64 (n : Int)
theorem ev_length (l : List Nat) : (ev l).length = l.length := by simp [ev]
theorem ev_append (a b : List Nat) : ev (a ++ b) = ev a ++ ev b := by simp [ev]
theorem intsElt : Elt Try.prog 25 3 (.int .i64 0) 8 := ⟨Try.underlying25, by kernel_rfl, rfl, by omega⟩
theorem ev_one (l : List Nat) : ∀ u ∈ ev l, u.oneCell' = true := by
  intro u hu
  obtain ⟨k, _, rfl⟩ := List.mem_map.1 hu
  rfl
theorem encCl_le {x : Cl} (h : okCl x) : (encCl x).length ≤ 103 := by
  have h1 := encCl_length h
  have h2 := (okCl_body h).1
  unfold headN at h1
  split at h1 <;> split at h1 <;> split at h1 <;> split at h1 <;> omega
theorem segOk_ys {l : List Cc} (h : ∀ k ∈ l, okCl k.y) : SegOk encCl (ys l) (segs encCl (ys l)) := segOk_all encCl fun x hx => by
  obtain ⟨k, hk, rfl⟩ := List.mem_map.1 hx
  exact encCl_le (h k hk)
theorem fill_count {l : List Cc} (h : ∀ k ∈ l, okCl k.y) : (fillB encCl (ys l)).length ≤ l.length := by
  rw [fill_length, ← ys_length l]; exact (segOk_ys h).count
theorem fill_le {l : List Cc} (h : ∀ k ∈ l, okCl k.y) : ∀ b ∈ fillB encCl (ys l), b.length ≤ 103 := fun b hb => by
  obtain ⟨s, hs, rfl⟩ := List.mem_map.1 hb
  exact (segOk_ys h).le s hs
/-- Bodies, numbers and no error; or none, none, and ErrForm. -/
def RetFill (l : List Cc) (w : World) (e : Ending) (w' : World) : Prop :=
  (allOk l ∧ ∃ A n c bl I d, e = .returned (.tuple #[.slice A n c, .slice I l.length d, .int .i64 0]) ∧ Bods w' w.heap.size (.slice A n c) n bl ∧ ebb bl = fillB encCl (ys l) ∧
    w'.ownsRow w.heap.size 3 1 (.slice I l.length d) l.length (ev (inB encCl (ys l))) ∧ Below w.heap.size w w') ∨
  (¬ allOk l ∧ e = .returned (.tuple #[.slice none 0 0, .slice none 0 0, .int .i64 3]) ∧ Below w.heap.size w w')
set_option maxRecDepth 100000 in
set_option maxHeartbeats 12800000 in
theorem fill_any {B : Nat} (w : World) (A : Option Addr) (N c : Nat) (l : List Cc) (hl : l.length = N) (hr : Rd B w A (ccs l)) (hb : ∀ k ∈ l, Rd B w k.A (bv k.y.body)) (hB : B ≤ w.heap.size) (hN : N ≤ 1000) :
    Calls Try.prog 13 #[.slice A N c] w (RetFill l w) := by
  obtain ⟨zc, hzc⟩ : ∃ z, z = clA zeroCl none 0 := ⟨_, rfl⟩
  have hzv : ∀ W, (zeroValue 44).run Try.prog W = .ok (.agg zc) W := fun _ => by rw [hzc]; kernel_rfl
  have HZC := Lib.hid hzc
  have HL := Lib.hid hl
  have HR := Lib.hid (hr.more hB)
  have HBO := Lib.hid (fun k hk => (hb k hk).more hB)
  have HN := Lib.hid hN
  have BW := Lib.hid (Below.refl w.heap.size w)
  clear hzc hl hr hb hB
  go_enter Try.func13, Try.ntmps13
  go_wp2_with fail
  go_loopw [2, 3, 4, 6, 7, 10] (fun b q e _ _ i wr => ∃ (j n m : Nat) (A1 : Option Addr) (c1 : Nat) (A2 : Option Addr) (c2 : Nat) (bl : List Eb), j ≤ N ∧ i = .int .i64 j ∧ e = .int .i64 0 ∧ b = .slice A1 n c1 ∧ q = .slice A2 j c2 ∧ Below w.heap.size w wr ∧
    Hid (Bods wr w.heap.size (.slice A1 n c1) n bl ∧ ebb bl = fillB encCl (ys (l.take j)) ∧ wr.ownsRow w.heap.size 3 1 (.slice A2 j c2) j (ev (inB encCl (ys (l.take j)))) ∧ (∀ k, (Value.slice A2 j c2).ownBlock = some k → ¬ blks (.slice A1 n c1) bl k) ∧ allOk (l.take j))) (fun _ _ _ _ _ i _ => N - (intOf i).toNat)
  case atStart => exact ⟨0, 0, 0, none, 0, none, 0, [], Nat.zero_le _, rfl, rfl, rfl, rfl, BW.out, Lib.hid ⟨Bods.nil, rfl, World.ownsRow_nil _ _ _ _, fun k hk => by (cases hk), fun k hk => by simp at hk⟩⟩
  case round =>
    clear BW
    obtain ⟨j, n, m, A1, c1, A2, c2, bl, hj, rfl, rfl, rfl, rfl, hbw, HI⟩ := hrel
    by_cases hlt : j < N
    · have hkl : j < l.length := by rw [HL.out]; exact hlt
      obtain ⟨x, hxe⟩ : ∃ x, x = l[j] := ⟨_, rfl⟩
      have hxm : x ∈ l := by rw [hxe]; exact List.getElem_mem hkl
      have hbx := HBO.out x hxm
      have hrd := HR.out
      obtain ⟨ad, hA, -, -⟩ := rd_cell hrd hkl
      subst hA
      have hcell : ∀ w', Below w.heap.size w w' → ∀ i v, (ccV x)[i]? = some v → w'.cell? ((ad.add (j * 11)).add i) = some v := fun w' hb' i v hv => by
        obtain ⟨ad', hA', _, hc⟩ := rd_cell (hrd.below hb') hkl
        injection hA' with hA'
        subst hA'
        exact hc i v (by rw [← hxe]; exact hv)
      obtain ⟨csx, hcsx⟩ : ∃ cs, cs = clA x.y x.A x.c := ⟨_, rfl⟩
      have HCW := Lib.hid (show ∀ w', Below w.heap.size w w' → ∀ i v, csx.toList[i]? = some v → w'.cell? ((ad.add (j * 11)).add i) = some v from fun w' hb' i v hv => hcell w' hb' i v (by rw [hcsx] at hv; exact hv))
      have HIx := Lib.hid (show (Try.prog.info? 44).map (·.size) = some csx.toList.length from by rw [hcsx]; kernel_rfl)
      have HIa := Lib.hid (show (Try.prog.info? 44).map (·.size) = some csx.size from by rw [hcsx]; kernel_rfl)
      have HOa := Lib.hid (show csx.all (·.oneCell') = true from by rw [hcsx]; simp [clA, Value.oneCell'])
      have HZa := Lib.hid (show zc.size = csx.size from by rw [HZC.out, hcsx]; rfl)
      have HEN := Lib.hid (show ∀ W, Below w.heap.size w W → Calls Try.prog 28 #[.agg csx] W (RetRowE (bv (encX x.y)) (errX x.y) W) from fun W hW => by rw [hcsx]; exact encode_any x.y x.A x.c W (hbx.below hW) hW.size)
      have k0 : (0 : Int) ≤ (j : Int) := by omega
      have k1 : (j : Int) < (N : Int) := by omega
      have HTK := Lib.hid (show l.take (j + 1) = l.take j ++ [x] from by rw [hxe]; exact List.take_succ_eq_append_getElem hkl)
      have HXM := Lib.hid hxm
      have HB := Lib.hid hbw
      clear hxe hxm hbx hrd hcell hcsx hbw hkl
      go_wp2_with (first
        | (refine wpList_load_at rfl 44 (.tmp 12) rfl (ad.add (j * 11)) rfl (HCW.out _ HB.out) Try.underlying44 rfl HIx.out ?_; change wpList _ _ _ _ (Act.put _ _ (.agg csx)) _)
        | (show wpList _ _ _ ({ dst := none, op := .store 44 (.tmp 6) (.tmp 13), type := _, pos := _, after := _, guard := _ } :: _) _ _; apply Classical.byContradiction; intro hneg))
      refine hneg ?_
      clear hneg
      refine wpList_store_row rfl 44 (.tmp 6) (.tmp 13) rfl wr.heap.size csx rfl rfl 44 zc (heap_alloc_new _ _) HIa.out HZa.out HOa.out ?_
      obtain ⟨w4, hw4⟩ : ∃ v, v = (wr.alloc (.cells zc 44)).setRow wr.heap.size csx := ⟨_, rfl⟩
      obtain ⟨g4, hg4⟩ : ∃ g, g = wr.heap.size := ⟨_, rfl⟩
      rw [← hw4, ← hg4]
      have bn : Below wr.heap.size wr w4 := by rw [hw4]; exact below_new (Below.refl _ _) (Nat.le_refl _)
      have X4 := Lib.hid (show Blk w4 g4 csx 44 from by rw [hw4, hg4]; exact setRow_heap _ _ _ _ _ _ (heap_alloc_new _ _))
      have B4 := Lib.hid (HB.out.trans (bn.mono HB.out.size))
      have BN := Lib.hid bn
      clear hw4 hg4 bn
      go_wp2_with (refine wpList_load_row rfl 44 (.tmp 6) rfl g4 rfl 44 csx (0, 0) _ X4.out Try.underlying44 rfl HIa.out ?_)
      refine (HEN.out _ B4.out).mono ?_
      rintro e w5 ⟨A5, n5, c5, rfl, ho, bw⟩
      have B5 := Lib.hid (B4.out.trans (bw.mono B4.out.size))
      have BN5 := Lib.hid (BN.out.trans (bw.mono BN.out.size))
      have O5 := Lib.hid (own_more ho (Nat.le_trans HB.out.size BN.out.size))
      have OLT := Lib.hid (show ∀ k, (Value.slice A5 n5 c5).ownBlock = some k → wr.heap.size ≤ k from fun k hk => Nat.le_trans BN.out.size (ho.lt k hk).1)
      clear bw ho HB B4 BN X4
      by_cases ok : okCl x.y
      rotate_left
      · have hno := Lib.hid (show ¬ allOk l from fun h => ok (h x HXM.out))
        rw [show errX x.y = 3 from if_neg ok]
        clear ok
        go_wp2_with fail
        go_ret3
        exact .inr ⟨hno.out, rfl, B5.out⟩
      · rw [show errX x.y = 0 from if_pos ok]
        obtain ⟨hI1, hI2, hI3, hI4, hI5⟩ := HI.out
        have hxX : encX x.y = encCl x.y := if_pos ok
        have h5 : (encCl x.y).length = n5 := by have := own_blen O5.out; rw [hxX] at this; exact this
        have hall : allOk (l.take (j + 1)) := fun k hk => by
          rw [HTK.out] at hk
          rcases List.mem_append.1 hk with h | h
          · exact hI5 k h
          · rw [List.mem_singleton] at h; rw [h]; exact ok
        have hjl : (l.take j).length ≤ j := by rw [List.length_take]; omega
        have hnj : n ≤ j := by
          have h1 := fill_count hI5
          have h2 : (ebb bl).length = n := by rw [ebb_length]; exact hI1.len
          rw [← hI2, h2] at h1; omega
        have hput := put_any w5 w.heap.size A1 n c1 bl ⟨A5, c5, encCl x.y⟩ (hI1.below BN5.out) (by have := O5.out; rw [hxX] at this; show w5.ownsRow w.heap.size 5 1 (.slice A5 (encCl x.y).length c5) _ _; rw [h5]; exact this)
          (fun k hk hbl => by have h1 := OLT.out k (by rw [← h5]; exact hk); have h2 := (hI1.lt hbl).2; omega) B5.out.size (by have := HN.out; omega) (fun f hf => fill_le hI5 _ (by rw [← hI2]; exact List.mem_map.2 ⟨f, hf, rfl⟩)) (encCl_le ok)
        have hev : (Eb.mk A5 c5 (encCl x.y)).v = .slice A5 n5 c5 := by rw [Eb.v, h5]
        rw [hev] at hput
        have hfil : fillB encCl (ys (l.take (j + 1))) = putB (fillB encCl (ys (l.take j))) (encCl x.y) := by rw [HTK.out, ys, List.map_append]; exact fill_snoc encCl _ _
        have hins : inB encCl (ys (l.take (j + 1))) = inB encCl (ys (l.take j)) ++ [(fillB encCl (ys (l.take (j + 1)))).length - 1] := by rw [HTK.out, ys, List.map_append]; exact in_snoc encCl _ _
        have HP := Lib.hid hput
        have HALL := Lib.hid hall
        have HFIL := Lib.hid hfil
        have HINS := Lib.hid hins
        have HI1 := Lib.hid hI1
        have HI2 := Lib.hid hI2
        have HI3 := Lib.hid hI3
        have HI4 := Lib.hid hI4
        have HNJ := Lib.hid hnj
        clear hI1 hI2 hI3 hI4 hI5 hxX h5 hall hjl hnj hput hev hfil hins HI ok
        go_wp2_with fail
        refine HP.out.mono ?_
        rintro e w6 ⟨A6, n6, c6, bl6, rfl, hb6, he6, bt6, hbk⟩
        have he7 : ebb bl6 = fillB encCl (ys (l.take (j + 1))) := by rw [he6, HFIL.out, HI2.out]
        have hn6 : (fillB encCl (ys (l.take (j + 1)))).length = n6 := by rw [← he7, ebb_length]; exact hb6.len
        have hn60 : n6 ≠ 0 := by
          rw [← hn6, HFIL.out, putB]; split
          · simp
          · rename_i h; rw [List.length_set]; omega
        obtain ⟨k6, hk6⟩ : ∃ k, n6 = k + 1 := ⟨n6 - 1, by omega⟩
        have hnb : n6 ≤ 1000 := by have h1 := fill_count HALL.out; rw [hn6, List.length_take] at h1; have := HN.out; omega
        have wk : IntKind.i64.wrap ((n6 : Int) - 1) = (k6 : Int) := by rw [IntWalk.i64_in _ (by omega)]; omega
        have B6 := Lib.hid (show Below w.heap.size w w6 from B5.out.trans (bt6.below (fun k hk hbl => by have := ((HI1.out.below BN5.out).lt hbl).1; omega) B5.out.size))
        have hI6 : w6.ownsRow w.heap.size 3 1 (.slice A2 j c2) j (ev (inB encCl (ys (l.take j)))) := Own.but (own_below HI3.out BN5.out) bt6 (fun k hk => HI4.out k hk)
        have W7 := Lib.hid (show Below w6.heap.size w6 (w6.alloc (.cells #[.int .i64 (k6 : Int)] 3)) from (Below.refl _ _).alloc (Nat.le_refl _) _)
        have O7 := Lib.hid (own_below hI6 W7.out)
        have R7 := Lib.hid (show Rd (w6.heap.size + 1) (w6.alloc (.cells #[.int .i64 (k6 : Int)] 3)) (some ⟨w6.heap.size, 0, .none⟩) (ev [k6]) from Rd.lit w6 3 (ev [k6]))
        have HJB := Lib.hid (show j + 1 ≤ 1000 from by have := HN.out; omega)
        have SEP := Lib.hid (show ∀ k, (Value.slice A2 j c2).ownBlock = some k → ¬ blks (.slice A6 n6 c6) bl6 k from fun k hk hbl => by
          rcases hbk k hbl with h | h | h
          · exact HI4.out k hk h
          · have h1 := OLT.out k (by rw [own_block_n (m := (encCl x.y).length)]; exact h)
            have h2 := (HI3.out.lt k hk).2
            omega
          · have h2 := ((own_below HI3.out BN5.out).lt k hk).2
            omega)
        have HB6 := Lib.hid hb6
        have HE7 := Lib.hid he7
        have HN6 := Lib.hid hn6
        have HK6 := Lib.hid hk6
        clear hb6 he6 he7 bt6 hbk hn6 hn60 hk6 hnb hI6 HP
        go_wp2_with (
          at_builtin
          refine wpList_app _ rfl (.tmp 25) (.tmp 29) _ rfl intsElt (base := w.heap.size) (v := .slice A2 j c2) rfl O7.out (m := 1) rfl R7.out rfl (ev_one _) ?_ ?_ ?_
          · have := HJB.out; omega
          · exact Nat.le_trans B6.out.size W7.out.size
          intro A8 c8 w8 ho8 hg8 hor8
          have O8 := Lib.hid ho8
          have G8 := Lib.hid hg8
          have R8 := Lib.hid hor8
          clear ho8 hg8 hor8)
        go_roundw
        case rel =>
          have bt8 : But (fun k => (Value.slice A2 j c2).ownBlock = some k) (w6.alloc (.cells #[.int .i64 (k6 : Int)] 3)) w8 := grown_but G8.out (fun _ h => h)
          have hb7 := HB6.out.below W7.out
          refine ⟨j + 1, n6, 0, A6, c6, A8, c8, bl6, by omega, by go_num, rfl, rfl, rfl, (B6.out.trans (W7.out.mono B6.out.size)).trans (bt8.below (fun k hk hbl => by have := (HI3.out.lt k hbl).1; omega) (Nat.le_trans B6.out.size W7.out.size)), Lib.hid ⟨hb7.but bt8 (fun k hbl hk => SEP.out k hk hbl), HE7.out, ?_, fun k hk hbl => ?_, HALL.out⟩⟩
          · rw [HINS.out, HN6.out, ev_append, HK6.out]; exact O8.out
          · rcases R8.out with h | h
            · exact SEP.out k (h ▸ hk) hbl
            · rw [h] at hk; injection hk with hk; have := (hb7.lt hbl).2; omega
        case measure => (simp [intOf]; try omega)
    · obtain rfl : N = j := by omega
      have htk : l.take N = l := List.take_of_length_le (by rw [HL.out]; exact Nat.le_refl _)
      rw [htk] at HI
      have B := Lib.hid hbw
      clear htk hbw hlt hj
      go_wp2_with fail
      go_ret3
      exact .inl ⟨HI.out.2.2.2.2, A1, n, c1, bl, A2, c2, (by show Ending.returned (.tuple #[.slice A1 n c1, .slice A2 N c2, .int .i64 0]) = _; rw [HL.out]), HI.out.1, HI.out.2.1, by rw [HL.out]; exact HI.out.2.2.1, B.out⟩
end Go.Proofs.Ythdmdlnndbjcoaa.Pk
/-
  The contract of the document's own Fill.
-/
namespace Go.Proofs.Ythdmdlnndbjcoaa.Pk
open Go.RowKit Ce
attribute [local go_sem ↓] Go.wp_at_zero Go.wp_at_succ
/-- Bodies, numbers and true; or none, none, and false. -/
def RetRFill (l : List Cc) (w : World) (e : Ending) (w' : World) : Prop :=
  (allOk l ∧ ∃ A n c bl I d, e = .returned (.tuple #[.slice A n c, .slice I l.length d, .bool true]) ∧ Bods w' w.heap.size (.slice A n c) n bl ∧ ebb bl = fillB encCl (ys l) ∧
    w'.ownsRow w.heap.size 3 1 (.slice I l.length d) l.length (ev (inB encCl (ys l))) ∧ Below w.heap.size w w') ∨
  (¬ allOk l ∧ e = .returned (.tuple #[.slice none 0 0, .slice none 0 0, .bool false]) ∧ Below w.heap.size w w')
/-- The next world of the loop. -/
theorem rstep {W w9 w10 w : World} {g n c k j q : Nat} {bl : List Eb} {e f : Eb} {A2 A10 : Option Addr} {c2 c10 : Nat} {is : List Value} {i0 : Value}
    (hb : Bods W w.heap.size (.slice (some ⟨g, 0, none⟩) n c) n bl) (hk : bl[k]? = some e) (h9 : Below W.heap.size W w9) (hf : w9.ownsRow W.heap.size 5 1 f.v q (bv f.b)) (hq : q = f.b.length)
    (hi : W.ownsRow w.heap.size 3 1 (.slice A2 j c2) j is) (hd : ∀ k, (Value.slice A2 j c2).ownBlock = some k → ¬ blks (.slice (some ⟨g, 0, none⟩) n c) bl k) (hw : Below w.heap.size w W)
    (_ : w10.ownsRow w.heap.size 3 1 (.slice A10 (j + 1) c10) (j + 1) (is ++ [i0])) (hg : ((w9.setCell ⟨g, k, none⟩ f.v).alloc (.cells #[i0] 3)).grownBy w10 (Value.slice A2 j c2).ownBlock)
    (hor : (Value.slice A10 (j + 1) c10).ownBlock = (Value.slice A2 j c2).ownBlock ∨ (Value.slice A10 (j + 1) c10).ownBlock = some ((w9.setCell ⟨g, k, none⟩ f.v).alloc (.cells #[i0] 3)).heap.size) :
    Below w.heap.size w w10 ∧ Bods w10 w.heap.size (.slice (some ⟨g, 0, none⟩) n c) n (bl.set k f) ∧ ∀ k', (Value.slice A10 (j + 1) c10).ownBlock = some k' → ¬ blks (.slice (some ⟨g, 0, none⟩) n c) (bl.set k f) k' := by
  have grow9 : W.grownBy w9 none := ⟨h9.os, h9.tape, h9.output, h9.size, fun k hk _ => h9.block k hk⟩
  have fnew : ∀ k, f.v.ownBlock = some k → W.heap.size ≤ k := fun k hk => (hf.lt k hk).1
  have B1 := hb.set (f := f) hk grow9 (fun k hk => by cases hk) (own_more (by rw [← hq]; exact hf) hw.size) (fun k hk => .inr (fun hbl => by have := (hb.lt hbl).2; have := fnew k hk; omega))
  have W2 : Below (w9.setCell ⟨g, k, none⟩ f.v).heap.size (w9.setCell ⟨g, k, none⟩ f.v) ((w9.setCell ⟨g, k, none⟩ f.v).alloc (.cells #[i0] 3)) := (Below.refl _ _).alloc (Nat.le_refl _) _
  have hg' : w.heap.size ≤ g := (hb.lt (.inl rfl)).1
  have B0 : Below w.heap.size w (w9.setCell ⟨g, k, none⟩ f.v) := (hw.trans (h9.mono hw.size)).setCell hg' _
  have bt := grown_but (S := fun k => (Value.slice A2 j c2).ownBlock = some k) hg (fun _ h => h)
  have sep : ∀ k', (Value.slice A2 j c2).ownBlock = some k' → ¬ blks (.slice (some ⟨g, 0, none⟩) n c) (bl.set k f) k' := fun k' h1 h2 => by
    rcases h2 with h2 | ⟨i, f2, h2, h3⟩
    · exact hd k' h1 (.inl h2)
    · by_cases hik : i = k
      · subst hik
        rw [List.getElem?_set_self (List.getElem?_eq_some_iff.1 hk).1] at h2
        injection h2 with h2; subst h2
        have := fnew k' h3; have := (hi.lt k' h1).2; omega
      · rw [List.getElem?_set_ne (fun e => hik e.symm)] at h2
        exact hd k' h1 (.inr ⟨i, f2, h2, h3⟩)
  have B2 := B1.below W2
  refine ⟨(B0.trans (W2.mono B0.size)).trans (bt.below (fun k' h1 h2 => by have := (hi.lt k' h2).1; omega) (Nat.le_trans B0.size W2.size)), B2.but bt (fun k' h1 h2 => sep k' h2 h1), fun k' h1 h2 => ?_⟩
  rcases hor with h3 | h3
  · exact sep k' (h3 ▸ h1) h2
  · rw [h3] at h1; injection h1 with h1; have := (B2.lt h2).2; omega
set_option maxRecDepth 100000 in
set_option maxHeartbeats 12800000 in
theorem rfill_any {B : Nat} (w : World) (A : Option Addr) (N c : Nat) (l : List Cc) (hl : l.length = N) (hr : Rd B w A (ccs l)) (hb : ∀ k ∈ l, Rd B w k.A (bv k.y.body)) (hB : B ≤ w.heap.size) (hN : N ≤ 1000) :
    Calls Try.prog 14 #[.slice A N c] w (RetRFill l w) := by
  have HL := Lib.hid hl
  have HR := Lib.hid (hr.more hB)
  have HBO0 := Lib.hid (fun k hk => (hb k hk).more hB)
  have HN := Lib.hid hN
  have BW := Lib.hid (Below.refl w.heap.size w)
  clear hl hr hb hB
  go_enter Try.func14, Try.ntmps14
  go_wp2_with fail
  go_loopw [7] (fun i wr => ∃ j : Nat, j ≤ N ∧ i = .int .i64 j ∧ Below w.heap.size w wr ∧ Hid (allOk (l.take j))) (fun i _ => N - (intOf i).toNat)
  case atStart => exact ⟨0, Nat.zero_le _, rfl, BW.out, Lib.hid (fun k hk => by simp at hk)⟩
  case round =>
    clear BW
    obtain ⟨j, hj, rfl, hbw, HA⟩ := hrel
    by_cases hlt : j < N
    · have hklx : j < l.length := by rw [HL.out]; exact hlt
      obtain ⟨x, hxex⟩ : ∃ x, x = l[j] := ⟨_, rfl⟩
      have hxmx : x ∈ l := by rw [hxex]; exact List.getElem_mem hklx
      have hrdx := HR.out
      obtain ⟨ad, hAx, -, -⟩ := rd_cell hrdx hklx
      have hcellx : ∀ w', Below w.heap.size w w' → ∀ i v, (ccV x)[i]? = some v → w'.cell? ((ad.add (j * 11)).add i) = some v := fun w' hb' i v hv => by
        obtain ⟨ad', hA', _, hc⟩ := rd_cell (hrdx.below hb') hklx
        rw [hAx] at hA'
        injection hA' with hA'
        subst hA'
        exact hc i v (by rw [← hxex]; exact hv)
      obtain ⟨csx, hcsx⟩ : ∃ cs, cs = clA x.y x.A x.c := ⟨_, rfl⟩
      have HCWx := Lib.hid (show ∀ w', Below w.heap.size w w' → ∀ i v, csx.toList[i]? = some v → w'.cell? ((ad.add (j * 11)).add i) = some v from fun w' hb' i v hv => hcellx w' hb' i v (by rw [hcsx] at hv; exact hv))
      have HIx := Lib.hid (show (Try.prog.info? 44).map (·.size) = some csx.toList.length from by rw [hcsx]; kernel_rfl)
      have HCSx := Lib.hid hcsx
      have HXMx := Lib.hid hxmx
      have HXEx := Lib.hid hxex
      have HTX := Lib.hid (show l.take (j + 1) = l.take j ++ [x] from by rw [hxex]; exact List.take_succ_eq_append_getElem hklx)
      subst hAx
      have HB := Lib.hid hbw
      have k0 : (0 : Int) ≤ (j : Int) := by omega
      have k1 : (j : Int) < (N : Int) := by omega
      have HRT := Lib.hid (show ∀ W, Below w.heap.size w W → Calls Try.prog 20 #[.agg csx] W (RetB (.bool (decide (okCl x.y))) W) from fun W hW => by rw [HCSx.out]; exact cright_any x.y x.A x.c W ((HBO0.out x HXMx.out).below hW) hW.size)
      clear hxmx hrdx hcellx hcsx hxex hbw
      by_cases ok : okCl x.y
      · have HOK := Lib.hid ok
        rw [decide_eq_true ok] at HRT
        clear ok
        go_wp2_with (refine wpList_load_at rfl 44 (.tmp 19) rfl (ad.add (j * 11)) rfl (HCWx.out _ (HB.out)) Try.underlying44 rfl HIx.out ?_; change wpList _ _ _ _ (Act.put _ _ (.agg csx)) _)
        refine (HRT.out _ HB.out).mono ?_
        rintro e w5 ⟨rfl, bw⟩
        have B5 := Lib.hid (HB.out.trans (bw.mono HB.out.size))
        clear bw HB
        go_wp2_with fail
        go_roundw
        case rel => exact ⟨j + 1, by omega, by go_num, B5.out, Lib.hid (fun k hk => by
          rw [HTX.out] at hk
          rcases List.mem_append.1 hk with h | h
          · exact HA.out k h
          · rw [List.mem_singleton] at h; rw [h]; exact HOK.out)⟩
        case measure => (simp [intOf]; try omega)
      · have hno := Lib.hid (show ¬ allOk l from fun h => ok (h x HXMx.out))
        rw [decide_eq_false ok] at HRT
        clear ok
        go_wp2_with (refine wpList_load_at rfl 44 (.tmp 19) rfl (ad.add (j * 11)) rfl (HCWx.out _ (HB.out)) Try.underlying44 rfl HIx.out ?_; change wpList _ _ _ _ (Act.put _ _ (.agg csx)) _)
        refine (HRT.out _ HB.out).mono ?_
        rintro e w5 ⟨rfl, bw⟩
        have B5 := Lib.hid (HB.out.trans (bw.mono HB.out.size))
        clear bw HB
        go_wp2_with fail
        go_ret3
        exact .inr ⟨hno.out, rfl, B5.out⟩
    · obtain rfl : N = j := by omega
      have HALL := Lib.hid (show allOk l from by
        have h := HA.out
        rw [List.take_of_length_le (by rw [HL.out]; exact Nat.le_refl _)] at h; exact h)
      have B1 := Lib.hid hbw
      clear hbw hlt hj HA
      obtain ⟨wo, hwo⟩ : ∃ v, v = wr := ⟨_, rfl⟩
      subst hwo
      go_wp2_with fail
      go_loopw [5, 6, 8, 9, 10] (fun b q i _ _ wr => ∃ (j n : Nat) (A1 : Option Addr) (c1 : Nat) (A2 : Option Addr) (c2 : Nat) (bl : List Eb), j ≤ N ∧ i = .int .i64 j ∧ b = .slice A1 n c1 ∧ q = .slice A2 j c2 ∧ Below w.heap.size w wr ∧
        Hid (Bods wr w.heap.size (.slice A1 n c1) n bl ∧ ebb bl = fillB encCl (ys (l.take j)) ∧ wr.ownsRow w.heap.size 3 1 (.slice A2 j c2) j (ev (inB encCl (ys (l.take j)))) ∧ (∀ k, (Value.slice A2 j c2).ownBlock = some k → ¬ blks (.slice A1 n c1) bl k))) (fun _ _ i _ _ _ => N - (intOf i).toNat)
      case atStart => exact ⟨0, 0, none, 0, none, 0, [], Nat.zero_le _, rfl, rfl, rfl, B1.out, Lib.hid ⟨Bods.nil, rfl, World.ownsRow_nil _ _ _ _, fun k hk => by (cases hk)⟩⟩
      case round =>
        clear B1
        obtain ⟨j, n, A1, c1, A2, c2, bl, hj, rfl, rfl, rfl, hbw, HI⟩ := hrel
        by_cases hlt : j < N
        · have hklx : j < l.length := by rw [HL.out]; exact hlt
          obtain ⟨x, hxex⟩ : ∃ x, x = l[j] := ⟨_, rfl⟩
          have hxmx : x ∈ l := by rw [hxex]; exact List.getElem_mem hklx
          have hrdx := HR.out
          obtain ⟨ad, hAx, -, -⟩ := rd_cell hrdx hklx
          have hcellx : ∀ w', Below w.heap.size w w' → ∀ i v, (ccV x)[i]? = some v → w'.cell? ((ad.add (j * 11)).add i) = some v := fun w' hb' i v hv => by
            obtain ⟨ad', hA', _, hc⟩ := rd_cell (hrdx.below hb') hklx
            rw [hAx] at hA'
            injection hA' with hA'
            subst hA'
            exact hc i v (by rw [← hxex]; exact hv)
          obtain ⟨csx, hcsx⟩ : ∃ cs, cs = clA x.y x.A x.c := ⟨_, rfl⟩
          have HCWx := Lib.hid (show ∀ w', Below w.heap.size w w' → ∀ i v, csx.toList[i]? = some v → w'.cell? ((ad.add (j * 11)).add i) = some v from fun w' hb' i v hv => hcellx w' hb' i v (by rw [hcsx] at hv; exact hv))
          have HIx := Lib.hid (show (Try.prog.info? 44).map (·.size) = some csx.toList.length from by rw [hcsx]; kernel_rfl)
          have HCSx := Lib.hid hcsx
          have HXMx := Lib.hid hxmx
          have HXEx := Lib.hid hxex
          have HTX := Lib.hid (show l.take (j + 1) = l.take j ++ [x] from by rw [hxex]; exact List.take_succ_eq_append_getElem hklx)
          subst hAx
          have HB := Lib.hid hbw
          have k0 : (0 : Int) ≤ (j : Int) := by omega
          have k1 : (j : Int) < (N : Int) := by omega
          have hokx := HALL.out x HXMx.out
          have HRE0 := Lib.hid (show ∀ W, Below w.heap.size w W → Calls Try.prog 43 #[.agg csx] W (RetRow 5 (bv (encCl x.y)) W) from fun W hW => by rw [HCSx.out]; exact cencode_yes x.y hokx x.A x.c W ((HBO0.out x HXMx.out).below hW) hW.size)
          have H5L0 := Lib.hid (encCl_le hokx)
          have hallj : allOk (l.take (j + 1)) := fun k hk => HALL.out k (List.mem_of_mem_take hk)
          have hfil : fillB encCl (ys (l.take (j + 1))) = putB (fillB encCl (ys (l.take j))) (encCl x.y) := by rw [HTX.out, ys_append]; exact fill_snoc encCl _ _
          have hins : inB encCl (ys (l.take (j + 1))) = inB encCl (ys (l.take j)) ++ [(fillB encCl (ys (l.take (j + 1)))).length - 1] := by rw [HTX.out, ys_append]; exact in_snoc encCl _ _
          have hnj : n ≤ j := by
            have h1 := fill_count (l := l.take j) (fun k hk => HALL.out k (List.mem_of_mem_take hk))
            have h2 : (ebb bl).length = n := by rw [ebb_length]; exact HI.out.1.len
            rw [← HI.out.2.1, h2, List.length_take] at h1; omega
          have hle : ∀ f ∈ bl, f.b.length ≤ 103 := fun f hf => fill_le (l := l.take j) (fun k hk => HALL.out k (List.mem_of_mem_take hk)) _ (by rw [← HI.out.2.1]; exact List.mem_map.2 ⟨f, hf, rfl⟩)
          have HFIL := Lib.hid hfil
          have HINS := Lib.hid hins
          have HNJ := Lib.hid hnj
          have HLE := Lib.hid hle
          have HJB := Lib.hid (show j + 1 ≤ 1000 from by have := HN.out; omega)
          clear hxmx hrdx hcellx hcsx hxex hbw hokx hallj hfil hins hnj hle
          go_wp2_with (refine wpList_load_at rfl 44 (.tmp 31) rfl (ad.add (j * 11)) rfl (HCWx.out _ (HB.out)) Try.underlying44 rfl HIx.out ?_; change wpList _ _ _ _ (Act.put _ _ (.agg csx)) _)
          refine (HRE0.out _ HB.out).mono ?_
          rintro e w5 ⟨A5, n5, c5, rfl, ho, bw⟩
          have B5 := Lib.hid (HB.out.trans (bw.mono HB.out.size))
          have BN5 := Lib.hid bw
          have RB0 := Lib.hid (Rd.own ho)
          have H5 := Lib.hid (own_blen ho)
          have H5O := Lib.hid ho.lt
          have H5L := Lib.hid (show n5 ≤ 103 from by have := own_blen ho; have := H5L0.out; omega)
          have hbo := HI.out.1.below bw
          have hio := own_below HI.out.2.2.1 bw
          have HIO := Lib.hid hio
          have HBD := Lib.hid hbo
          clear bw ho HB hbo hio
          obtain ⟨kI, hkI⟩ : ∃ kI : Int, kI = (n : Int) - 1 := ⟨_, rfl⟩
          have HKI := Lib.hid hkI
          have wkI : IntKind.i64.wrap ((n : Int) - 1) = kI := by rw [hkI]; exact IntWalk.i64_in _ (by have := HNJ.out; have := HJB.out; omega)
          by_cases h0 : n = 0
          · have kn : kI < 0 := by omega
            have HN0 := Lib.hid (show (ebb bl).length = 0 by rw [ebb_length, HBD.out.len]; exact h0)
            clear h0 hkI
            have W6 := Lib.hid (show Below w5.heap.size w5 (w5.alloc (.cells #[.slice none 0 0] 34)) from (Below.refl _ _).alloc (Nat.le_refl _) _)
            have R6 := Lib.hid (show Rd (w5.heap.size + 1) (w5.alloc (.cells #[.slice none 0 0] 34)) (some ⟨w5.heap.size, 0, .none⟩) (ebv [⟨none, 0, []⟩]) from Rd.lit w5 34 (ebv [⟨none, 0, []⟩]))
            have P6 := Lib.hid (HBD.out.below W6.out)
            go_upto_region 14 with fail
            go_wp2_with (show wpList _ _ _ ({ dst := some 52, op := .call { callee := .builtin .append, args := #[.tmp 50, .tmp 51], argTypes := #[24, 24] }, type := _, pos := _, after := _, guard := _ } :: _) _ _; apply Classical.byContradiction; intro hneg)
            refine hneg ?_
            clear hneg
            refine wpList_app _ rfl (.tmp 50) (.tmp 51) _ rfl rowsElt (base := w.heap.size) (v := .slice A1 n c1) rfl P6.out.own (m := 1) rfl R6.out rfl (ebv_one _) (by have := HNJ.out; have := HJB.out; omega) (Nat.le_trans B5.out.size W6.out.size) ?_
            intro A7 c7 w6 ho7 hg7 hor7
            obtain ⟨g, hA7, _, _, _⟩ := own_addr ho7 (by omega)
            subst hA7
            obtain ⟨e, he⟩ : ∃ e : Eb, e = ⟨none, 0, []⟩ := ⟨_, rfl⟩
            have HBD6 := Lib.hid (show Bods w6 w.heap.size (.slice (some ⟨g, 0, none⟩) (n + 1) c7) (n + 1) (bl ++ [e]) from by
              rw [he]; exact P6.out.push (World.ownsRow_nil _ _ _ _) (fun k hk => by cases hk) hg7 ho7 hor7)
            obtain ⟨bl6, hbl6⟩ : ∃ b6, b6 = bl ++ [e] := ⟨_, rfl⟩
            have bt7 := grown_but (S := fun k => (Value.slice A1 n c1).ownBlock = some k) hg7 (fun _ h => h)
            have hi7 : w6.ownsRow w.heap.size 3 1 (.slice A2 j c2) j (ev (inB encCl (ys (l.take j)))) := Own.but (own_below HIO.out W6.out) bt7 (fun k h1 h2 => HI.out.2.2.2 k h1 (.inl h2))
            have HIO6 := Lib.hid hi7
            have HD6 := Lib.hid (show ∀ k, (Value.slice A2 j c2).ownBlock = some k → ¬ blks (.slice (some ⟨g, 0, none⟩) (n + 1) c7) bl6 k from fun k h1 h2 => by
              rcases h2 with h2 | ⟨i, f, h2, h3⟩
              · rcases hor7 with h4 | h4
                · exact HI.out.2.2.2 k h1 (.inl (h4 ▸ h2))
                · rw [h4] at h2; injection h2 with h2
                  have := ((own_below HIO.out W6.out).lt k h1).2; omega
              · rw [hbl6] at h2
                rcases get_snoc h2 with h2 | ⟨_, h2⟩
                · exact HI.out.2.2.2 k h1 (.inr ⟨i, f, h2, h3⟩)
                · rw [h2, he] at h3; cases h3)
            have HK6 := Lib.hid (show bl6[n]? = some e from by rw [hbl6, ← HBD.out.len]; simp)
            rw [← hbl6] at HBD6
            have RB := Lib.hid (show Rd w5.heap.size w6 A5 (bv (encCl x.y)) from rd_but (RB0.out.below W6.out) bt7 (fun ad had h => by
              have h1 := (H5O.out ad.block (by rw [had]; rfl)).1
              have h2 := (HI.out.1.lt (.inl h)).2
              omega))
            have RB := Lib.hid (RB.out.more (Nat.le_trans W6.out.size hg7.size))
            have B6 := Lib.hid (show Below w.heap.size w w6 from (B5.out.trans (W6.out.mono B5.out.size)).trans (bt7.below (fun k h1 h2 => by have := (HI.out.1.lt (.inl h2)).1; omega) (Nat.le_trans B5.out.size W6.out.size)))
            have HSB := Lib.hid (show w5.heap.size ≤ w6.heap.size from Nat.le_trans W6.out.size hg7.size)
            have HQL := Lib.hid (show e.b.length ≤ 103 by rw [he]; exact Nat.zero_le _)
            have HEB := Lib.hid (show ∀ b, b = e.b ++ encCl x.y → (bl6.map Eb.b).set n b = fillB encCl (ys (l.take (j + 1))) from fun b hb => by
              have hbn : (ebb bl).length = n := by rw [ebb_length]; exact HBD.out.len
              rw [HFIL.out, ← HI.out.2.1, putB, if_pos (.inl HN0.out), hbl6, hb, he, List.map_append, ← hbn]
              simp [ebb])
            have HLN := Lib.hid (show (fillB encCl (ys (l.take (j + 1)))).length - 1 = n from by
              have := HEB.out _ rfl
              rw [← this, List.length_set, List.length_map, hbl6, List.length_append, HBD.out.len]; rfl)
            have wk2 : IntKind.i64.wrap (kI + 1) = (n : Int) := by rw [HKI.out]; rw [IntWalk.i64_in _ (by have := HNJ.out; have := HJB.out; omega)]; omega
            clear W6 R6 P6 ho7 hg7 hor7 he hbl6 bt7 hi7
            obtain ⟨c6, hc6⟩ : ∃ c6, c6 = c7 := ⟨_, rfl⟩
            subst hc6
            obtain ⟨n6, hn6⟩ : ∃ n6, n6 = n + 1 := ⟨_, rfl⟩
            rw [← hn6] at HBD6 HD6 ⊢
            obtain ⟨k, hkn⟩ : ∃ k, k = n := ⟨_, rfl⟩
            rw [← hkn] at HK6 HEB HLN wk2
            have HKN := Lib.hid hkn
            have HN6 := Lib.hid hn6
            clear hkn hn6
            obtain ⟨q, hq⟩ : ∃ q, q = e.b.length := ⟨_, rfl⟩
            have HQ := Lib.hid hq.symm
            have hev : e.v = .slice e.A q e.c := by rw [Eb.v, hq]
            have hoe := HBD6.out.el k e HK6.out
            have HRE := Lib.hid (show Rd w6.heap.size w6 e.A (bv e.b) from Rd.own (n := e.b.length) (c := e.c) hoe)
            have hc6 : w6.cell? ⟨g, k, none⟩ = some (.slice e.A q e.c) := by
              have := HBD6.out.own.cells (g := g) rfl k _ (ebv_get HK6.out)
              rw [add_head, hev] at this; exact this
            have HCK := Lib.hid hc6
            have HFK := Lib.hid (HBD6.out.own.frozenAt k)
            have HCL := Lib.hid (HBD6.out.lt (k := g) (.inl rfl)).2
            have k2 : (0 : Int) ≤ (k : Int) := by omega
            have k3 : (k : Int) < (n6 : Int) := by have h1 := (List.getElem?_eq_some_iff.1 HK6.out).1; rw [HBD6.out.len] at h1; omega
            have hc6b : (w6.alloc (.cells #[] 5)).cell? ⟨g, k, none⟩ = some (.slice e.A q e.c) := (Below.cell (p := ⟨g, k, none⟩) ((Below.refl w6.heap.size w6).alloc (Nat.le_refl _) _) HCL.out).trans HCK.out
            clear hev hoe hq
            go_wp2_with (show wpList _ _ _ ({ dst := some 62, op := .call { callee := .builtin .append, args := #[.tmp 57, .tmp 61], argTypes := #[34, 34] }, type := _, pos := _, after := _, guard := _ } :: _) _ _; apply Classical.byContradiction; intro hneg)
            refine hneg ?_
            clear hneg
            obtain ⟨w7, hw7⟩ : ∃ v, v = w6.alloc (.cells #[] 5) := ⟨_, rfl⟩
            have b7 : Below w6.heap.size w6 w7 := by rw [hw7]; exact (Below.refl _ _).alloc (Nat.le_refl _) _
            have o7 : w7.ownsRow w6.heap.size 5 1 (.slice (some ⟨w6.heap.size, 0, none⟩) 0 0) 0 [] := by rw [hw7]; exact World.ownsRow_made _ #[] 0 (Nat.le_refl _) (Nat.zero_le _) rfl
            rw [← hw7]
            have B7 := Lib.hid b7
            have O7 := Lib.hid o7
            have R7 := Lib.hid (HRE.out.below b7)
            clear hw7 b7 o7
            refine wpList_app _ rfl (.tmp 57) (.tmp 61) _ rfl Wi.bytesElt (base := w6.heap.size) (v := .slice (some ⟨w6.heap.size, 0, none⟩) 0 0) rfl O7.out (m := q) rfl R7.out (by rw [bv_length]; exact HQ.out) (bv_one _) (by have := HQL.out; have := HQ.out; omega) B7.out.size ?_
            intro A8 c8 w8 ho8 hg8 _
            have B8 := Lib.hid (app_below B7.out O7.out hg8 (Nat.le_refl _) B7.out.size)
            have O8 := Lib.hid (own_eq ho8 (Nat.zero_add q) (List.nil_append _))
            rw [Nat.zero_add]
            have R8 := Lib.hid (RB.out.below B8.out)
            clear ho8 hg8 B7 O7 R7
            go_wp2_with (show wpList _ _ _ ({ dst := some 64, op := .call { callee := .builtin .append, args := #[.tmp 62, .tmp 63], argTypes := #[34, 34] }, type := _, pos := _, after := _, guard := _ } :: _) _ _; apply Classical.byContradiction; intro hneg)
            refine hneg ?_
            clear hneg
            refine wpList_app _ rfl (.tmp 62) (.tmp 63) _ rfl Wi.bytesElt (base := w6.heap.size) (v := .slice A8 q c8) rfl O8.out (m := n5) rfl R8.out (by rw [bv_length]; exact H5.out) (bv_one _) (by have := HQL.out; have := HQ.out; have := H5L.out; omega) B8.out.size ?_
            intro A9 c9 w9 ho9 hg9 _
            have B9 := Lib.hid (app_below B8.out O8.out hg9 (Nat.le_refl _) B8.out.size)
            obtain ⟨f, hf⟩ : ∃ f : Eb, f = ⟨A9, c9, e.b ++ encCl x.y⟩ := ⟨_, rfl⟩
            have hfl : q + n5 = f.b.length := by rw [hf, List.length_append, HQ.out, H5.out]
            have hfv : f.v = .slice A9 (q + n5) c9 := by rw [Eb.v, ← hfl, hf]
            have O9 := Lib.hid (show w9.ownsRow w6.heap.size 5 1 f.v (q + n5) (bv f.b) from by rw [hfv, hf, bv_append]; exact ho9)
            have HFB := Lib.hid (show f.b = e.b ++ encCl x.y from by rw [hf])
            have HFL := Lib.hid hfl
            have HFV := Lib.hid hfv
            have hc9 := (B9.out.cell (p := ⟨g, k, none⟩) HCL.out).trans HCK.out
            have hz9 := (B9.out.frozen (p := ⟨g, k, none⟩) HCL.out).trans HFK.out
            have IO := Lib.hid (own_below (w' := (w9.setCell ⟨g, k, none⟩ (.slice A9 (q + n5) c9)).alloc (.cells #[.int .i64 (k : Int)] 3)) (ownsRow_setCell_other (own_below HIO6.out B9.out) (a := ⟨g, k, none⟩) (fun h => HD6.out g h (.inl rfl)) (.slice A9 (q + n5) c9)) ((Below.refl _ _).alloc (Nat.le_refl _) _))
            have IR := Lib.hid (show Rd (w9.heap.size + 1) ((w9.setCell ⟨g, k, none⟩ (.slice A9 (q + n5) c9)).alloc (.cells #[.int .i64 (k : Int)] 3)) (some ⟨w9.heap.size, 0, .none⟩) (ev [k]) from by
              have h := Rd.lit (w9.setCell ⟨g, k, none⟩ (.slice A9 (q + n5) c9)) 3 (ev [k])
              have e : (w9.setCell ⟨g, k, none⟩ (.slice A9 (q + n5) c9)).heap.size = w9.heap.size := by simp
              rw [e] at h; exact h)
            have IS := Lib.hid (show w.heap.size ≤ ((w9.setCell ⟨g, k, none⟩ (.slice A9 (q + n5) c9)).alloc (.cells #[.int .i64 (k : Int)] 3)).heap.size from Nat.le_trans (Nat.le_trans B6.out.size B9.out.size) (by simp))
            clear ho9 hg9 B8 O8 R8 hf hfl hfv
            go_wp2_with (
              at_builtin
              refine wpList_app _ rfl (.tmp 66) (.tmp 68) _ rfl intsElt (base := w.heap.size) (v := .slice A2 j c2) rfl IO.out (m := 1) rfl IR.out rfl (ev_one _) ?_ ?_ ?_
              · have := HJB.out; omega
              · exact IS.out
              intro A10 c10 w10 ho10 hg10 hor10
              have O10 := Lib.hid ho10
              have G10 := Lib.hid hg10
              have R10 := Lib.hid hor10
              clear ho10 hg10 hor10)
            go_roundw
            case rel =>
              have h := O10.out; have hg := G10.out; have ho := R10.out
              rw [← HFV.out] at hg ho
              obtain ⟨h1, h2, h3⟩ := rstep HBD6.out HK6.out B9.out O9.out HFL.out HIO6.out HD6.out B6.out h hg ho
              refine ⟨j + 1, n6, some ⟨g, 0, none⟩, c6, A10, c10, bl6.set k f, by omega, by go_num, rfl, rfl, h1, Lib.hid ⟨h2, ?_, ?_, h3⟩⟩
              · rw [ebb, List.map_set]; exact (HEB.out _ HFB.out)
              · rw [HINS.out, HLN.out, ev_append]; exact h
            case measure => (simp [intOf]; try omega)
          · obtain ⟨k, hk⟩ : ∃ k, n = k + 1 := ⟨n - 1, by omega⟩
            have HNK := Lib.hid hk
            obtain ⟨g, hA1, _, _, _⟩ := own_addr HBD.out.own (by omega)
            subst hA1
            obtain ⟨e, he⟩ : ∃ e, bl[k]? = some e := ⟨bl[k]'(by rw [HBD.out.len, hk]; omega), List.getElem?_eq_getElem _⟩
            have HK6 := Lib.hid he
            have HQL := Lib.hid (HLE.out e (List.mem_of_getElem? he))
            obtain rfl : kI = (k : Int) := by omega
            have kn : ¬ (k : Int) < 0 := by omega
            clear he hkI h0 hk
            by_cases hbig : 103 < e.b.length + n5
            · obtain ⟨k0, hk0⟩ : ∃ k0, k0 = k := ⟨_, rfl⟩
              subst hk0
              obtain ⟨e0, he0⟩ : ∃ e0, e0 = e := ⟨_, rfl⟩
              subst he0
              obtain ⟨g0, hg0⟩ : ∃ g0, g0 = g := ⟨_, rfl⟩
              subst hg0
              obtain ⟨q0, hq0⟩ : ∃ q, q = e0.b.length := ⟨_, rfl⟩
              have hev0 : e0.v = .slice e0.A q0 e0.c := by rw [Eb.v, hq0]
              have hc5 : w5.cell? ⟨g0, k0, none⟩ = some (.slice e0.A q0 e0.c) := by
                have := HBD.out.own.cells (g := g0) rfl k0 _ (ebv_get HK6.out)
                rw [add_head, hev0] at this; exact this
              have k2 : (0 : Int) ≤ (k0 : Int) := by omega
              have k3 : (k0 : Int) < (n : Int) := by have := HNK.out; omega
              have hb3 : (103 : Int) < ((q0 + n5 : Nat) : Int) := by omega
              have ws : IntKind.i64.wrap ((q0 : Int) + (n5 : Int)) = ((q0 + n5 : Nat) : Int) := by rw [IntWalk.i64_in _ (by have := HQL.out; have := H5L.out; omega)]; omega
              have HCND := Lib.hid (show 103 < ((ebb bl).getD ((ebb bl).length - 1) []).length + (encCl x.y).length from by
                rw [ebb_length, HBD.out.len, show n - 1 = k0 by have := HNK.out; omega, ebb_getD HK6.out, H5.out]; exact hbig)
              clear hbig hq0 hev0 HK6 HQL
              have W6 := Lib.hid (show Below w5.heap.size w5 (w5.alloc (.cells #[.slice none 0 0] 34)) from (Below.refl _ _).alloc (Nat.le_refl _) _)
              have R6 := Lib.hid (show Rd (w5.heap.size + 1) (w5.alloc (.cells #[.slice none 0 0] 34)) (some ⟨w5.heap.size, 0, .none⟩) (ebv [⟨none, 0, []⟩]) from Rd.lit w5 34 (ebv [⟨none, 0, []⟩]))
              have P6 := Lib.hid (HBD.out.below W6.out)
              go_upto_region 14 with fail
              go_wp2_with (show wpList _ _ _ ({ dst := some 52, op := .call { callee := .builtin .append, args := #[.tmp 50, .tmp 51], argTypes := #[24, 24] }, type := _, pos := _, after := _, guard := _ } :: _) _ _; apply Classical.byContradiction; intro hneg)
              refine hneg ?_
              clear hneg
              refine wpList_app _ rfl (.tmp 50) (.tmp 51) _ rfl rowsElt (base := w.heap.size) (v := .slice (some ⟨g0, 0, none⟩) n c1) rfl P6.out.own (m := 1) rfl R6.out rfl (ebv_one _) (by have := HNJ.out; have := HJB.out; omega) (Nat.le_trans B5.out.size W6.out.size) ?_
              intro A7 c7 w6 ho7 hg7 hor7
              obtain ⟨g, hA7, _, _, _⟩ := own_addr ho7 (by omega)
              subst hA7
              obtain ⟨e, he⟩ : ∃ e : Eb, e = ⟨none, 0, []⟩ := ⟨_, rfl⟩
              have HBD6 := Lib.hid (show Bods w6 w.heap.size (.slice (some ⟨g, 0, none⟩) (n + 1) c7) (n + 1) (bl ++ [e]) from by
                rw [he]; exact P6.out.push (World.ownsRow_nil _ _ _ _) (fun k hk => by cases hk) hg7 ho7 hor7)
              obtain ⟨bl6, hbl6⟩ : ∃ b6, b6 = bl ++ [e] := ⟨_, rfl⟩
              have bt7 := grown_but (S := fun k => (Value.slice (some ⟨g0, 0, none⟩) n c1).ownBlock = some k) hg7 (fun _ h => h)
              have hi7 : w6.ownsRow w.heap.size 3 1 (.slice A2 j c2) j (ev (inB encCl (ys (l.take j)))) := Own.but (own_below HIO.out W6.out) bt7 (fun k h1 h2 => HI.out.2.2.2 k h1 (.inl h2))
              have HIO6 := Lib.hid hi7
              have HD6 := Lib.hid (show ∀ k, (Value.slice A2 j c2).ownBlock = some k → ¬ blks (.slice (some ⟨g, 0, none⟩) (n + 1) c7) bl6 k from fun k h1 h2 => by
                rcases h2 with h2 | ⟨i, f, h2, h3⟩
                · rcases hor7 with h4 | h4
                  · exact HI.out.2.2.2 k h1 (.inl (h4 ▸ h2))
                  · rw [h4] at h2; injection h2 with h2
                    have := ((own_below HIO.out W6.out).lt k h1).2; omega
                · rw [hbl6] at h2
                  rcases get_snoc h2 with h2 | ⟨_, h2⟩
                  · exact HI.out.2.2.2 k h1 (.inr ⟨i, f, h2, h3⟩)
                  · rw [h2, he] at h3; cases h3)
              have HK6 := Lib.hid (show bl6[n]? = some e from by rw [hbl6, ← HBD.out.len]; simp)
              rw [← hbl6] at HBD6
              have RB := Lib.hid (show Rd w5.heap.size w6 A5 (bv (encCl x.y)) from rd_but (RB0.out.below W6.out) bt7 (fun ad had h => by
                have h1 := (H5O.out ad.block (by rw [had]; rfl)).1
                have h2 := (HI.out.1.lt (.inl h)).2
                omega))
              have RB := Lib.hid (RB.out.more (Nat.le_trans W6.out.size hg7.size))
              have B6 := Lib.hid (show Below w.heap.size w w6 from (B5.out.trans (W6.out.mono B5.out.size)).trans (bt7.below (fun k h1 h2 => by have := (HI.out.1.lt (.inl h2)).1; omega) (Nat.le_trans B5.out.size W6.out.size)))
              have HSB := Lib.hid (show w5.heap.size ≤ w6.heap.size from Nat.le_trans W6.out.size hg7.size)
              have HQL := Lib.hid (show e.b.length ≤ 103 by rw [he]; exact Nat.zero_le _)
              have HEB := Lib.hid (show ∀ b, b = e.b ++ encCl x.y → (bl6.map Eb.b).set n b = fillB encCl (ys (l.take (j + 1))) from fun b hb => by
                have hbn : (ebb bl).length = n := by rw [ebb_length]; exact HBD.out.len
                rw [HFIL.out, ← HI.out.2.1, putB, if_pos (.inr HCND.out), hbl6, hb, he, List.map_append, ← hbn]
                simp [ebb])
              have HLN := Lib.hid (show (fillB encCl (ys (l.take (j + 1)))).length - 1 = n from by
                have := HEB.out _ rfl
                rw [← this, List.length_set, List.length_map, hbl6, List.length_append, HBD.out.len]; rfl)
              have wk2 : IntKind.i64.wrap ((k0 : Int) + 1) = (n : Int) := by rw [HKI.out]; rw [IntWalk.i64_in _ (by have := HNJ.out; have := HJB.out; omega)]; omega
              clear W6 R6 P6 ho7 hg7 hor7 he hbl6 bt7 hi7
              obtain ⟨c6, hc6⟩ : ∃ c6, c6 = c7 := ⟨_, rfl⟩
              subst hc6
              obtain ⟨n6, hn6⟩ : ∃ n6, n6 = n + 1 := ⟨_, rfl⟩
              rw [← hn6] at HBD6 HD6 ⊢
              obtain ⟨k, hkn⟩ : ∃ k, k = n := ⟨_, rfl⟩
              rw [← hkn] at HK6 HEB HLN wk2
              have HKN := Lib.hid hkn
              have HN6 := Lib.hid hn6
              clear hkn hn6
              obtain ⟨q, hq⟩ : ∃ q, q = e.b.length := ⟨_, rfl⟩
              have HQ := Lib.hid hq.symm
              have hev : e.v = .slice e.A q e.c := by rw [Eb.v, hq]
              have hoe := HBD6.out.el k e HK6.out
              have HRE := Lib.hid (show Rd w6.heap.size w6 e.A (bv e.b) from Rd.own (n := e.b.length) (c := e.c) hoe)
              have hc6 : w6.cell? ⟨g, k, none⟩ = some (.slice e.A q e.c) := by
                have := HBD6.out.own.cells (g := g) rfl k _ (ebv_get HK6.out)
                rw [add_head, hev] at this; exact this
              have HCK := Lib.hid hc6
              have HFK := Lib.hid (HBD6.out.own.frozenAt k)
              have HCL := Lib.hid (HBD6.out.lt (k := g) (.inl rfl)).2
              have k2 : (0 : Int) ≤ (k : Int) := by omega
              have k3 : (k : Int) < (n6 : Int) := by have h1 := (List.getElem?_eq_some_iff.1 HK6.out).1; rw [HBD6.out.len] at h1; omega
              have hc6b : (w6.alloc (.cells #[] 5)).cell? ⟨g, k, none⟩ = some (.slice e.A q e.c) := (Below.cell (p := ⟨g, k, none⟩) ((Below.refl w6.heap.size w6).alloc (Nat.le_refl _) _) HCL.out).trans HCK.out
              clear hev hoe hq
              go_wp2_with (show wpList _ _ _ ({ dst := some 62, op := .call { callee := .builtin .append, args := #[.tmp 57, .tmp 61], argTypes := #[34, 34] }, type := _, pos := _, after := _, guard := _ } :: _) _ _; apply Classical.byContradiction; intro hneg)
              refine hneg ?_
              clear hneg
              obtain ⟨w7, hw7⟩ : ∃ v, v = w6.alloc (.cells #[] 5) := ⟨_, rfl⟩
              have b7 : Below w6.heap.size w6 w7 := by rw [hw7]; exact (Below.refl _ _).alloc (Nat.le_refl _) _
              have o7 : w7.ownsRow w6.heap.size 5 1 (.slice (some ⟨w6.heap.size, 0, none⟩) 0 0) 0 [] := by rw [hw7]; exact World.ownsRow_made _ #[] 0 (Nat.le_refl _) (Nat.zero_le _) rfl
              rw [← hw7]
              have B7 := Lib.hid b7
              have O7 := Lib.hid o7
              have R7 := Lib.hid (HRE.out.below b7)
              clear hw7 b7 o7
              refine wpList_app _ rfl (.tmp 57) (.tmp 61) _ rfl Wi.bytesElt (base := w6.heap.size) (v := .slice (some ⟨w6.heap.size, 0, none⟩) 0 0) rfl O7.out (m := q) rfl R7.out (by rw [bv_length]; exact HQ.out) (bv_one _) (by have := HQL.out; have := HQ.out; omega) B7.out.size ?_
              intro A8 c8 w8 ho8 hg8 _
              have B8 := Lib.hid (app_below B7.out O7.out hg8 (Nat.le_refl _) B7.out.size)
              have O8 := Lib.hid (own_eq ho8 (Nat.zero_add q) (List.nil_append _))
              rw [Nat.zero_add]
              have R8 := Lib.hid (RB.out.below B8.out)
              clear ho8 hg8 B7 O7 R7
              go_wp2_with (show wpList _ _ _ ({ dst := some 64, op := .call { callee := .builtin .append, args := #[.tmp 62, .tmp 63], argTypes := #[34, 34] }, type := _, pos := _, after := _, guard := _ } :: _) _ _; apply Classical.byContradiction; intro hneg)
              refine hneg ?_
              clear hneg
              refine wpList_app _ rfl (.tmp 62) (.tmp 63) _ rfl Wi.bytesElt (base := w6.heap.size) (v := .slice A8 q c8) rfl O8.out (m := n5) rfl R8.out (by rw [bv_length]; exact H5.out) (bv_one _) (by have := HQL.out; have := HQ.out; have := H5L.out; omega) B8.out.size ?_
              intro A9 c9 w9 ho9 hg9 _
              have B9 := Lib.hid (app_below B8.out O8.out hg9 (Nat.le_refl _) B8.out.size)
              obtain ⟨f, hf⟩ : ∃ f : Eb, f = ⟨A9, c9, e.b ++ encCl x.y⟩ := ⟨_, rfl⟩
              have hfl : q + n5 = f.b.length := by rw [hf, List.length_append, HQ.out, H5.out]
              have hfv : f.v = .slice A9 (q + n5) c9 := by rw [Eb.v, ← hfl, hf]
              have O9 := Lib.hid (show w9.ownsRow w6.heap.size 5 1 f.v (q + n5) (bv f.b) from by rw [hfv, hf, bv_append]; exact ho9)
              have HFB := Lib.hid (show f.b = e.b ++ encCl x.y from by rw [hf])
              have HFL := Lib.hid hfl
              have HFV := Lib.hid hfv
              have hc9 := (B9.out.cell (p := ⟨g, k, none⟩) HCL.out).trans HCK.out
              have hz9 := (B9.out.frozen (p := ⟨g, k, none⟩) HCL.out).trans HFK.out
              have IO := Lib.hid (own_below (w' := (w9.setCell ⟨g, k, none⟩ (.slice A9 (q + n5) c9)).alloc (.cells #[.int .i64 (k : Int)] 3)) (ownsRow_setCell_other (own_below HIO6.out B9.out) (a := ⟨g, k, none⟩) (fun h => HD6.out g h (.inl rfl)) (.slice A9 (q + n5) c9)) ((Below.refl _ _).alloc (Nat.le_refl _) _))
              have IR := Lib.hid (show Rd (w9.heap.size + 1) ((w9.setCell ⟨g, k, none⟩ (.slice A9 (q + n5) c9)).alloc (.cells #[.int .i64 (k : Int)] 3)) (some ⟨w9.heap.size, 0, .none⟩) (ev [k]) from by
                have h := Rd.lit (w9.setCell ⟨g, k, none⟩ (.slice A9 (q + n5) c9)) 3 (ev [k])
                have e : (w9.setCell ⟨g, k, none⟩ (.slice A9 (q + n5) c9)).heap.size = w9.heap.size := by simp
                rw [e] at h; exact h)
              have IS := Lib.hid (show w.heap.size ≤ ((w9.setCell ⟨g, k, none⟩ (.slice A9 (q + n5) c9)).alloc (.cells #[.int .i64 (k : Int)] 3)).heap.size from Nat.le_trans (Nat.le_trans B6.out.size B9.out.size) (by simp))
              clear ho9 hg9 B8 O8 R8 hf hfl hfv
              go_wp2_with (
                at_builtin
                refine wpList_app _ rfl (.tmp 66) (.tmp 68) _ rfl intsElt (base := w.heap.size) (v := .slice A2 j c2) rfl IO.out (m := 1) rfl IR.out rfl (ev_one _) ?_ ?_ ?_
                · have := HJB.out; omega
                · exact IS.out
                intro A10 c10 w10 ho10 hg10 hor10
                have O10 := Lib.hid ho10
                have G10 := Lib.hid hg10
                have R10 := Lib.hid hor10
                clear ho10 hg10 hor10)
              go_roundw
              case rel =>
                have h := O10.out; have hg := G10.out; have ho := R10.out
                rw [← HFV.out] at hg ho
                obtain ⟨h1, h2, h3⟩ := rstep HBD6.out HK6.out B9.out O9.out HFL.out HIO6.out HD6.out B6.out h hg ho
                refine ⟨j + 1, n6, some ⟨g, 0, none⟩, c6, A10, c10, bl6.set k f, by omega, by go_num, rfl, rfl, h1, Lib.hid ⟨h2, ?_, ?_, h3⟩⟩
                · rw [ebb, List.map_set]; exact (HEB.out _ HFB.out)
                · rw [HINS.out, HLN.out, ev_append]; exact h
              case measure => (simp [intOf]; try omega)
            · have HBG := Lib.hid (show ¬ (103 < e.b.length + (encCl x.y).length) from by rw [H5.out]; exact hbig)
              have hb2 := Lib.hid hbig
              clear hbig
              obtain ⟨w6, hw6⟩ : ∃ v, v = w5 := ⟨_, rfl⟩
              subst hw6
              have HBD6 := HBD
              obtain ⟨c6, hc6⟩ : ∃ c6, c6 = c1 := ⟨_, rfl⟩
              subst hc6
              obtain ⟨bl6, hbl6⟩ : ∃ b6, b6 = bl := ⟨_, rfl⟩
              subst hbl6
              obtain ⟨n6, hn6⟩ : ∃ n6, n6 = n := ⟨_, rfl⟩
              subst hn6
              have HIO6 := HIO
              have HD6 := Lib.hid HI.out.2.2.2
              have RB := RB0
              have B6 := B5
              have HSB := Lib.hid (Nat.le_refl w6.heap.size)
              have HEB := Lib.hid (show ∀ b, b = e.b ++ encCl x.y → (bl6.map Eb.b).set k b = fillB encCl (ys (l.take (j + 1))) from fun b hb => by
                have hbn : (ebb bl6).length = n6 := by rw [ebb_length]; exact HBD.out.len
                have hge : (ebb bl6).getD k [] = e.b := ebb_getD HK6.out
                rw [HFIL.out, ← HI.out.2.1, putB, hbn, show n6 - 1 = k by have := HNK.out; omega, hge, if_neg (by have := HNK.out; have := HBG.out; omega), hb]; rfl)
              have HLN := Lib.hid (show (fillB encCl (ys (l.take (j + 1)))).length - 1 = k from by
                have := HEB.out _ rfl
                rw [← this, List.length_set, List.length_map, HBD.out.len]; have := HNK.out; omega)
              obtain ⟨q, hq⟩ : ∃ q, q = e.b.length := ⟨_, rfl⟩
              have HQ := Lib.hid hq.symm
              have hev : e.v = .slice e.A q e.c := by rw [Eb.v, hq]
              have hoe := HBD6.out.el k e HK6.out
              have HRE := Lib.hid (show Rd w6.heap.size w6 e.A (bv e.b) from Rd.own (n := e.b.length) (c := e.c) hoe)
              have hc6 : w6.cell? ⟨g, k, none⟩ = some (.slice e.A q e.c) := by
                have := HBD6.out.own.cells (g := g) rfl k _ (ebv_get HK6.out)
                rw [add_head, hev] at this; exact this
              have HCK := Lib.hid hc6
              have HFK := Lib.hid (HBD6.out.own.frozenAt k)
              have HCL := Lib.hid (HBD6.out.lt (k := g) (.inl rfl)).2
              have k2 : (0 : Int) ≤ (k : Int) := by omega
              have k3 : (k : Int) < (n6 : Int) := by have h1 := (List.getElem?_eq_some_iff.1 HK6.out).1; rw [HBD6.out.len] at h1; omega
              have hc6b : (w6.alloc (.cells #[] 5)).cell? ⟨g, k, none⟩ = some (.slice e.A q e.c) := (Below.cell (p := ⟨g, k, none⟩) ((Below.refl w6.heap.size w6).alloc (Nat.le_refl _) _) HCL.out).trans HCK.out
              clear hev hoe hq
              have hb3 : ¬ (103 : Int) < ((q + n5 : Nat) : Int) := by have := hb2.out; have := HQ.out; omega
              have ws : IntKind.i64.wrap ((q : Int) + (n5 : Int)) = ((q + n5 : Nat) : Int) := by rw [IntWalk.i64_in _ (by have := HQL.out; have := H5L.out; have := HQ.out; omega)]; omega
              go_wp2_with (show wpList _ _ _ ({ dst := some 62, op := .call { callee := .builtin .append, args := #[.tmp 57, .tmp 61], argTypes := #[34, 34] }, type := _, pos := _, after := _, guard := _ } :: _) _ _; apply Classical.byContradiction; intro hneg)
              refine hneg ?_
              clear hneg
              obtain ⟨w7, hw7⟩ : ∃ v, v = w6.alloc (.cells #[] 5) := ⟨_, rfl⟩
              have b7 : Below w6.heap.size w6 w7 := by rw [hw7]; exact (Below.refl _ _).alloc (Nat.le_refl _) _
              have o7 : w7.ownsRow w6.heap.size 5 1 (.slice (some ⟨w6.heap.size, 0, none⟩) 0 0) 0 [] := by rw [hw7]; exact World.ownsRow_made _ #[] 0 (Nat.le_refl _) (Nat.zero_le _) rfl
              rw [← hw7]
              have B7 := Lib.hid b7
              have O7 := Lib.hid o7
              have R7 := Lib.hid (HRE.out.below b7)
              clear hw7 b7 o7
              refine wpList_app _ rfl (.tmp 57) (.tmp 61) _ rfl Wi.bytesElt (base := w6.heap.size) (v := .slice (some ⟨w6.heap.size, 0, none⟩) 0 0) rfl O7.out (m := q) rfl R7.out (by rw [bv_length]; exact HQ.out) (bv_one _) (by have := HQL.out; have := HQ.out; omega) B7.out.size ?_
              intro A8 c8 w8 ho8 hg8 _
              have B8 := Lib.hid (app_below B7.out O7.out hg8 (Nat.le_refl _) B7.out.size)
              have O8 := Lib.hid (own_eq ho8 (Nat.zero_add q) (List.nil_append _))
              rw [Nat.zero_add]
              have R8 := Lib.hid (RB.out.below B8.out)
              clear ho8 hg8 B7 O7 R7
              go_wp2_with (show wpList _ _ _ ({ dst := some 64, op := .call { callee := .builtin .append, args := #[.tmp 62, .tmp 63], argTypes := #[34, 34] }, type := _, pos := _, after := _, guard := _ } :: _) _ _; apply Classical.byContradiction; intro hneg)
              refine hneg ?_
              clear hneg
              refine wpList_app _ rfl (.tmp 62) (.tmp 63) _ rfl Wi.bytesElt (base := w6.heap.size) (v := .slice A8 q c8) rfl O8.out (m := n5) rfl R8.out (by rw [bv_length]; exact H5.out) (bv_one _) (by have := HQL.out; have := HQ.out; have := H5L.out; omega) B8.out.size ?_
              intro A9 c9 w9 ho9 hg9 _
              have B9 := Lib.hid (app_below B8.out O8.out hg9 (Nat.le_refl _) B8.out.size)
              obtain ⟨f, hf⟩ : ∃ f : Eb, f = ⟨A9, c9, e.b ++ encCl x.y⟩ := ⟨_, rfl⟩
              have hfl : q + n5 = f.b.length := by rw [hf, List.length_append, HQ.out, H5.out]
              have hfv : f.v = .slice A9 (q + n5) c9 := by rw [Eb.v, ← hfl, hf]
              have O9 := Lib.hid (show w9.ownsRow w6.heap.size 5 1 f.v (q + n5) (bv f.b) from by rw [hfv, hf, bv_append]; exact ho9)
              have HFB := Lib.hid (show f.b = e.b ++ encCl x.y from by rw [hf])
              have HFL := Lib.hid hfl
              have HFV := Lib.hid hfv
              have hc9 := (B9.out.cell (p := ⟨g, k, none⟩) HCL.out).trans HCK.out
              have hz9 := (B9.out.frozen (p := ⟨g, k, none⟩) HCL.out).trans HFK.out
              have IO := Lib.hid (own_below (w' := (w9.setCell ⟨g, k, none⟩ (.slice A9 (q + n5) c9)).alloc (.cells #[.int .i64 (k : Int)] 3)) (ownsRow_setCell_other (own_below HIO6.out B9.out) (a := ⟨g, k, none⟩) (fun h => HD6.out g h (.inl rfl)) (.slice A9 (q + n5) c9)) ((Below.refl _ _).alloc (Nat.le_refl _) _))
              have IR := Lib.hid (show Rd (w9.heap.size + 1) ((w9.setCell ⟨g, k, none⟩ (.slice A9 (q + n5) c9)).alloc (.cells #[.int .i64 (k : Int)] 3)) (some ⟨w9.heap.size, 0, .none⟩) (ev [k]) from by
                have h := Rd.lit (w9.setCell ⟨g, k, none⟩ (.slice A9 (q + n5) c9)) 3 (ev [k])
                have e : (w9.setCell ⟨g, k, none⟩ (.slice A9 (q + n5) c9)).heap.size = w9.heap.size := by simp
                rw [e] at h; exact h)
              have IS := Lib.hid (show w.heap.size ≤ ((w9.setCell ⟨g, k, none⟩ (.slice A9 (q + n5) c9)).alloc (.cells #[.int .i64 (k : Int)] 3)).heap.size from Nat.le_trans (Nat.le_trans B6.out.size B9.out.size) (by simp))
              clear ho9 hg9 B8 O8 R8 hf hfl hfv
              go_wp2_with (
                at_builtin
                refine wpList_app _ rfl (.tmp 66) (.tmp 68) _ rfl intsElt (base := w.heap.size) (v := .slice A2 j c2) rfl IO.out (m := 1) rfl IR.out rfl (ev_one _) ?_ ?_ ?_
                · have := HJB.out; omega
                · exact IS.out
                intro A10 c10 w10 ho10 hg10 hor10
                have O10 := Lib.hid ho10
                have G10 := Lib.hid hg10
                have R10 := Lib.hid hor10
                clear ho10 hg10 hor10)
              go_roundw
              case rel =>
                have h := O10.out; have hg := G10.out; have ho := R10.out
                rw [← HFV.out] at hg ho
                obtain ⟨h1, h2, h3⟩ := rstep HBD6.out HK6.out B9.out O9.out HFL.out HIO6.out HD6.out B6.out h hg ho
                refine ⟨j + 1, n6, some ⟨g, 0, none⟩, c6, A10, c10, bl6.set k f, by omega, by go_num, rfl, rfl, h1, Lib.hid ⟨h2, ?_, ?_, h3⟩⟩
                · rw [ebb, List.map_set]; exact (HEB.out _ HFB.out)
                · rw [HINS.out, HLN.out, ev_append]; exact h
              case measure => (simp [intOf]; try omega)
        · obtain rfl : N = j := by omega
          have HB := Lib.hid hbw
          have htk : l.take N = l := List.take_of_length_le (by rw [HL.out]; exact Nat.le_refl _)
          rw [htk] at HI
          clear hbw hlt hj htk
          go_wp2_with fail
          go_ret3
          exact .inl ⟨HALL.out, A1, n, c1, bl, A2, c2, (by show Ending.returned (.tuple #[.slice A1 n c1, .slice A2 N c2, .bool true]) = _; rw [HL.out]), HI.out.1, HI.out.2.1, by rw [HL.out]; exact HI.out.2.2.1, HB.out⟩
end Go.Proofs.Ythdmdlnndbjcoaa.Pk
/-
  The contract of pack.Open.
-/
namespace Go.Proofs.Ythdmdlnndbjcoaa.Pk
open Go.RowKit Ce
attribute [local go_sem ↓] Go.wp_at_zero Go.wp_at_succ
set_option maxRecDepth 100000 in
set_option maxHeartbeats 12800000 in
theorem open_any {B : Nat} (w : World) (A : Option Addr) (N c : Nat) (b : List UInt8) (hl : b.length = N) (hcap : N ≤ c ∧ c ≤ maxLen) (hr : Rd B w A (bv b)) (hB : B ≤ w.heap.size) :
    Calls Try.prog 17 #[.slice A N c] w (RetOpen w.heap.size b w) := by
  obtain ⟨zc, hzc⟩ : ∃ z, z = clA zeroCl none 0 := ⟨_, rfl⟩
  have hzv : ∀ W, (zeroValue 44).run Try.prog W = .ok (.agg zc) W := fun _ => by rw [hzc]; kernel_rfl
  have HZC := Lib.hid hzc
  have HL := Lib.hid hl
  have HR := Lib.hid (hr.more hB)
  have BW := Lib.hid (Below.refl w.heap.size w)
  by_cases hbig : 103 < N
  · have n1 : (103 : Int) < (N : Int) := by omega
    have HO := Lib.hid (open_long (b := b) (by omega))
    clear hzc hl hr hB hcap hbig
    go_enter Try.func17, Try.ntmps17
    go_wp2_with fail
    go_ret2
    exact RetOpen.no HO.out BW.out
  have n1 : ¬ (103 : Int) < (N : Int) := by omega
  have HN := Lib.hid (show N ≤ 103 by omega)
  have HCAP := Lib.hid hcap
  clear hzc hl hr hB hcap hbig
  go_enter Try.func17, Try.ntmps17
  go_wp2_with fail
  clear n1
  go_loopw [2, 3, 4, 5, 6, 7] (fun q e r _ _ _ wr => ∃ (n m : Nat) (A1 : Option Addr) (c1 : Nat) (A2 : Option Addr) (c2 : Nat) (cl : List Cc) (rs : List UInt8), m ≤ N ∧ n + m ≤ N ∧ e = .bool false ∧ q = .slice A1 n c1 ∧ r = .slice A2 m c2 ∧ Below w.heap.size w wr ∧
    Hid (rs.length = m ∧ (m ≤ c2 ∧ c2 ≤ maxLen) ∧ b = encs encCl (ys cl) ++ rs ∧ allOk cl ∧ OwnC wr w.heap.size A1 n c1 cl ∧ Rd wr.heap.size wr A2 (bv rs) ∧ (∀ ad, A2 = some ad → (Value.slice A1 n c1).ownBlock ≠ some ad.block) ∧ ∀ k ∈ cl, ∀ ad, k.A = some ad → w.heap.size ≤ ad.block)) (fun _ _ r _ _ _ _ => lenOf r)
  case atStart => exact ⟨0, N, none, 0, A, c, [], b, Nat.le_refl _, by omega, rfl, rfl, rfl, BW.out, Lib.hid ⟨HL.out, HCAP.out, rfl, fun k hk => by simp at hk, OwnC.nil, HR.out, fun _ _ h => (by cases h), fun k hk => by simp at hk⟩⟩
  case round =>
    clear BW HR HCAP
    obtain ⟨n, m, A1, c1, A2, c2, cl, rs, hmN, hnm, rfl, rfl, rfl, hbw, HI⟩ := hrel
    by_cases hm : 0 < m
    · have n1 : (0 : Int) < (m : Int) := by omega
      have HB := Lib.hid hbw
      have HM := Lib.hid hm
      obtain ⟨Y, hY⟩ : ∃ Y, Y = (decCl rs).1 := ⟨_, rfl⟩
      obtain ⟨s, hs⟩ : ∃ s, s = (decCl rs).2.1 := ⟨_, rfl⟩
      obtain ⟨kn, hkn⟩ : ∃ k, k = (decCl rs).2.2 := ⟨_, rfl⟩
      obtain ⟨r2, hr2⟩ : ∃ r, r = if kn = 0 then rs.drop s else [] := ⟨_, rfl⟩
      obtain ⟨K, hK⟩ : ∃ K : Int, K = (kn : Int) := ⟨_, rfl⟩
      have hdec := decode_any A2 m c2 rs wr HI.out.1 HI.out.2.1 HI.out.2.2.2.2.2.1 (Nat.le_refl _) (by have := HN.out; omega)
      rw [← hY, ← hs, ← hkn, ← hr2, ← hK] at hdec
      have HD := Lib.hid (show decCl rs = (Y, s, kn) from by rw [hY, hs, hkn])
      have HDC := Lib.hid hdec
      have HKK := Lib.hid hK
      have HR2 := Lib.hid hr2
      clear hY hs hkn hr2 hdec hbw hm hK
      go_wp2_with fail
      refine HDC.out.mono ?_
      rintro e w5 ⟨A9, c9, A10, c10, rfl, ho, hq, bw, hne⟩
      obtain ⟨csa, hcsa⟩ : ∃ cs, cs = clA Y A9 c9 := ⟨_, rfl⟩
      rw [← hcsa]
      have HIa := Lib.hid (show (Try.prog.info? 44).map (·.size) = some csa.size from by rw [hcsa]; kernel_rfl)
      have HOa := Lib.hid (show csa.all (·.oneCell') = true from by rw [hcsa]; simp [clA, Value.oneCell'])
      have HZa := Lib.hid (show zc.size = csa.size from by rw [HZC.out, hcsa]; rfl)
      have HSa := Lib.hid (show csa.size = 11 from by rw [hcsa]; rfl)
      have HCSa := Lib.hid hcsa
      obtain ⟨m2, hm2⟩ : ∃ m2, m2 = r2.length := ⟨_, rfl⟩
      rw [← hm2] at hq ⊢
      have HM2 := Lib.hid hm2
      have B5 := Lib.hid (HB.out.trans (bw.mono HB.out.size))
      have BN5 := Lib.hid bw
      have O9 := Lib.hid ho
      have OQ := Lib.hid hq
      have HWR := Lib.hid HB.out.size
      clear hcsa hm2 ho hq hne bw HB HDC
      go_wp2_with (show wpList _ _ _ ({ dst := none, op := .store 44 (.tmp 5) (.tmp 18), type := _, pos := _, after := _, guard := _ } :: _) _ _; apply Classical.byContradiction; intro hneg)
      refine hneg ?_
      clear hneg
      refine wpList_store_row rfl 44 (.tmp 5) (.tmp 18) rfl w5.heap.size csa rfl rfl 44 zc (heap_alloc_new _ _) HIa.out HZa.out HOa.out ?_
      obtain ⟨w6, hw6⟩ : ∃ v, v = (w5.alloc (.cells zc 44)).setRow w5.heap.size csa := ⟨_, rfl⟩
      obtain ⟨g6, hg6⟩ : ∃ g, g = w5.heap.size := ⟨_, rfl⟩
      rw [← hw6, ← hg6]
      have bn : Below w5.heap.size w5 w6 := by rw [hw6]; exact below_new (Below.refl _ _) (Nat.le_refl _)
      have X6 := Lib.hid (show Blk w6 g6 csa 44 from by rw [hw6, hg6]; exact setRow_heap _ _ _ _ _ _ (heap_alloc_new _ _))
      have B6 := Lib.hid (B5.out.trans (bn.mono B5.out.size))
      have BN6 := Lib.hid (BN5.out.trans (bn.mono BN5.out.size))
      have O96 := Lib.hid (own_below O9.out bn)
      have OQ6 := Lib.hid (own_below OQ.out bn)
      clear hw6 hg6 bn O9 OQ B5 BN5
      by_cases hk0 : kn = 0
      · have k0 : K = 0 := by rw [HKK.out, hk0]; rfl
        subst k0
        obtain ⟨hrl, hcp, hbe, hok, hown, hrd, hnb, hnw⟩ := HI.out
        have hd := HD.out
        rw [hk0] at hd
        have hed := enc_dec hd
        have hr2 : r2 = rs.drop s := by rw [HR2.out, if_pos hk0]
        have hrs : rs = encCl Y ++ r2 := by rw [hed.2.2.2, hr2, List.take_append_drop]
        have hml : m2 + s = m := by rw [HM2.out, hr2, List.length_drop, hrl]; have := hed.2.1; omega
        have hpos := hed.2.2.1
        have HS := Lib.hid (show n + 1 ≤ 104 from by have := HN.out; omega)
        have HNEW := Lib.hid (show b = encs encCl (ys (cl ++ [⟨Y, A9, c9⟩])) ++ r2 from by rw [hbe, hrs, ys_append, encs_append, List.append_assoc, show ys [(⟨Y, A9, c9⟩ : Cc)] = [Y] from rfl, encs_one])
        have HAL := Lib.hid (show allOk (cl ++ [⟨Y, A9, c9⟩]) from fun k hk => by
          rcases List.mem_append.1 hk with h | h
          · exact hok k h
          · rw [List.mem_singleton] at h; rw [h]; exact hed.1)
        have HOW := Lib.hid (hown.below BN6.out)
        have HNW := Lib.hid (show ∀ k ∈ cl ++ [⟨Y, A9, c9⟩], ∀ ad, k.A = some ad → w.heap.size ≤ ad.block from fun k hk ad had => by
          rcases List.mem_append.1 hk with h | h
          · exact hnw k h ad had
          · rw [List.mem_singleton] at h; subst h
            exact Nat.le_trans HWR.out (O96.out.lt ad.block (by rw [show A9 = some ad from had]; rfl)).1)
        have HML := Lib.hid (show m2 < m ∧ n + 1 + m2 ≤ N by omega)
        have HRL := Lib.hid (show ∀ k, (Value.slice A1 n c1).ownBlock = some k → k < wr.heap.size from fun k hk => (hown.own.lt k hk).2)
        have W7 := Lib.hid (show Below w6.heap.size w6 (w6.alloc (.cells csa 44)) from (Below.refl _ _).alloc (Nat.le_refl _) _)
        have HOW7 := Lib.hid (HOW.out.below W7.out)
        have R7 := Lib.hid (show Rd (w6.alloc (.cells csa 44)).heap.size (w6.alloc (.cells csa 44)) (some ⟨w6.heap.size, 0, none⟩) (ccs [⟨Y, A9, c9⟩]) from by
          have hb5 : Blk (w6.alloc (.cells csa 44)) w6.heap.size csa 44 := heap_alloc_new _ _
          intro j v hv
          refine ⟨_, rfl, hb5.lt, ?_⟩
          rw [Addr.add_mid, hb5.cell, Nat.zero_add, HCSa.out]
          simpa [ccs, ccV] using hv)
        have HSZ := Lib.hid (Nat.le_trans B6.out.size W7.out.size)
        clear hrl hcp hbe hok hown hrd hnb hnw hd hed hr2 hrs hml hpos hk0 HI HD HR2
        go_wp2_with (first
          | (refine wpList_load_row rfl 44 (.tmp 5) rfl g6 rfl 44 csa (0, 0) _ X6.out Try.underlying44 rfl HIa.out ?_)
          | (show wpList _ _ _ ({ dst := some 25, op := .buildSlice 22 1 #[(0, .tmp 24)], type := _, pos := _, after := _, guard := _ } :: _) _ _; apply Classical.byContradiction; intro hneg))
        refine hneg ?_
        clear hneg
        refine wpList_execgC (v := .slice (some ⟨w6.heap.size, 0, none⟩) 1 1) (w' := w6.alloc (.cells csa 44)) rfl (exec_buildSlice 22 1 #[(0, .tmp 24)] rfl ?hbld) ?_
        case hbld =>
          simp only [List.map_toArray, List.map_cons, List.map_nil]
          exact run_oneN cellsElt _ (.agg csa) HSa.out (by omega)
        go_wp2_with (at_builtin; apply Classical.byContradiction; intro hneg)
        refine hneg ?_
        clear hneg
        refine wpList_appN _ rfl (.tmp 23) (.tmp 25) 22 rfl cellsElt (base := w.heap.size) (v := .slice A1 n c1) (n := n) (xs := ccs cl) rfl HOW7.out.own (m := 1) rfl R7.out rfl (ccs_one _) (by have := HS.out; omega) HSZ.out ?_
        intro A8 c8 w8 ho8 hg8 hl8
        have C8 := Lib.hid (HOW7.out.push (y := ⟨Y, A9, c9⟩) ⟨Rd.below (Rd.own O96.out) W7.out |>.more W7.out.size, fun ad had => Nat.lt_of_lt_of_le (O96.out.lt ad.block (by rw [show A9 = some ad from had]; rfl)).2 W7.out.size⟩ (fun ad had k => by
          have h1 := O96.out.lt ad.block (by rw [show A9 = some ad from had]; rfl)
          have h2 := HRL.out _ k
          omega) hg8 ho8 hl8)
        have B8 := Lib.hid (app_belowN (B6.out.trans (W7.out.mono B6.out.size)) HOW7.out.own hg8 (Nat.le_refl _) HSZ.out)
        have G8 := Lib.hid hg8
        have L8 := Lib.hid hl8
        clear ho8 hg8 hl8
        go_wp2_with fail
        go_roundw
        case rel =>
          have hgt := OQ6.out.lt
          have hb8 : But (fun k => (Value.slice A1 n c1).ownBlock = some k) (w6.alloc (.cells csa 44)) w8 := grown_but G8.out (fun _ h => h)
          have hne : ∀ ad, A10 = some ad → (Value.slice A1 n c1).ownBlock ≠ some ad.block := fun ad had h => by
            have h1 := (hgt ad.block (by rw [had]; rfl)).1
            have h2 := HRL.out _ h
            omega
          have hm3 := HML.out
          refine ⟨n + 1, m2, A8, c8, A10, c10, cl ++ [⟨Y, A9, c9⟩], r2, by omega, hm3.2, rfl, rfl, rfl, B8.out, Lib.hid ⟨HM2.out.symm, own_caps OQ6.out, HNEW.out, HAL.out, C8.out, ?_, fun ad had h => ?_, HNW.out⟩⟩
          · exact (rd_but (((Rd.own OQ6.out).below W7.out).more W7.out.size) hb8 hne).more hb8.size
          · rcases L8.out with h1 | h1
            · exact hne ad had (h1 ▸ h)
            · rw [h1] at h; injection h with h
              have h2 := (hgt ad.block (by rw [had]; rfl)).2
              have := W7.out.size
              omega
        case measure => (have := HML.out.1; simp [lenOf]; try omega)
      · have k1 : (K == 0) = false := by rw [HKK.out]; simp; exact hk0
        have k2 : (K != 0) = true := by rw [HKK.out]; simp; exact hk0
        have HOP := Lib.hid (show openL b = ([], false) from by
          obtain ⟨hrl, _, hbe, hok, _⟩ := HI.out
          rw [hbe]
          exact open_no (fun e => by rw [e] at hrl; have := HM.out; simp at hrl; omega) (by rw [HD.out]; exact hk0) (fun y hy => by obtain ⟨k, hk, rfl⟩ := List.mem_map.1 hy; exact hok k hk))
        clear hk0
        go_wp2_with fail
        go_ret2
        exact RetOpen.no HOP.out B6.out
    · obtain rfl : m = 0 := by omega
      have B5 := Lib.hid hbw
      have HOP := Lib.hid (show openL b = (ys cl, true) from by
        obtain ⟨hrl, _, hbe, hok, _⟩ := HI.out
        obtain rfl : rs = [] := List.length_eq_zero_iff.1 hrl
        rw [List.append_nil] at hbe
        rw [hbe]
        exact open_yes (fun y hy => by obtain ⟨k, hk, rfl⟩ := List.mem_map.1 hy; exact hok k hk) (by rw [← hbe, HL.out]; exact HN.out))
      clear hbw hm
      go_wp2_with fail
      go_ret2
      exact ⟨A1, n, c1, cl, (by show Ending.returned (.tuple #[.slice A1 n c1, .bool true]) = _; rw [HOP.out]), HI.out.2.2.2.2.1.own, by rw [HOP.out], ⟨HI.out.2.2.2.2.1.bodies, HI.out.2.2.2.2.2.2.2⟩, B5.out⟩
end Go.Proofs.Ythdmdlnndbjcoaa.Pk
/-
  The contract of the document's own Open.
-/
namespace Go.Proofs.Ythdmdlnndbjcoaa.Pk
open Go.RowKit Ce
attribute [local go_sem ↓] Go.wp_at_zero Go.wp_at_succ
set_option maxRecDepth 100000 in
set_option maxHeartbeats 12800000 in
theorem ropen_any {B : Nat} (w : World) (A : Option Addr) (N c : Nat) (b : List UInt8) (hl : b.length = N) (hcap : N ≤ c ∧ c ≤ maxLen) (hr : Rd B w A (bv b)) (hB : B ≤ w.heap.size) :
    Calls Try.prog 18 #[.slice A N c] w (RetOpen 0 b w) := by
  obtain ⟨zc, hzc⟩ : ∃ z, z = clA zeroCl none 0 := ⟨_, rfl⟩
  have hzv : ∀ W, (zeroValue 44).run Try.prog W = .ok (.agg zc) W := fun _ => by rw [hzc]; kernel_rfl
  have HZC := Lib.hid hzc
  have HL := Lib.hid hl
  have HR := Lib.hid (hr.more hB)
  have BW := Lib.hid (Below.refl w.heap.size w)
  by_cases hbig : 103 < N
  · have n1 : (103 : Int) < (N : Int) := by omega
    have HO := Lib.hid (open_long (b := b) (by omega))
    clear hzc hl hr hB hcap hbig
    go_enter Try.func18, Try.ntmps18
    go_wp2_with fail
    go_ret2
    exact RetOpen.no HO.out BW.out
  have n1 : ¬ (103 : Int) < (N : Int) := by omega
  have HN := Lib.hid (show N ≤ 103 by omega)
  have HCAP := Lib.hid hcap
  clear hzc hl hr hB hcap hbig
  go_enter Try.func18, Try.ntmps18
  go_wp2_with fail
  clear n1
  go_loopw [0, 2, 3, 4, 5, 6, 7] (fun r a e q _ _ _ wr => ∃ (n m : Nat) (A1 : Option Addr) (c1 : Nat) (A2 : Option Addr) (c2 : Nat) (cl : List Cc) (rs : List UInt8), m ≤ N ∧ n + m ≤ N ∧ e = .bool false ∧ a = .slice none 0 0 ∧ q = .slice A1 n c1 ∧ r = .slice A2 m c2 ∧ Below w.heap.size w wr ∧
    Hid (rs.length = m ∧ (m ≤ c2 ∧ c2 ≤ maxLen) ∧ b = encs encCl (ys cl) ++ rs ∧ allOk cl ∧ OwnC wr w.heap.size A1 n c1 cl ∧ Rd w.heap.size wr A2 (bv rs))) (fun r _ _ _ _ _ _ _ => lenOf r)
  case atStart => exact ⟨0, N, none, 0, A, c, [], b, Nat.le_refl _, by omega, rfl, rfl, rfl, rfl, BW.out, Lib.hid ⟨HL.out, HCAP.out, rfl, fun k hk => by simp at hk, OwnC.nil, HR.out⟩⟩
  case round =>
    clear BW HR HCAP
    obtain ⟨n, m, A1, c1, A2, c2, cl, rs, hmN, hnm, rfl, rfl, rfl, rfl, hbw, HI⟩ := hrel
    by_cases hm : 0 < m
    · have n1 : (0 : Int) < (m : Int) := by omega
      have HB := Lib.hid hbw
      have HM := Lib.hid hm
      obtain ⟨ad, hA2, hadl, -⟩ := HI.out.2.2.2.2.2.at_ (k := 0) (by rw [HI.out.1]; exact hm)
      subst hA2
      have HAD := Lib.hid hadl
      obtain ⟨Y, hY⟩ : ∃ Y, Y = (decCl rs).1 := ⟨_, rfl⟩
      obtain ⟨s, hs⟩ : ∃ s, s = (decCl rs).2.1 := ⟨_, rfl⟩
      obtain ⟨kn, hkn⟩ : ∃ k, k = (decCl rs).2.2 := ⟨_, rfl⟩
      obtain ⟨K, hK⟩ : ∃ K : Int, K = (kn : Int) := ⟨_, rfl⟩
      have hdec := cdecode_any (some ad) m c2 rs wr HI.out.1 HI.out.2.1 HI.out.2.2.2.2.2 HB.out.size (by have := HN.out; omega)
      rw [← hY, ← hs, ← hkn, ← hK] at hdec
      have HD := Lib.hid (show decCl rs = (Y, s, kn) from by rw [hY, hs, hkn])
      have HDC := Lib.hid hdec
      have HKK := Lib.hid hK
      clear hY hs hkn hdec hbw hm hK hadl
      go_wp2_with fail
      refine HDC.out.mono ?_
      rintro e w5 ⟨A9, c9, rfl, ⟨ho, hblk⟩, bw⟩
      obtain ⟨csa, hcsa⟩ : ∃ cs, cs = clA Y A9 c9 := ⟨_, rfl⟩
      rw [← hcsa]
      have HIa := Lib.hid (show (Try.prog.info? 44).map (·.size) = some csa.size from by rw [hcsa]; kernel_rfl)
      have HOa := Lib.hid (show csa.all (·.oneCell') = true from by rw [hcsa]; simp [clA, Value.oneCell'])
      have HZa := Lib.hid (show zc.size = csa.size from by rw [HZC.out, hcsa]; rfl)
      have HSa := Lib.hid (show csa.size = 11 from by rw [hcsa]; rfl)
      have HCSa := Lib.hid hcsa
      have B5 := Lib.hid (HB.out.trans (bw.mono HB.out.size))
      have BN5 := Lib.hid bw
      have O9 := Lib.hid (ho.more bw.size)
      have HBLK := Lib.hid (show ∀ a2, A9 = some a2 → a2.block < w.heap.size from fun a2 h => by
        obtain ⟨a0, h1, h2⟩ := hblk a2 h
        injection h1 with h1; subst h1
        rw [h2]; exact HAD.out)
      have HWR := Lib.hid HB.out.size
      clear hcsa ho bw HB HDC hblk
      go_wp2_with (show wpList _ _ _ ({ dst := none, op := .store 44 (.tmp 5) (.tmp 17), type := _, pos := _, after := _, guard := _ } :: _) _ _; apply Classical.byContradiction; intro hneg)
      refine hneg ?_
      clear hneg
      refine wpList_store_row rfl 44 (.tmp 5) (.tmp 17) rfl w5.heap.size csa rfl rfl 44 zc (heap_alloc_new _ _) HIa.out HZa.out HOa.out ?_
      obtain ⟨w6, hw6⟩ : ∃ v, v = (w5.alloc (.cells zc 44)).setRow w5.heap.size csa := ⟨_, rfl⟩
      obtain ⟨g6, hg6⟩ : ∃ g, g = w5.heap.size := ⟨_, rfl⟩
      rw [← hw6, ← hg6]
      have bn : Below w5.heap.size w5 w6 := by rw [hw6]; exact below_new (Below.refl _ _) (Nat.le_refl _)
      have X6 := Lib.hid (show Blk w6 g6 csa 44 from by rw [hw6, hg6]; exact setRow_heap _ _ _ _ _ _ (heap_alloc_new _ _))
      have B6 := Lib.hid (B5.out.trans (bn.mono B5.out.size))
      have BN6 := Lib.hid (BN5.out.trans (bn.mono BN5.out.size))
      have O96 := Lib.hid ((O9.out.below bn).more bn.size)
      clear hw6 hg6 bn O9 B5 BN5
      by_cases hk0 : kn = 0
      · have k0 : K = 0 := by rw [HKK.out, hk0]; rfl
        subst k0
        obtain ⟨hrl, hcp, hbe, hok, hown, hrd⟩ := HI.out
        have hd := HD.out
        rw [hk0] at hd
        have hed := enc_dec hd
        obtain ⟨r2, hr2⟩ : ∃ r, r = rs.drop s := ⟨_, rfl⟩
        obtain ⟨m2, hm2⟩ : ∃ m2, m2 = r2.length := ⟨_, rfl⟩
        have hrs : rs = encCl Y ++ r2 := by rw [hed.2.2.2, hr2, List.take_append_drop]
        have hsl : s ≤ m := by have := hed.2.1; omega
        have hml : m2 + s = m := by rw [hm2, hr2, List.length_drop, hrl]; omega
        have hpos := hed.2.2.1
        have s0 : (0 : Int) ≤ (s : Int) := by omega
        have s1 : (s : Int) ≤ (m : Int) := by omega
        have s2 : (s : Int) ≤ (c2 : Int) := by omega
        have s3 : (m : Int) ≤ (c2 : Int) := by omega
        have s4 : m - s = m2 := by omega
        have s5 : (m : Int) - (s : Int) = (m2 : Int) := by omega
        have HS := Lib.hid (show n + 1 ≤ 104 from by have := HN.out; omega)
        have HNEW := Lib.hid (show b = encs encCl (ys (cl ++ [⟨Y, A9, c9⟩])) ++ r2 from by rw [hbe, hrs, ys_append, encs_append, List.append_assoc, show ys [(⟨Y, A9, c9⟩ : Cc)] = [Y] from rfl, encs_one])
        have HAL := Lib.hid (show allOk (cl ++ [⟨Y, A9, c9⟩]) from fun k hk => by
          rcases List.mem_append.1 hk with h | h
          · exact hok k h
          · rw [List.mem_singleton] at h; rw [h]; exact hed.1)
        have HOW := Lib.hid (hown.below BN6.out)
        have HML := Lib.hid (show m2 < m ∧ n + 1 + m2 ≤ N by omega)
        have HRL := Lib.hid (show ∀ k, (Value.slice A1 n c1).ownBlock = some k → w.heap.size ≤ k from fun k hk => (hown.own.lt k hk).1)
        have W7 := Lib.hid (show Below w6.heap.size w6 (w6.alloc (.cells csa 44)) from (Below.refl _ _).alloc (Nat.le_refl _) _)
        have HOW7 := Lib.hid (HOW.out.below W7.out)
        have R7 := Lib.hid (show Rd (w6.alloc (.cells csa 44)).heap.size (w6.alloc (.cells csa 44)) (some ⟨w6.heap.size, 0, none⟩) (ccs [⟨Y, A9, c9⟩]) from by
          have hb5 : Blk (w6.alloc (.cells csa 44)) w6.heap.size csa 44 := heap_alloc_new _ _
          intro j v hv
          refine ⟨_, rfl, hb5.lt, ?_⟩
          rw [Addr.add_mid, hb5.cell, Nat.zero_add, HCSa.out]
          simpa [ccs, ccV] using hv)
        have HSZ := Lib.hid (Nat.le_trans B6.out.size W7.out.size)
        have HRD := Lib.hid (hrd.below (BN6.out.mono HWR.out))
        have HCP := Lib.hid hcp
        have HRS := Lib.hid hr2
        have HM2 := Lib.hid hm2
        have HCS := Lib.hid (show m2 + s = m ∧ m ≤ c2 ∧ c2 ≤ maxLen from ⟨hml, hcp.1, hcp.2⟩)
        have HRSL := Lib.hid hrl
        clear hrl hcp hbe hok hown hrd hd hed hr2 hrs hml hpos hk0 HI HD hm2 hsl
        go_wp2_with (first
          | (refine wpList_load_row rfl 44 (.tmp 5) rfl g6 rfl 44 csa (0, 0) _ X6.out Try.underlying44 rfl HIa.out ?_)
          | (show wpList _ _ _ ({ dst := some 24, op := .buildSlice 22 1 #[(0, .tmp 23)], type := _, pos := _, after := _, guard := _ } :: _) _ _; apply Classical.byContradiction; intro hneg))
        refine hneg ?_
        clear hneg
        refine wpList_execgC (v := .slice (some ⟨w6.heap.size, 0, none⟩) 1 1) (w' := w6.alloc (.cells csa 44)) rfl (exec_buildSlice 22 1 #[(0, .tmp 23)] rfl ?hbld) ?_
        case hbld =>
          simp only [List.map_toArray, List.map_cons, List.map_nil]
          exact run_oneN cellsElt _ (.agg csa) HSa.out (by omega)
        go_wp2_with (at_builtin; apply Classical.byContradiction; intro hneg)
        refine hneg ?_
        clear hneg
        refine wpList_appN _ rfl (.tmp 22) (.tmp 24) 22 rfl cellsElt (base := w.heap.size) (v := .slice A1 n c1) (n := n) (xs := ccs cl) rfl HOW7.out.own (m := 1) rfl R7.out rfl (ccs_one _) (by have := HS.out; omega) HSZ.out ?_
        intro A8 c8 w8 ho8 hg8 hl8
        have C8 := Lib.hid (HOW7.out.push (y := ⟨Y, A9, c9⟩) ⟨Rd.below O96.out W7.out |>.more W7.out.size, fun ad had => Nat.lt_of_lt_of_le (HBLK.out ad had) HSZ.out⟩ (fun ad had k => by
          have h1 := HBLK.out ad had
          have h2 := HRL.out _ k
          omega) hg8 ho8 hl8)
        have B8 := Lib.hid (app_belowN (B6.out.trans (W7.out.mono B6.out.size)) HOW7.out.own hg8 (Nat.le_refl _) HSZ.out)
        have G8 := Lib.hid hg8
        clear ho8 hg8 hl8
        go_wp2_with fail
        go_roundw
        case rel =>
          have hm3 := HML.out
          have hcp := HCP.out
          refine ⟨n + 1, m2, A8, c8, _, c2 - s, cl ++ [⟨Y, A9, c9⟩], r2, by omega, hm3.2, rfl, rfl, rfl, rfl, B8.out, Lib.hid ⟨HM2.out.symm, ⟨by have := HCS.out; omega, by omega⟩, HNEW.out, HAL.out, C8.out, ?_⟩⟩
          have hrd : Rd w.heap.size w8 (some ad) (bv rs) := HRD.out.below ((W7.out.mono B6.out.size).trans (app_belowN (Below.refl _ _) HOW7.out.own G8.out (Nat.le_refl _) HSZ.out))
          rw [HRS.out]
          split
          · rw [List.drop_eq_nil_of_le (by have := HCS.out; have := HRSL.out; omega)]; exact Rd.none
          · exact hrd.drop s
        case measure => (have := HML.out.1; simp [lenOf]; try omega)
      · have k1 : (K == 0) = false := by rw [HKK.out]; simp; exact hk0
        have k2 : (K != 0) = true := by rw [HKK.out]; simp; exact hk0
        have HOP := Lib.hid (show openL b = ([], false) from by
          obtain ⟨hrl, _, hbe, hok, _⟩ := HI.out
          rw [hbe]
          exact open_no (fun e => by rw [e] at hrl; have := HM.out; simp at hrl; omega) (by rw [HD.out]; exact hk0) (fun y hy => by obtain ⟨k, hk, rfl⟩ := List.mem_map.1 hy; exact hok k hk))
        clear hk0
        go_wp2_with fail
        go_ret2
        exact RetOpen.no HOP.out B6.out
    · obtain rfl : m = 0 := by omega
      have B5 := Lib.hid hbw
      have HOP := Lib.hid (show openL b = (ys cl, true) from by
        obtain ⟨hrl, _, hbe, hok, _⟩ := HI.out
        obtain rfl : rs = [] := List.length_eq_zero_iff.1 hrl
        rw [List.append_nil] at hbe
        rw [hbe]
        exact open_yes (fun y hy => by obtain ⟨k, hk, rfl⟩ := List.mem_map.1 hy; exact hok k hk) (by rw [← hbe, HL.out]; exact HN.out))
      clear hbw hm
      go_wp2_with fail
      go_ret2
      exact ⟨A1, n, c1, cl, (by show Ending.returned (.tuple #[.slice A1 n c1, .bool true]) = _; rw [HOP.out]), HI.out.2.2.2.2.1.own, by rw [HOP.out], ⟨HI.out.2.2.2.2.1.bodies, fun _ _ _ _ => Nat.zero_le _⟩, B5.out⟩
end Go.Proofs.Ythdmdlnndbjcoaa.Pk
/-
  Whether two rows of cells are the same, as the document tells it.
-/
namespace Go.Proofs.Ythdmdlnndbjcoaa.Pk
open Go.RowKit Ce
attribute [local go_sem ↓] Go.wp_at_zero Go.wp_at_succ
set_option maxRecDepth 100000 in
set_option maxHeartbeats 6400000 in
theorem qsame_any {B : Nat} (w : World) (A A' : Option Addr) (N M c c' : Nat) (l m : List Cc) (hl : l.length = N) (hm : m.length = M) (hr : Rd B w A (ccs l)) (hr' : Rd B w A' (ccs m))
    (hb : ∀ k ∈ l, Rd B w k.A (bv k.y.body)) (hb' : ∀ k ∈ m, Rd B w k.A (bv k.y.body)) (hB : B ≤ w.heap.size) (hN : N ≤ 1000) (hM : M ≤ 1000) :
    Calls Try.prog 19 #[.slice A N c, .slice A' M c'] w (RetB (.bool (decide (ys l = ys m))) w) := by
  have HL := Lib.hid hl
  have HM := Lib.hid hm
  have HR := Lib.hid (hr.more hB)
  have HR2 := Lib.hid (hr'.more hB)
  have HBO := Lib.hid (fun k hk => (hb k hk).more hB)
  have HBO2 := Lib.hid (fun k hk => (hb' k hk).more hB)
  have BW := Lib.hid (Below.refl w.heap.size w)
  by_cases hnm : N = M
  rotate_left
  · have n1 : ((N : Int) != (M : Int)) = true := by simp; omega
    have HD := Lib.hid (show decide (ys l = ys m) = false from decide_eq_false (fun h => hnm (by have := congrArg List.length h; rw [ys_length, ys_length, hl, hm] at this; exact this)))
    clear hl hm hr hr' hb hb' hB hnm
    go_enter Try.func19, Try.ntmps19
    go_wp2_with fail
    go_ret
    exact ⟨ret_bool HD.out.symm, BW.out⟩
  subst hnm
  have n1 : ((N : Int) != (N : Int)) = false := by simp
  clear hl hm hr hr' hb hb' hB
  go_enter Try.func19, Try.ntmps19
  go_wp2_with fail
  go_loopw [5] (fun i wr => ∃ j : Nat, j ≤ N ∧ i = .int .i64 j ∧ Below w.heap.size w wr ∧ Hid (ys (l.take j) = ys (m.take j))) (fun i _ => N - (intOf i).toNat)
  case atStart => exact ⟨0, Nat.zero_le _, rfl, BW.out, Lib.hid rfl⟩
  case round =>
    clear BW n1
    obtain ⟨j, hj, rfl, hbw, HT⟩ := hrel
    by_cases hlt : j < N
    · have hklx : j < l.length := by rw [HL.out]; exact hlt
      have hkly : j < m.length := by rw [HM.out]; exact hlt
      obtain ⟨x, hxex⟩ : ∃ x, x = l[j] := ⟨_, rfl⟩
      have hxmx : x ∈ l := by rw [hxex]; exact List.getElem_mem hklx
      have hrdx := HR.out
      obtain ⟨ad, hAx, -, -⟩ := rd_cell hrdx hklx
      have hcellx : ∀ w', Below w.heap.size w w' → ∀ i v, (ccV x)[i]? = some v → w'.cell? ((ad.add (j * 11)).add i) = some v := fun w' hb' i v hv => by
        obtain ⟨ad', hA', _, hc⟩ := rd_cell (hrdx.below hb') hklx
        rw [hAx] at hA'
        injection hA' with hA'
        subst hA'
        exact hc i v (by rw [← hxex]; exact hv)
      obtain ⟨csx, hcsx⟩ : ∃ cs, cs = clA x.y x.A x.c := ⟨_, rfl⟩
      have HCWx := Lib.hid (show ∀ w', Below w.heap.size w w' → ∀ i v, csx.toList[i]? = some v → w'.cell? ((ad.add (j * 11)).add i) = some v from fun w' hb' i v hv => hcellx w' hb' i v (by rw [hcsx] at hv; exact hv))
      have HIx := Lib.hid (show (Try.prog.info? 44).map (·.size) = some csx.toList.length from by rw [hcsx]; kernel_rfl)
      have HCSx := Lib.hid hcsx
      have HXMx := Lib.hid hxmx
      have HXEx := Lib.hid hxex
      obtain ⟨y, hxey⟩ : ∃ x, x = m[j] := ⟨_, rfl⟩
      have hxmy : y ∈ m := by rw [hxey]; exact List.getElem_mem hkly
      have hrdy := HR2.out
      obtain ⟨bd, hAy, -, -⟩ := rd_cell hrdy hkly
      have hcelly : ∀ w', Below w.heap.size w w' → ∀ i v, (ccV y)[i]? = some v → w'.cell? ((bd.add (j * 11)).add i) = some v := fun w' hb' i v hv => by
        obtain ⟨ad', hA', _, hc⟩ := rd_cell (hrdy.below hb') hkly
        rw [hAy] at hA'
        injection hA' with hA'
        subst hA'
        exact hc i v (by rw [← hxey]; exact hv)
      obtain ⟨csy, hcsy⟩ : ∃ cs, cs = clA y.y y.A y.c := ⟨_, rfl⟩
      have HCWy := Lib.hid (show ∀ w', Below w.heap.size w w' → ∀ i v, csy.toList[i]? = some v → w'.cell? ((bd.add (j * 11)).add i) = some v from fun w' hb' i v hv => hcelly w' hb' i v (by rw [hcsy] at hv; exact hv))
      have HIy := Lib.hid (show (Try.prog.info? 44).map (·.size) = some csy.toList.length from by rw [hcsy]; kernel_rfl)
      have HCSy := Lib.hid hcsy
      have HXMy := Lib.hid hxmy
      have HXEy := Lib.hid hxey
      have HTX := Lib.hid (show l.take (j + 1) = l.take j ++ [x] from by rw [hxex]; exact List.take_succ_eq_append_getElem hklx)
      have HTY := Lib.hid (show m.take (j + 1) = m.take j ++ [y] from by rw [hxey]; exact List.take_succ_eq_append_getElem hkly)
      have HLEN := Lib.hid (show (ys (l.take j)).length = j ∧ (ys (m.take j)).length = j from ⟨by rw [ys_length, List.length_take]; omega, by rw [ys_length, List.length_take]; omega⟩)
      subst hAx
      subst hAy
      have HB := Lib.hid hbw
      have k0 : (0 : Int) ≤ (j : Int) := by omega
      have k1 : (j : Int) < (N : Int) := by omega
      clear hxmx hrdx hcellx hcsx hxex hxmy hrdy hcelly hcsy hxey hbw
      by_cases hxy : x.y = y.y
      · have HSM := Lib.hid (show ∀ W, Below wr.heap.size wr W → Calls Try.prog 27 #[.agg csx, .agg csy] W (RetB (.bool true) W) from fun W hW => by
          have hb := HB.out.trans (hW.mono HB.out.size)
          have h := csame_any x.y y.y x.A y.A x.c y.c W ((HBO.out x HXMx.out).below hb) ((HBO2.out y HXMy.out).below hb) hb.size
          rw [← HCSx.out, ← HCSy.out, decide_eq_true hxy] at h; exact h)
        have HXY := Lib.hid hxy
        clear hxy
        go_upto_region 6 with fail
        refine wp_region_held_drew (S := (fun w' => Below wr.heap.size wr w')) (by kernel_rfl) (Below.refl wr.heap.size wr).drew (fun hh => ?_)
        have HH := Lib.hid hh
        clear hh
        refine wpAnyH_take (i := 0) (v := ?va0) rfl (by kernel_rfl) (by kernel_rfl) (by kernel_rfl) (fun _ _ _ h => h) (Or.inl ⟨by rfl, fun w' _ => ?ya0⟩) HH.out ?_
        case ya0 => (go_simp; try with_reducible rfl)
        refine wpAnyH_take (i := 1) (v := ?va1) rfl (by kernel_rfl) (by kernel_rfl) (by kernel_rfl) (fun _ _ _ h => h) (Or.inl ⟨by rfl, fun w' _ => ?ya1⟩) HH.out ?_
        case ya1 => (go_simp; try with_reducible rfl)
        try simp only [List.getElem_toArray, List.getElem_cons_succ, List.getElem_cons_zero, Act.put, List.setIfInBounds_toArray, List.set_cons_zero, List.set_cons_succ]
        refine wpAnyH_take (i := 2) (v := ?va2) rfl (by kernel_rfl) (by kernel_rfl) (by kernel_rfl) (fun _ _ _ h => h) (Or.inl ⟨by rfl, fun w' _ => ?ya2⟩) HH.out ?_
        case ya2 => (go_simp; try with_reducible rfl)
        try simp only [List.getElem_toArray, List.getElem_cons_succ, List.getElem_cons_zero, Act.put, List.setIfInBounds_toArray, List.set_cons_zero, List.set_cons_succ]
        refine wpAnyH_take (i := 3) (v := .agg csx) rfl (by kernel_rfl) (by kernel_rfl) (by kernel_rfl) (fun _ _ _ h => h) (Or.inl ⟨by rfl, fun w' hw' => ?ya3⟩) HH.out ?_
        case ya3 => exact exec_load_at 44 (.tmp 19) rfl (ad.add (j * 11)) rfl (HCWx.out _ (HB.out.trans (hw'.mono HB.out.size))) Try.underlying44 rfl HIx.out
        refine wpAnyH_take (i := 4) (v := ?va4) rfl (by kernel_rfl) (by kernel_rfl) (by kernel_rfl) (fun _ _ _ h => h) (Or.inl ⟨by rfl, fun w' _ => ?ya4⟩) HH.out ?_
        case ya4 => (go_simp; try with_reducible rfl)
        try simp only [List.getElem_toArray, List.getElem_cons_succ, List.getElem_cons_zero, Act.put, List.setIfInBounds_toArray, List.set_cons_zero, List.set_cons_succ]
        refine wpAnyH_take (i := 5) (v := ?va5) rfl (by kernel_rfl) (by kernel_rfl) (by kernel_rfl) (fun _ _ _ h => h) (Or.inl ⟨by rfl, fun w' _ => ?ya5⟩) HH.out ?_
        case ya5 => (go_simp; try with_reducible rfl)
        refine wpAnyH_take (i := 6) (v := ?va6) rfl (by kernel_rfl) (by kernel_rfl) (by kernel_rfl) (fun _ _ _ h => h) (Or.inl ⟨by rfl, fun w' _ => ?ya6⟩) HH.out ?_
        case ya6 => (go_simp; try with_reducible rfl)
        try simp only [List.getElem_toArray, List.getElem_cons_succ, List.getElem_cons_zero, Act.put, List.setIfInBounds_toArray, List.set_cons_zero, List.set_cons_succ]
        refine wpAnyH_take (i := 7) (v := .agg csy) rfl (by kernel_rfl) (by kernel_rfl) (by kernel_rfl) (fun _ _ _ h => h) (Or.inl ⟨by rfl, fun w' hw' => ?ya7⟩) HH.out ?_
        case ya7 => exact exec_load_at 44 (.tmp 23) rfl (bd.add (j * 11)) rfl (HCWy.out _ (HB.out.trans (hw'.mono HB.out.size))) Try.underlying44 rfl HIy.out
        try simp only [List.getElem_toArray, List.getElem_cons_succ, List.getElem_cons_zero, Act.put, List.setIfInBounds_toArray, List.set_cons_zero, List.set_cons_succ]
        refine wpAnyH_ready (rs := [8]) (by kernel_rfl) (by simp) (AllReadyH.cons rfl (fun K hK => ?_) AllReadyH.nil)
        go_simp
        refine (HSM.out _ HH.out).mono ?_
        rintro e w6 ⟨rfl, bw⟩
        have hb := HH.out.trans (bw.mono HH.out.size)
        go_simp
        refine hK.out _ _ hb (fun hh => ?_)
        have HH' := Lib.hid hh
        clear hh hK K HH bw
        have HH := Lib.hid HH'.out
        clear HH'
        refine wpAnyH_take (i := 9) (v := ?va9) rfl (by kernel_rfl) (by kernel_rfl) (by kernel_rfl) (fun _ _ _ h => h) (Or.inl ⟨by rfl, fun w' _ => ?ya9⟩) HH.out ?_
        case ya9 => (go_simp; try with_reducible rfl)
        try simp only [List.getElem_toArray, List.getElem_cons_succ, List.getElem_cons_zero, Act.put, List.setIfInBounds_toArray, List.set_cons_zero, List.set_cons_succ]
        refine wpAnyH_done (by kernel_rfl) ?_ _
        have B5 := Lib.hid (HB.out.trans (HH.out.mono HB.out.size))
        go_wp2_with fail
        go_roundw
        case rel => exact ⟨j + 1, by omega, by go_num, B5.out, Lib.hid (by rw [HTX.out, HTY.out, ys_append, ys_append, HT.out]; simp [ys, HXY.out])⟩
        case measure => (simp [intOf]; try omega)
      · have HSM := Lib.hid (show ∀ W, Below wr.heap.size wr W → Calls Try.prog 27 #[.agg csx, .agg csy] W (RetB (.bool false) W) from fun W hW => by
          have hb := HB.out.trans (hW.mono HB.out.size)
          have h := csame_any x.y y.y x.A y.A x.c y.c W ((HBO.out x HXMx.out).below hb) ((HBO2.out y HXMy.out).below hb) hb.size
          rw [← HCSx.out, ← HCSy.out, decide_eq_false hxy] at h; exact h)
        have HD := Lib.hid (show decide (ys l = ys m) = false from decide_eq_false (fun h => hxy (by
          have h1 : (ys l)[j]? = (ys m)[j]? := by rw [h]
          rw [ys, ys, List.getElem?_map, List.getElem?_map, List.getElem?_eq_getElem (by rw [HL.out]; exact hlt), List.getElem?_eq_getElem (by rw [HM.out]; exact hlt), ← HXEx.out, ← HXEy.out] at h1
          injection h1)))
        clear hxy
        go_upto_region 6 with fail
        refine wp_region_held_drew (S := (fun w' => Below wr.heap.size wr w')) (by kernel_rfl) (Below.refl wr.heap.size wr).drew (fun hh => ?_)
        have HH := Lib.hid hh
        clear hh
        refine wpAnyH_take (i := 0) (v := ?vb0) rfl (by kernel_rfl) (by kernel_rfl) (by kernel_rfl) (fun _ _ _ h => h) (Or.inl ⟨by rfl, fun w' _ => ?yb0⟩) HH.out ?_
        case yb0 => (go_simp; try with_reducible rfl)
        refine wpAnyH_take (i := 1) (v := ?vb1) rfl (by kernel_rfl) (by kernel_rfl) (by kernel_rfl) (fun _ _ _ h => h) (Or.inl ⟨by rfl, fun w' _ => ?yb1⟩) HH.out ?_
        case yb1 => (go_simp; try with_reducible rfl)
        try simp only [List.getElem_toArray, List.getElem_cons_succ, List.getElem_cons_zero, Act.put, List.setIfInBounds_toArray, List.set_cons_zero, List.set_cons_succ]
        refine wpAnyH_take (i := 2) (v := ?vb2) rfl (by kernel_rfl) (by kernel_rfl) (by kernel_rfl) (fun _ _ _ h => h) (Or.inl ⟨by rfl, fun w' _ => ?yb2⟩) HH.out ?_
        case yb2 => (go_simp; try with_reducible rfl)
        try simp only [List.getElem_toArray, List.getElem_cons_succ, List.getElem_cons_zero, Act.put, List.setIfInBounds_toArray, List.set_cons_zero, List.set_cons_succ]
        refine wpAnyH_take (i := 3) (v := .agg csx) rfl (by kernel_rfl) (by kernel_rfl) (by kernel_rfl) (fun _ _ _ h => h) (Or.inl ⟨by rfl, fun w' hw' => ?yb3⟩) HH.out ?_
        case yb3 => exact exec_load_at 44 (.tmp 19) rfl (ad.add (j * 11)) rfl (HCWx.out _ (HB.out.trans (hw'.mono HB.out.size))) Try.underlying44 rfl HIx.out
        refine wpAnyH_take (i := 4) (v := ?vb4) rfl (by kernel_rfl) (by kernel_rfl) (by kernel_rfl) (fun _ _ _ h => h) (Or.inl ⟨by rfl, fun w' _ => ?yb4⟩) HH.out ?_
        case yb4 => (go_simp; try with_reducible rfl)
        try simp only [List.getElem_toArray, List.getElem_cons_succ, List.getElem_cons_zero, Act.put, List.setIfInBounds_toArray, List.set_cons_zero, List.set_cons_succ]
        refine wpAnyH_take (i := 5) (v := ?vb5) rfl (by kernel_rfl) (by kernel_rfl) (by kernel_rfl) (fun _ _ _ h => h) (Or.inl ⟨by rfl, fun w' _ => ?yb5⟩) HH.out ?_
        case yb5 => (go_simp; try with_reducible rfl)
        refine wpAnyH_take (i := 6) (v := ?vb6) rfl (by kernel_rfl) (by kernel_rfl) (by kernel_rfl) (fun _ _ _ h => h) (Or.inl ⟨by rfl, fun w' _ => ?yb6⟩) HH.out ?_
        case yb6 => (go_simp; try with_reducible rfl)
        try simp only [List.getElem_toArray, List.getElem_cons_succ, List.getElem_cons_zero, Act.put, List.setIfInBounds_toArray, List.set_cons_zero, List.set_cons_succ]
        refine wpAnyH_take (i := 7) (v := .agg csy) rfl (by kernel_rfl) (by kernel_rfl) (by kernel_rfl) (fun _ _ _ h => h) (Or.inl ⟨by rfl, fun w' hw' => ?yb7⟩) HH.out ?_
        case yb7 => exact exec_load_at 44 (.tmp 23) rfl (bd.add (j * 11)) rfl (HCWy.out _ (HB.out.trans (hw'.mono HB.out.size))) Try.underlying44 rfl HIy.out
        try simp only [List.getElem_toArray, List.getElem_cons_succ, List.getElem_cons_zero, Act.put, List.setIfInBounds_toArray, List.set_cons_zero, List.set_cons_succ]
        refine wpAnyH_ready (rs := [8]) (by kernel_rfl) (by simp) (AllReadyH.cons rfl (fun K hK => ?_) AllReadyH.nil)
        go_simp
        refine (HSM.out _ HH.out).mono ?_
        rintro e w6 ⟨rfl, bw⟩
        have hb := HH.out.trans (bw.mono HH.out.size)
        go_simp
        refine hK.out _ _ hb (fun hh => ?_)
        have HH' := Lib.hid hh
        clear hh hK K HH bw
        have HH := Lib.hid HH'.out
        clear HH'
        refine wpAnyH_take (i := 9) (v := ?vb9) rfl (by kernel_rfl) (by kernel_rfl) (by kernel_rfl) (fun _ _ _ h => h) (Or.inl ⟨by rfl, fun w' _ => ?yb9⟩) HH.out ?_
        case yb9 => (go_simp; try with_reducible rfl)
        try simp only [List.getElem_toArray, List.getElem_cons_succ, List.getElem_cons_zero, Act.put, List.setIfInBounds_toArray, List.set_cons_zero, List.set_cons_succ]
        refine wpAnyH_done (by kernel_rfl) ?_ _
        have B5 := Lib.hid (HB.out.trans (HH.out.mono HB.out.size))
        go_wp2_with fail
        go_ret
        exact ⟨ret_bool HD.out.symm, B5.out⟩
    · obtain rfl : N = j := by omega
      have HB := Lib.hid hbw
      have HD := Lib.hid (show decide (ys l = ys m) = true from decide_eq_true (by
        have h := HT.out
        rw [List.take_of_length_le (by rw [HL.out]; exact Nat.le_refl _), List.take_of_length_le (by rw [HM.out]; exact Nat.le_refl _)] at h
        exact h))
      clear hbw
      go_wp2_with fail
      go_ret
      exact ⟨ret_bool HD.out.symm, HB.out⟩
end Go.Proofs.Ythdmdlnndbjcoaa.Pk
/-
  What the document tells of four cells, as the laws ask it first.
-/
namespace Go.Proofs.Ythdmdlnndbjcoaa.Pk
open Go.RowKit Ce
attribute [local go_sem ↓] Go.wp_at_zero Go.wp_at_succ
def fullCl : Cl := ⟨1, 1, 0, 0, 0, 0, 0, 0, 0, 0, List.replicate 32 0⟩
def mark2Cl : Cl := ⟨8, 2, 0, 0, 0, 0, 0, 0, 0, 0, []⟩
theorem awake_fill : (fillB encCl [fullCl, fullCl, mark2Cl, fullCl]).map List.length = [99, 46] := by decide +kernel
theorem awake_in : inB encCl [fullCl, fullCl, mark2Cl, fullCl] = [0, 0, 0, 1] := by decide +kernel
theorem exec_makeS {P : Program} {w w' : World} {r : Operand → Value} {o : Oper} {v : Value} (t : TypeId) (x y : Operand) (ho : o.op = .makeSlice t x y) (h : (Instr.makeSlice t (r x) (r y)).run P w = .ok v w') :
    (execOp r o).run P w = .ok (.value v) w' := by
  unfold execOp
  simp only [ho, Sem.run_bind, h, Result.andThen_ok, Sem.run_pure]
theorem byteN : EltN Try.prog 34 5 (.int .u8 0) 1 1 := ⟨Try.underlying34, by kernel_rfl, rfl, by omega, by omega⟩
theorem make_32 (W : World) : (Instr.makeSlice 34 (.int .i64 32) (.int .i64 32)).run Try.prog W = .ok (.slice (some ⟨W.heap.size, 0, none⟩) 32 32) (W.alloc (.cells (bva (List.replicate 32 0)) 5)) := by
  obtain ⟨i, hi, hz, hs, hby⟩ := info_parts byteN.info
  have h := run_makeSlice (P := Try.prog) W 34 5 i _ Try.underlying34 hi hz .i64 .i64 32 32 (by omega) (Int.le_refl _) (by rw [hs]; decide) (by rw [hby]; decide) (by omega)
  rw [hs] at h
  rw [show madeCells (Value.int IntKind.u8 0).cells (Int.toNat 32 * 1) = bva (List.replicate 32 0) from by kernel_rfl] at h
  exact h
set_option maxRecDepth 100000 in
set_option maxHeartbeats 12800000 in
theorem pkAwake_any (w : World) : Calls Try.prog 12 #[] w (RetB (.bool true) w) := by
  obtain ⟨z, hz⟩ : ∃ z : Array Value, z = bva (List.replicate 32 0) := ⟨_, rfl⟩
  have hmk : ∀ W, (Instr.makeSlice 34 (.int .i64 32) (.int .i64 32)).run Try.prog W = .ok (.slice (some ⟨W.heap.size, 0, none⟩) 32 32) (W.alloc (.cells z 5)) := fun W => by rw [hz]; exact make_32 W
  obtain ⟨L, hL⟩ : ∃ L : List Cc, L = [⟨fullCl, some ⟨w.heap.size, 0, none⟩, 32⟩, ⟨fullCl, some ⟨w.heap.size, 0, none⟩, 32⟩, ⟨mark2Cl, none, 0⟩, ⟨fullCl, some ⟨w.heap.size, 0, none⟩, 32⟩] := ⟨_, rfl⟩
  have hys : ys L = [fullCl, fullCl, mark2Cl, fullCl] := by rw [hL]; rfl
  have hall : allOk L := by
    intro k hk
    have h : ∀ y ∈ ys L, okCl y := by rw [hys]; decide +kernel
    exact h _ (List.mem_map.2 ⟨k, hk, rfl⟩)
  have HF := Lib.hid (show ∀ W, W = ((w.alloc (.cells z 5)).alloc (.cells (clA fullCl (some ⟨w.heap.size, 0, none⟩) 32) 44)).alloc (.cells (ccs L).toArray 44) → Below w.heap.size w W ∧ Calls Try.prog 13 #[.slice (some ⟨w.heap.size + 1 + 1, 0, none⟩) 4 4] W (RetFill L W) from fun W hW => by
    have b1 : Below w.heap.size w W := by rw [hW]; exact (((Below.refl _ _).alloc (Nat.le_refl _) _).alloc (by simp) _).alloc (by simp; omega) _
    refine ⟨b1, ?_⟩
    have hr : Rd W.heap.size W (some ⟨w.heap.size + 1 + 1, 0, none⟩) (ccs L) := by
      have h := Rd.lit ((w.alloc (.cells z 5)).alloc (.cells (clA fullCl (some ⟨w.heap.size, 0, none⟩) 32) 44)) 44 (ccs L)
      rw [← hW] at h
      simp only [World.size_alloc] at h
      refine h.more ?_
      rw [hW]; simp
    have hbz : Blk W w.heap.size (bva (List.replicate 32 0)) 5 := by
      have h1 : Blk (w.alloc (.cells z 5)) w.heap.size (bva (List.replicate 32 0)) 5 := by rw [hz]; exact heap_alloc_new _ _
      rw [hW]
      exact Blk.below (Blk.below h1 ((Below.refl _ _).alloc (Nat.le_refl _) _)) ((Below.refl _ _).alloc (Nat.le_refl _) _)
    have hrb : Rd W.heap.size W (some ⟨w.heap.size, 0, none⟩) (bv fullCl.body) := by
      intro j v hv
      exact ⟨_, rfl, hbz.lt, by rw [Addr.add_mid, hbz.cell, Nat.zero_add]; simpa [bva, fullCl] using hv⟩
    refine fill_any W _ 4 4 L (by rw [hL]; rfl) hr (fun k hk => ?_) (Nat.le_refl _) (by omega)
    rw [hL] at hk
    simp only [List.mem_cons, List.not_mem_nil, or_false] at hk
    rcases hk with rfl | rfl | rfl | rfl
    · exact hrb
    · exact hrb
    · exact Rd.none
    · exact hrb)
  have HALL := Lib.hid hall
  have HYS := Lib.hid hys
  have HLL := Lib.hid (show L.length = 4 by rw [hL]; rfl)
  have HCC := Lib.hid (show (ccs L).toArray = #[.int .i64 1, .int .u64 1, .int .i64 0, .int .i64 0, .int .i64 0, .int .i64 0, .int .u64 0, .int .i64 0, .int .i64 0, .int .i64 0, .slice (some ⟨w.heap.size, 0, none⟩) 32 32, .int .i64 1, .int .u64 1, .int .i64 0, .int .i64 0, .int .i64 0, .int .i64 0, .int .u64 0, .int .i64 0, .int .i64 0, .int .i64 0, .slice (some ⟨w.heap.size, 0, none⟩) 32 32, .int .i64 8, .int .u64 2, .int .i64 0, .int .i64 0, .int .i64 0, .int .i64 0, .int .u64 0, .int .i64 0, .int .i64 0, .int .i64 0, .slice none 0 0, .int .i64 1, .int .u64 1, .int .i64 0, .int .i64 0, .int .i64 0, .int .i64 0, .int .u64 0, .int .i64 0, .int .i64 0, .int .i64 0, .slice (some ⟨w.heap.size, 0, none⟩) 32 32] from by rw [hL]; simp [ccs, ccV, clA, fullCl, mark2Cl])
  have hcl : clA fullCl (some ⟨w.heap.size, 0, none⟩) 32 = #[.int .i64 1, .int .u64 1, .int .i64 0, .int .i64 0, .int .i64 0, .int .i64 0, .int .u64 0, .int .i64 0, .int .i64 0, .int .i64 0, .slice (some ⟨w.heap.size, 0, none⟩) 32 32] := by simp [clA, fullCl]
  rw [HCC.out, hcl] at HF
  clear hz hL hys hall hcl HCC
  go_enter Try.func12, Try.ntmps12
  go_wp2_with (refine wpList_execgC rfl (exec_makeS 34 _ _ rfl (hmk w)) ?_)
  obtain ⟨b3, hcall⟩ := HF.out _ rfl
  refine hcall.mono ?_
  have B3 := Lib.hid b3
  clear hcall b3 hmk HF
  rintro e w4 (⟨_, A, n, c, bl, I, d, rfl, hb, he, hi, bw⟩ | ⟨hno, _⟩)
  rotate_left
  · exact absurd HALL.out hno
  have hbl : (ebb bl).map List.length = [99, 46] := by rw [he, HYS.out]; exact awake_fill
  obtain ⟨e0, e1, rfl⟩ : ∃ e0 e1, bl = [e0, e1] := by
    match bl, hbl with
    | [e0, e1], _ => exact ⟨e0, e1, rfl⟩
    | [], h => simp [ebb] at h
    | [_], h => simp [ebb] at h
    | _ :: _ :: _ :: _, h => simp [ebb] at h
  obtain rfl : 2 = n := hb.len
  have hl0 : e0.b.length = 99 ∧ e1.b.length = 46 := by simpa [ebb] using hbl
  rw [HLL.out, HYS.out, awake_in] at hi
  obtain ⟨g, rfl, _, _, _⟩ := own_addr hb.own (by omega)
  obtain ⟨g2, rfl, _, _, _⟩ := own_addr hi (by omega)
  have c0 : w4.cell? ⟨g, 0, none⟩ = some (.slice e0.A 99 e0.c) := by
    have := hb.own.cells (g := g) rfl 0 _ (ebv_get (e := e0) rfl)
    rw [add_head, Eb.v, hl0.1] at this; exact this
  have c1 : w4.cell? ⟨g, 1, none⟩ = some (.slice e1.A 46 e1.c) := by
    have := hb.own.cells (g := g) rfl 1 _ (ebv_get (e := e1) rfl)
    rw [add_head, Eb.v, hl0.2] at this; exact this
  have c2 : w4.cell? ⟨g2, 2, none⟩ = some (.int .i64 0) := by
    have := hi.cells (g := g2) rfl 2 (.int .i64 0) rfl
    rw [add_head] at this; exact this
  have c3 : w4.cell? ⟨g2, 3, none⟩ = some (.int .i64 1) := by
    have := hi.cells (g := g2) rfl 3 (.int .i64 1) rfl
    rw [add_head] at this; exact this
  have B4 := Lib.hid (B3.out.trans (bw.mono B3.out.size))
  rw [HLL.out]
  clear hbl hl0 hb hi he bw
  go_wp2_with fail
  go_ret
  exact ⟨rfl, B4.out⟩
end Go.Proofs.Ythdmdlnndbjcoaa.Pk
/-
  What the laws of pack need: bodies one by one, the numbers of bodies, Worst.
-/
namespace Go.Proofs.Ythdmdlnndbjcoaa.Pk
open Go.RowKit Ce
attribute [local go_sem ↓] Go.wp_at_zero Go.wp_at_succ
theorem open_len (b : List UInt8) : (openL b).1.length ≤ 103 := by
  have H : ∀ n b, (openN n b).1.length ≤ n := by
    intro n
    induction n with
    | zero => exact fun b => Nat.le_refl _
    | succ n ih =>
      intro b
      rw [openN]
      split
      · simp
      · split
        · split
          · simp only [List.length_cons]; have := ih (b.drop (decCl b).2.1); omega
          · simp
        · simp
  unfold openL
  split
  · simp
  · have := H b.length b; omega
theorem ints_at {w : World} {base n d : Nat} {I : Option Addr} {is : List Nat} (h : w.ownsRow base 3 1 (.slice I n d) n (ev is)) (hl : is.length = n) :
    ∃ g, (0 < n → I = some ⟨g, 0, none⟩) ∧ ∀ j (hj : j < n), w.cell? ⟨g, j, none⟩ = some (.int .i64 ((is[j]'(by rw [hl]; exact hj) : Nat) : Int)) := by
  rcases Nat.eq_zero_or_pos n with h0 | h0
  · exact ⟨0, fun h => by omega, fun j hj => by omega⟩
  · obtain ⟨g, rfl, _⟩ := own_addr h h0
    refine ⟨g, fun _ => rfl, fun j hj => ?_⟩
    have := h.cells (g := g) rfl j (.int .i64 ((is[j]'(by rw [hl]; exact hj) : Nat) : Int)) (by rw [ev, List.getElem?_map, List.getElem?_eq_getElem (by rw [hl]; exact hj)]; rfl)
    rw [add_head] at this; exact this
set_option maxRecDepth 100000 in
theorem worst_any (a : Int) (w : World) : Calls Try.prog 16 #[.int .i64 a] w (RetB (.int .i64 (max a 0)) w) := by
  go_enter Try.func16, Try.ntmps16
  go_wp2_with fail
  all_goals go_ret
  all_goals exact ⟨ret_int (by omega), Below.refl _ _⟩
/-- A body, as it lies. -/
theorem Bods.at_ {w : World} {base n c i : Nat} {A : Option Addr} {bl : List Eb} (h : Bods w base (.slice A n c) n bl) (hi : i < n) :
    ∃ g e, A = some ⟨g, 0, none⟩ ∧ bl[i]? = some e ∧ w.cell? ⟨g, i, none⟩ = some (.slice e.A e.b.length e.c) ∧ Rd w.heap.size w e.A (bv e.b) ∧ e.b.length ≤ e.c ∧ e.c ≤ maxLen ∧ g < w.heap.size := by
  obtain ⟨g, rfl, _⟩ := own_addr h.own (by omega)
  have hl : i < bl.length := by rw [h.len]; exact hi
  have he : bl[i]? = some bl[i] := List.getElem?_eq_getElem hl
  have ho := h.el i _ he
  have hc := own_caps (A := bl[i].A) (c := bl[i].c) ho
  refine ⟨g, bl[i], rfl, he, ?_, Rd.own (n := bl[i].b.length) (c := bl[i].c) ho, hc.1, hc.2, (h.lt (.inl rfl)).2⟩
  have := h.own.cells (g := g) rfl i _ (ebv_get he)
  rw [add_head] at this; exact this
/-- A body's cells. -/
theorem seg_at {l : List Cc} (h : allOk l) {bl : List Eb} (he : ebb bl = fillB encCl (ys l)) {i : Nat} {e : Eb} (hi : bl[i]? = some e) :
    ∃ s, (segs encCl (ys l))[i]? = some s ∧ e.b = encs encCl s ∧ s ≠ [] ∧ e.b.length ≤ 103 ∧ openL e.b = (s, true) ∧ ∀ y ∈ s, okCl y := by
  have hs := segOk_ys h
  have h1 : (ebb bl)[i]? = some e.b := by rw [ebb, List.getElem?_map, hi]; rfl
  rw [he, fillB, List.getElem?_map] at h1
  cases h2 : (segs encCl (ys l))[i]? with
  | none => rw [h2] at h1; cases h1
  | some s =>
    rw [h2] at h1
    injection h1 with h1
    have hm := List.mem_of_getElem? h2
    have hle := hs.le s hm
    have hok : ∀ y ∈ s, okCl y := fun y hy => by
      have : y ∈ ys l := by rw [← hs.flat]; exact List.mem_flatten.2 ⟨s, hm, hy⟩
      obtain ⟨k, hk, rfl⟩ := List.mem_map.1 this
      exact h k hk
    exact ⟨s, rfl, h1.symm, hs.ne s hm, by rw [← h1]; exact hle, by rw [← h1]; exact open_yes hok hle, hok⟩
theorem bods_count {w : World} {base n : Nat} {v : Value} {bl : List Eb} {l : List Cc} (h : Bods w base v n bl) (ha : allOk l) (he : ebb bl = fillB encCl (ys l)) : n ≤ l.length ∧ (segs encCl (ys l)).length = n := by
  have h1 := fill_count ha
  rw [← he, ebb_length, h.len] at h1
  refine ⟨h1, ?_⟩
  rw [← fill_length, ← he, ebb_length, h.len]
theorem flat_all {l : List Cc} (h : allOk l) {n : Nat} (hn : (segs encCl (ys l)).length = n) : ((segs encCl (ys l)).take n).flatten = ys l := by
  rw [List.take_of_length_le (by omega)]; exact (segOk_ys h).flat
theorem flat_bound {l : List Cc} (h : allOk l) {i : Nat} {s : List Cl} (hi : (segs encCl (ys l))[i]? = some s) : ((segs encCl (ys l)).take i).flatten.length + s.length ≤ l.length := by
  have h1 := congrArg List.length (flat_take hi)
  have h2 : (((segs encCl (ys l)).take (i + 1)).flatten).length ≤ (segs encCl (ys l)).flatten.length := by
    have h3 := congrArg List.length (congrArg List.flatten (List.take_append_drop (i + 1) (segs encCl (ys l))))
    rw [List.flatten_append, List.length_append] at h3
    omega
  rw [List.length_append] at h1
  rw [(segOk_ys h).flat, ys_length] at h2
  omega
end Go.Proofs.Ythdmdlnndbjcoaa.Pk
