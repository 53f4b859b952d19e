/-
  Texts of this seat, one behind the other: LoGo, LoSeen, ScWalk, ScStep, ScAll, ScMd, ScStart, LoZero, ConvB, OpenA, LoRef2.
-/
import Derived.Laws.IdiomStrings
import Derived.Lib.Strings
import Derived.OpenShut
import Derived.ProofKit
import Derived.Deep.RegionHeld
import Derived.Test.YthadomboiockhaaLa4
/-
  A log no segment of which was freed: what it knows behind T bodies, and what is found then. No program.
-/
namespace Go.Proofs.Ythadomboiockhaa.Lo
open Go.RowKit Kd Sx
/-- Behind q segments and r bodies. -/
def lgQ (size segs q r : Nat) : Lg :=
  ⟨size, (List.range segs).map fun i => if i < q ∨ (i = q ∧ 0 < r) then i + 1 else 0, if 0 < r then q + 1 else q, if 0 < r then some (q, r) else if 0 < q then some (q - 1, size) else none⟩
theorem find_range (p : Nat → Bool) (n : Nat) {q : Nat} (h1 : ∀ i, i < q → p i = false) (h2 : p q = true) : ((List.range n).map fun i => if p i then (0 : Nat) else i + 1).findIdx? (· == 0) = if q < n then some q else none := by
  split
  · rename_i hq
    rw [List.findIdx?_eq_some_iff_getElem]
    refine ⟨by simpa using hq, by simp [h2], fun j hj => ?_⟩
    simp [h1 j hj]
  · rename_i hq
    rw [List.findIdx?_eq_none_iff]
    intro x hx
    obtain ⟨i, hi, rfl⟩ := List.mem_map.1 hx
    have hi := List.mem_range.1 hi
    rw [h1 i (by omega)]
    simp
theorem freeK_Q {size segs q : Nat} : freeK (lgQ size segs q 0).gens = if q < segs then some q else none := by
  have := find_range (fun i => decide (q ≤ i)) segs (q := q) (fun i hi => decide_eq_false (by omega)) (decide_eq_true (Nat.le_refl _))
  rw [← this, freeK, lgQ]
  congr 1
  refine List.map_congr_left fun i _ => ?_
  by_cases h : i < q
  · rw [if_pos (.inl h), if_neg (by simp; omega)]
  · rw [if_neg (by omega), if_pos (by simp; omega)]
theorem next_Q {size segs q r : Nat} (hr : r < size) : (lgQ size segs q r).next = if q < segs ∨ 0 < r then (if 0 < r then some (q, r, (lgQ size segs q r).gens.getD q 0) else some (q, 0, q + 1)) else none := by
  by_cases h : 0 < r
  · have e : (lgQ size segs q r).h = some (q, r) := by rw [lgQ]; exact if_pos h
    rw [Lg.next, e]
    show (if r < size then _ else _) = _
    rw [if_pos hr, if_pos (.inr h), if_pos h]
  · obtain rfl : r = 0 := by omega
    have hl : (lgQ size segs q 0).last = q := by show (if 0 < 0 then q + 1 else q) = q; exact if_neg h
    have hn : (lgQ size segs q 0).next = (freeK (lgQ size segs q 0).gens).map fun k => (k, 0, (lgQ size segs q 0).last + 1) := by
      by_cases h0 : 0 < q
      · have e : (lgQ size segs q 0).h = some (q - 1, size) := by show (if 0 < 0 then some (q, 0) else if 0 < q then some (q - 1, size) else none) = _; rw [if_neg h, if_pos h0]
        rw [Lg.next, e]
        show (if size < size then _ else _) = _
        rw [if_neg (Nat.lt_irrefl _)]
      · have e : (lgQ size segs q 0).h = none := by show (if 0 < 0 then some (q, 0) else if 0 < q then some (q - 1, size) else none) = _; rw [if_neg h, if_neg h0]
        rw [Lg.next, e]
    rw [hn, freeK_Q, hl]
    by_cases hq : q < segs
    · rw [if_pos hq, if_pos (.inl hq), if_neg h]; rfl
    · rw [if_neg hq, if_neg (by omega)]; rfl
theorem gens_Q {size segs q r : Nat} (hq : q < segs) (hr : 0 < r) : (lgQ size segs q r).gens.getD q 0 = q + 1 := by
  simp [lgQ, hq, hr]
theorem gens_set_Q {size segs q r g : Nat} (hg : g = q + 1) : (lgQ size segs q r).gens.set q g = (lgQ size segs q (r + 1)).gens := by
  apply List.ext_getElem
  · simp [lgQ]
  · intro i h1 h2
    have hi : i < segs := by simpa [lgQ] using h2
    rw [List.getElem_set]
    simp only [lgQ, List.getElem_map, List.getElem_range]
    by_cases e : q = i
    · subst e
      rw [if_pos rfl, if_pos (by omega), hg]
    · rw [if_neg e]
      by_cases h : i < q
      · rw [if_pos (.inl h), if_pos (.inl h)]
      · rw [if_neg (by omega), if_neg (by omega)]
/-- Behind T bodies. -/
def lgT (size segs T : Nat) : Lg := lgQ size segs (T / size) (T % size)
theorem lgQ_full {size segs q : Nat} (hs : 0 < size) : lgQ size segs q size = lgQ size segs (q + 1) 0 := by
  unfold lgQ
  congr 1
  · refine List.map_congr_left fun i _ => ?_
    by_cases h : i < q ∨ i = q
    · rw [if_pos (by omega), if_pos (by omega)]
    · rw [if_neg (by omega), if_neg (by omega)]
  · rw [if_pos hs, if_neg (by omega)]
  · rw [if_pos hs, if_neg (by omega), if_pos (by omega), Nat.add_sub_cancel]
theorem lgTsucc {size segs T : Nat} (hs : 0 < size) : lgT size segs (T + 1) = lgQ size segs (T / size) (T % size + 1) := by
  have h1 := Nat.div_add_mod T size
  have h2 := Nat.mod_lt T hs
  by_cases h : T % size + 1 < size
  · have e : T + 1 = (T % size + 1) + size * (T / size) := by omega
    rw [lgT]
    have e1 : (T + 1) / size = T / size := by
      rw [e, Nat.add_mul_div_left _ _ hs, Nat.div_eq_of_lt h, Nat.zero_add]
    have e2 : (T + 1) % size = T % size + 1 := by
      rw [e, Nat.add_mul_mod_self_left, Nat.mod_eq_of_lt h]
    rw [e1, e2]
  · have e3 : T % size + 1 = size := by omega
    have e : T + 1 = size * (T / size + 1) := by rw [Nat.mul_add]; omega
    rw [lgT]
    have e1 : (T + 1) / size = T / size + 1 := by rw [e, Nat.mul_div_cancel_left _ hs]
    have e2 : (T + 1) % size = 0 := by rw [e, Nat.mul_mod_right]
    rw [e1, e2, e3, lgQ_full hs]
theorem div_lt_segs {size segs T : Nat} (hs : 0 < size) : T / size < segs ↔ T < segs * size := by
  rw [Nat.div_lt_iff_lt_mul hs]
theorem next_T {size segs T : Nat} (hs : 0 < size) (hT : T < segs * size) : (lgT size segs T).next = some (T / size, T % size, T / size + 1) := by
  have hq := (div_lt_segs hs).2 hT
  rw [lgT, next_Q (Nat.mod_lt _ hs), if_pos (.inl hq)]
  split
  · rename_i h; rw [gens_Q hq h]
  · rename_i h; rw [show T % size = 0 by omega]
theorem next_full {size segs : Nat} (hs : 0 < size) : (lgT size segs (segs * size)).next = none := by
  rw [lgT, next_Q (Nat.mod_lt _ hs), if_neg (by rw [Nat.mul_div_cancel _ hs, Nat.mul_mod_left]; omega)]
theorem last_Q {size segs q r : Nat} : (lgQ size segs q r).last ≤ q + 1 ∧ (0 < r → (lgQ size segs q r).last = q + 1) ∧ (r = 0 → (lgQ size segs q r).last = q) := by
  unfold lgQ
  refine ⟨?_, fun h => if_pos h, fun h => if_neg (by omega)⟩
  show (if 0 < r then q + 1 else q) ≤ q + 1
  split <;> omega
theorem put_T {size segs T : Nat} (hs : 0 < size) : (lgT size segs T).put (T / size, T % size, T / size + 1) = lgT size segs (T + 1) := by
  rw [lgTsucc hs, lgT, Lg.put, gens_set_Q rfl]
  have hl := (last_Q (size := size) (segs := segs) (q := T / size) (r := T % size)).1
  show Lg.mk size _ (max _ (T / size + 1)) (some (T / size, T % size + 1)) = _
  rw [Nat.max_eq_right hl]
  unfold lgQ
  rw [if_pos (Nat.succ_pos _), if_pos (Nat.succ_pos _)]
/-- The sector of body t. -/
theorem at_T {size segs T : Nat} : (lgT size segs T).at_ (T / size, T % size, T / size + 1) = 2 + T := by
  show 2 + T / size * size + T % size = 2 + T
  have := Nat.div_add_mod T size
  rw [Nat.mul_comm] at this; omega
theorem learn_T {size segs T : Nat} (hs : 0 < size) (hT : T < segs * size) (b : List UInt8) : (lgT size segs T).learn (2 + T, T / size + 1, b) = lgT size segs (T + 1) := by
  have hq := (div_lt_segs hs).2 hT
  rw [← put_T hs, Lg.learn, Lg.put]
  have e : 2 + T - 2 = T := by omega
  show Lg.mk size _ _ _ = Lg.mk size _ _ _
  have hgq : ((lgT size segs T).gens.getD (T / size) 0) ≤ T / size + 1 := by
    by_cases hr : 0 < T % size
    · rw [lgT, gens_Q hq hr]; exact Nat.le_refl _
    · have : (lgT size segs T).gens.getD (T / size) 0 = 0 := by
        simp [lgT, lgQ, hq, hr]
      rw [this]; exact Nat.zero_le _
  show Lg.mk size ((lgT size segs T).gens.set ((2 + T - 2) / size) (max ((lgT size segs T).gens.getD ((2 + T - 2) / size) 0) (T / size + 1))) (max (lgT size segs T).last (T / size + 1)) (if _ ∨ _ then some ((2 + T - 2) / size, (2 + T - 2) % size + 1) else (lgT size segs T).h) = _
  rw [e, Nat.max_eq_right hgq, if_pos]
  by_cases hr : 0 < T % size
  · refine .inr ⟨(last_Q (size := size) (segs := segs)).2.1 hr, ?_⟩
    show Option.map _ (lgQ size segs (T / size) (T % size)).h = _
    rw [lgQ]
    show Option.map _ (if 0 < T % size then _ else _) = _
    rw [if_pos hr]; rfl
  · refine .inl ?_
    show (lgQ size segs (T / size) (T % size)).last < T / size + 1
    rw [(last_Q (size := size) (segs := segs)).2.2 (by omega)]
    exact Nat.lt_succ_self _
theorem lgTzero (size segs : Nat) : lgT size segs 0 = Lg.new segs size := by
  rw [lgT, Nat.zero_div, Nat.zero_mod, lgQ, Lg.new]
  congr 1
  apply List.ext_getElem
  · simp
  · intro i h1 h2
    simp
/-- What is found of T bodies. -/
def itemsT (size : Nat) (all : List (List UInt8)) : List (Nat × Nat × List UInt8) := (List.range all.length).map fun t => (2 + t, t / size + 1, all.getD t [])
theorem itemsTsnoc (size : Nat) (all : List (List UInt8)) (b : List UInt8) : itemsT size (all ++ [b]) = itemsT size all ++ [(2 + all.length, all.length / size + 1, b)] := by
  unfold itemsT
  rw [List.length_append, List.length_singleton, List.range_succ, List.map_append, List.map_singleton]
  congr 1
  · refine List.map_congr_left fun t ht => ?_
    have ht := List.mem_range.1 ht
    rw [List.getD_eq_getElem?_getD, List.getElem?_append_left ht, ← List.getD_eq_getElem?_getD]
  · simp
theorem lgOf_T {size segs : Nat} (hs : 0 < size) (all : List (List UInt8)) (hT : all.length ≤ segs * size) : lgOf segs size (itemsT size all) = lgT size segs all.length := by
  have H : ∀ (n : Nat) (l : List (List UInt8)), l.length = n → n ≤ segs * size → lgOf segs size (itemsT size l) = lgT size segs l.length := by
    intro n
    induction n with
    | zero =>
      intro l hl _
      have : l = [] := List.length_eq_zero_iff.1 hl
      subst this
      show Lg.new segs size = _
      rw [← lgTzero]; rfl
    | succ n ih =>
      intro l hl hn
      have hne : l ≠ [] := by intro e; rw [e] at hl; cases hl
      have hl' : l.dropLast ++ [l.getLast hne] = l := List.dropLast_concat_getLast hne
      have hd : l.dropLast.length = n := by rw [List.length_dropLast, hl]; rfl
      have h1 := ih l.dropLast hd (by omega)
      rw [← hl', itemsTsnoc, lgOf, List.foldl_append]
      rw [lgOf] at h1
      rw [h1, List.foldl_cons, List.foldl_nil, learn_T hs (by omega), List.length_append]; rfl
  exact H _ all rfl hT
/-- They stand in their order. -/
theorem itemsTsorted (size : Nat) (all : List (List UInt8)) : (itemsT size all).Pairwise ltF := by
  unfold itemsT
  rw [List.pairwise_map]
  refine List.Pairwise.imp ?_ List.pairwise_lt_range
  intro a b h
  rcases Nat.lt_or_ge (a / size) (b / size) with h1 | h1
  · exact .inl (Nat.succ_lt_succ h1)
  · refine .inr ⟨?_, by show 2 + a < 2 + b; omega⟩
    have h2 : a / size ≤ b / size := Nat.div_le_div_right (by omega)
    show a / size + 1 = b / size + 1
    omega
end Go.Proofs.Ythadomboiockhaa.Lo
/-
  What stands on a list of sectors, where bodies were appended. No program.
-/
namespace Go.Proofs.Ythadomboiockhaa.Lo
open Go.RowKit Kd Sx
section
variable {f : List UInt8 → List UInt8 → List UInt8}
theorem seen_set (hf : ∀ k l, (f k l).length = 16) {L : List (List UInt8)} {k g : Nat} {b : List UInt8} (hk : k < L.length) (h4 : k < 4096) (hb : b.length ≤ 103) (hg : g < 18446744073709551616) (j : Nat) :
    seenA f (L.set k (sealedS f k g b)) j = if j = k then some (g, b) else seenA f L j := by
  by_cases e : j = k
  · subst e
    have hm : mayS (j : Int) b = true := decide_eq_true ⟨by omega, by omega, hb⟩
    rw [if_pos rfl, seenA, List.getD_eq_getElem?_getD, List.getElem?_set_self hk, Option.getD_some, if_pos (ok_sealed hf hm hg), sealed_gen hf hg, sealed_body hf hb]
  · rw [if_neg e, seenA, seenA, List.getD_eq_getElem?_getD, List.getElem?_set_ne (by omega), ← List.getD_eq_getElem?_getD]
theorem seen_zero {n k : Nat} (h : okS f k zeroS = false) : seenA f (List.replicate n zeroS) k = none := by
  have e : (List.replicate n zeroS).getD k zeroS = zeroS := by
    rw [List.getD_eq_getElem?_getD, List.getElem?_replicate]; split <;> rfl
  rw [seenA, e, h]; rfl
theorem found_same {L : List (List UInt8)} {k : Nat} : foundAt f L L k = (seenA f L k).map fun p => (k, p.1, p.2) := by
  rw [foundAt, best_same, seenA]; split <;> rfl
theorem mem_base {L : List (List UInt8)} {k N : Nat} {p : Nat × List UInt8} (h : seenA f L k = some p) (h2 : 2 ≤ k) (hN : k < N) : (k, p.1, p.2) ∈ baseF f L L N := by
  rw [baseF, List.mem_filterMap]
  exact ⟨k - 2, List.mem_range.2 (by omega), by rw [Nat.sub_add_cancel h2, found_same, h]; rfl⟩
/-- T bodies stand there, one behind the other, and nothing else. -/
def hasT (f : List UInt8 → List UInt8 → List UInt8) (size M : Nat) (L : List (List UInt8)) (all : List (List UInt8)) : Prop :=
  ∀ i, i < M → seenA f L (i + 2) = if i < all.length then some (i / size + 1, all.getD i []) else none
theorem filter_range {β : Type} (g : Nat → β) {T M : Nat} (h : T ≤ M) : ((List.range M).filterMap fun i => if i < T then some (g i) else none) = (List.range T).map g := by
  induction M with
  | zero => obtain rfl : T = 0 := by omega
            rfl
  | succ M ih =>
    rw [List.range_succ, List.filterMap_append]
    by_cases e : T = M + 1
    · subst e
      rw [List.range_succ, List.map_append]
      congr 1
      · rw [← List.filterMap_eq_map]
        refine fm_congr fun i hi => ?_
        have hi := List.mem_range.1 hi
        rw [if_pos (by omega)]; rfl
      · rw [List.filterMap_cons, if_pos (Nat.lt_succ_self _)]; rfl
    · rw [ih (by omega), List.filterMap_cons, if_neg (by omega)]
      exact List.append_nil _
theorem base_T {size M : Nat} {L all : List (List UInt8)} (h : hasT f size M L all) (hT : all.length ≤ M) : baseF f L L (2 + M) = itemsT size all := by
  rw [baseF, itemsT, ← filter_range _ hT, show 2 + M - 2 = M by omega]
  refine fm_congr fun i hi => ?_
  rw [found_same, h i (List.mem_range.1 hi)]
  split
  · rw [Nat.add_comm i 2]; rfl
  · rfl
theorem hasTzero {size M n : Nat} (h : ∀ k, k < M + 2 → okS f k zeroS = false) : hasT f size M (List.replicate n zeroS) [] := fun i hi => by
  rw [seen_zero (h _ (by omega)), if_neg (by simp)]
theorem hasTsnoc (hf : ∀ k l, (f k l).length = 16) {size M : Nat} {L all : List (List UInt8)} (h : hasT f size M L all) {b : List UInt8} (hb : b.length ≤ 103) (hT : all.length < M) (hL : M + 2 ≤ L.length) (hM : M + 2 ≤ 4096) :
    hasT f size M (L.set (2 + all.length) (sealedS f ((2 + all.length : Nat) : Int) (all.length / size + 1) b)) (all ++ [b]) := fun i hi => by
  have hd : all.length / size ≤ all.length := Nat.div_le_self _ _
  rw [seen_set hf (by omega) (by omega) hb (by omega)]
  by_cases e : i = all.length
  · subst e
    rw [if_pos (by omega), if_pos (by simp)]
    simp
  · rw [if_neg (by omega), h i hi]
    by_cases h1 : i < all.length
    · rw [if_pos h1, if_pos (by simp; omega), List.getD_eq_getElem?_getD, List.getD_eq_getElem?_getD, List.getElem?_append_left h1]
    · rw [if_neg h1, if_neg (by simp; omega)]
end
/-! ### What is sorted -/
theorem ltFtrans {x y z : Nat × Nat × List UInt8} (h : ltF x y) (h' : ltF y z) : ltF x z := by unfold ltF at *; omega
theorem ltFirrefl {x : Nat × Nat × List UInt8} : ¬ltF x x := by unfold ltF; omega
/-- Of the same, in this order, there is one row. -/
theorem sorted_one {l r : List (Nat × Nat × List UInt8)} (hp : l.Perm r) (hl : l.Pairwise ltF) (hr : r.Pairwise ltF) : l = r := by
  induction l generalizing r with
  | nil => exact (List.Perm.nil_eq hp)
  | cons x l ih =>
    cases r with
    | nil => exact absurd hp.length_eq (by simp)
    | cons y r =>
      have hxy : x = y := by
        have h1 : x ∈ y :: r := hp.subset (List.mem_cons_self)
        have h2 : y ∈ x :: l := hp.symm.subset (List.mem_cons_self)
        rcases List.mem_cons.1 h1 with h1 | h1
        · exact h1
        · rcases List.mem_cons.1 h2 with h2 | h2
          · exact h2.symm
          · have h3 := (List.pairwise_cons.1 hr).1 x h1
            have h4 := (List.pairwise_cons.1 hl).1 y h2
            exact absurd (ltFtrans h3 h4) ltFirrefl
      subst hxy
      rw [ih (List.Perm.cons_inv hp) (List.pairwise_cons.1 hl).2 (List.pairwise_cons.1 hr).2]
end Go.Proofs.Ythadomboiockhaa.Lo
/-
  A walk through a mirror, as it lies; the contract of a report's count; New, Report.
-/
namespace Go.Proofs.Ythadomboiockhaa.Sc
open Go.RowKit Kd Mi
attribute [local go_sem ↓] Go.wp_at_zero Go.wp_at_succ
/-- A walk: its next place, and what the ones behind it counted as. -/
structure Wk where
  n : Nat
  r : Nat
  h : Nat
  l : Nat
def Wk.cells (x : Wk) (P : Option Addr) : Array Value := #[.pointer P, .int .i64 x.n, .int .i64 x.r, .int .i64 x.h, .int .i64 x.l]
def Wk.rep (x : Wk) : Array Value := #[.int .i64 x.r, .int .i64 x.h, .int .i64 x.l]
def Wk.add (x : Wk) (k : Int) : Wk := if k = 0 then { x with r := x.r + 1 } else if k = 1 then { x with h := x.h + 1 } else { x with l := x.l + 1 }
def Wk.zero : Wk := ⟨0, 0, 0, 0⟩
theorem but_cell {w : World} {q o : Nat} (v : Value) : But (fun y => y = q) w (w.setCell ⟨q, o, none⟩ v) := but_one v
theorem walk_set {w : World} {q : Nat} {cs cs' : Array Value} {t : TypeId} (h : Blk w q cs t) (j : Nat) (v : Value) (e : cs.setIfInBounds j v = cs') : Blk (w.setCell ⟨q, j, none⟩ v) q cs' t := by
  rw [← e]; exact heap_setCell_same _ _ _ _ _ _ h
theorem wk_info : (Try.prog.info? 57).map (·.size) = some 3 := by kernel_rfl
theorem pthree_info : (Try.prog.info? 209).map (·.size) = some 3 := by kernel_rfl
set_option maxRecDepth 100000 in
set_option maxHeartbeats 3200000 in
theorem scount_any {w : World} {q : Nat} {P : Option Addr} {x : Wk} (hb : Blk w q (x.cells P) 185) (hx : x.r < 1000000 ∧ x.h < 1000000 ∧ x.l < 1000000) (k : Int) (hk : k = 0 ∨ k = 1 ∨ k = 2) :
    Calls Try.prog 105 #[.pointer (some ⟨q, 2, none⟩), .int .i64 k] w (fun e w' => e = .returned (.tuple #[]) ∧ Blk w' q ((x.add k).cells P) 185 ∧ But (fun y => y = q) w w') := by
  obtain ⟨h1, h2, h3⟩ := hx
  have w1 : IntKind.i64.wrap ((x.r : Int) + 1) = ((x.r + 1 : Nat) : Int) := IntWalk.i64_in _ (by omega)
  have w2 : IntKind.i64.wrap ((x.h : Int) + 1) = ((x.h + 1 : Nat) : Int) := IntWalk.i64_in _ (by omega)
  have w3 : IntKind.i64.wrap ((x.l : Int) + 1) = ((x.l + 1 : Nat) : Int) := IntWalk.i64_in _ (by omega)
  go_enter Try.func105, Try.ntmps105
  go_upto_region 0 with fail
  refine wp_region_held_drew (S := fun _ => True) (by kernel_rfl) trivial (fun hh => ?_)
  have HH := Lib.hid hh
  clear hh
  refine wpAnyH_take (i := 0) (v := ?vA0) rfl (by kernel_rfl) (by kernel_rfl) (by kernel_rfl) (fun _ _ _ h => h) (Or.inl ⟨by rfl, fun w' _ => ?yA0⟩) HH.out ?_
  case yA0 => (go_simp; try with_reducible rfl)
  refine wpAnyH_take (i := 1) (v := ?vA1) rfl (by kernel_rfl) (by kernel_rfl) (by kernel_rfl) (fun _ _ _ h => h) (Or.inl ⟨by rfl, fun w' _ => ?yA1⟩) HH.out ?_
  case yA1 => (go_simp; try with_reducible rfl)
  try simp only [List.getElem_toArray, List.getElem_cons_succ, List.getElem_cons_zero, Act.put, List.setIfInBounds_toArray, List.set_cons_zero, List.set_cons_succ]
  refine wpAnyH_take (i := 2) (v := ?vA2) rfl (by kernel_rfl) (by kernel_rfl) (by kernel_rfl) (fun _ _ _ h => h) (Or.inl ⟨by rfl, fun w' _ => ?yA2⟩) HH.out ?_
  case yA2 => (go_simp; try with_reducible rfl)
  refine wpAnyH_take (i := 3) (v := ?vA3) rfl (by kernel_rfl) (by kernel_rfl) (by kernel_rfl) (fun _ _ _ h => h) (Or.inl ⟨by rfl, fun w' _ => ?yA3⟩) HH.out ?_
  case yA3 => (go_simp; try with_reducible rfl)
  refine wpAnyH_take (i := 4) (v := ?vA4) rfl (by kernel_rfl) (by kernel_rfl) (by kernel_rfl) (fun _ _ _ h => h) (Or.inl ⟨by rfl, fun w' _ => ?yA4⟩) HH.out ?_
  case yA4 => (go_simp; try with_reducible rfl)
  try simp only [List.getElem_toArray, List.getElem_cons_succ, List.getElem_cons_zero, Act.put, List.setIfInBounds_toArray, List.set_cons_zero, List.set_cons_succ]
  refine wpAnyH_take (i := 5) (v := ?vA5) rfl (by kernel_rfl) (by kernel_rfl) (by kernel_rfl) (fun _ _ _ h => h) (Or.inl ⟨by rfl, fun w' _ => ?yA5⟩) HH.out ?_
  case yA5 => (go_simp; try with_reducible rfl)
  refine wpAnyH_take (i := 6) (v := ?vA6) rfl (by kernel_rfl) (by kernel_rfl) (by kernel_rfl) (fun _ _ _ h => h) (Or.inl ⟨by rfl, fun w' _ => ?yA6⟩) HH.out ?_
  case yA6 => (go_simp; try with_reducible rfl)
  refine wpAnyH_take (i := 7) (v := ?vA7) rfl (by kernel_rfl) (by kernel_rfl) (by kernel_rfl) (fun _ _ _ h => h) (Or.inl ⟨by rfl, fun w' _ => ?yA7⟩) HH.out ?_
  case yA7 => (go_simp; try with_reducible rfl)
  try simp only [List.getElem_toArray, List.getElem_cons_succ, List.getElem_cons_zero, Act.put, List.setIfInBounds_toArray, List.set_cons_zero, List.set_cons_succ]
  refine wpAnyH_take (i := 8) (v := ?vA8) rfl (by kernel_rfl) (by kernel_rfl) (by kernel_rfl) (fun _ _ _ h => h) (Or.inl ⟨by rfl, fun w' _ => ?yA8⟩) HH.out ?_
  case yA8 => (go_simp; try with_reducible rfl)
  refine wpAnyH_take (i := 9) (v := .agg #[.pointer (some ⟨q, 2, none⟩), .pointer (some ⟨q, 3, none⟩), .pointer (some ⟨q, 4, none⟩)]) rfl (by kernel_rfl) (by kernel_rfl) (by kernel_rfl) (fun _ _ _ h => h) (Or.inl ⟨by rfl, fun w' hw' => ?yA9⟩) HH.out ?_
  case yA9 => (go_simp; try with_reducible rfl)
  try simp only [List.getElem_toArray, List.getElem_cons_succ, List.getElem_cons_zero, Act.put, List.setIfInBounds_toArray, List.set_cons_zero, List.set_cons_succ]
  refine wpAnyH_ready (rs := [10]) (by kernel_rfl) (by simp) (AllReadyH.cons rfl (fun K hK => ?_) AllReadyH.nil)
  go_simp
  refine hK.out _ _ trivial (fun hh => ?_)
  have HH' := Lib.hid hh
  clear hh hK K HH
  have HH := Lib.hid HH'.out
  clear HH'
  try simp only [List.getElem_toArray, List.getElem_cons_succ, List.getElem_cons_zero, Act.put, List.setIfInBounds_toArray, List.set_cons_zero, List.set_cons_succ]
  refine wpAnyH_ready (rs := [11]) (by kernel_rfl) (by simp) (AllReadyH.cons rfl (fun K hK => ?_) AllReadyH.nil)
  rw [if_pos (by rfl)]
  refine wp_store_row 209 (.tmp 4) (.tmp 14) rfl w.heap.size #[.pointer (some ⟨q, 2, none⟩), .pointer (some ⟨q, 3, none⟩), .pointer (some ⟨q, 4, none⟩)] rfl rfl 209 #[.pointer none, .pointer none, .pointer none] (heap_alloc_new _ _) pthree_info rfl (by simp [Value.oneCell']) ?_
  refine hK.out _ _ trivial (fun hh => ?_)
  have HH' := Lib.hid hh
  clear hh hK K HH
  have HH := Lib.hid HH'.out
  clear HH'
  refine wpAnyH_done (by kernel_rfl) ?_ _
  obtain ⟨wb, hwb⟩ : ∃ wb, wb = ((w.alloc (.cells #[.pointer none, .pointer none, .pointer none] 209)).drew).setRow w.heap.size #[.pointer (some ⟨q, 2, none⟩), .pointer (some ⟨q, 3, none⟩), .pointer (some ⟨q, 4, none⟩)] := ⟨_, rfl⟩
  have BB := Lib.hid (show Below w.heap.size w wb by rw [hwb]; exact below_setRow (((Below.refl _ w).alloc (Nat.le_refl _) _).drew) (Nat.le_refl _) _)
  have hbx : Blk wb w.heap.size #[.pointer (some ⟨q, 2, none⟩), .pointer (some ⟨q, 3, none⟩), .pointer (some ⟨q, 4, none⟩)] 209 := by rw [hwb]; exact setRow_heap _ _ _ _ _ _ (heap_alloc_new _ _)
  have hbw := hb.below BB.out
  have hq : w.heap.size ≠ q := by have := hb.lt; omega
  have d0 : wb.cell? ⟨w.heap.size, 0, none⟩ = some (.pointer (some ⟨q, 2, none⟩)) := hbx.cell 0
  have d1 : wb.cell? ⟨w.heap.size, 1, none⟩ = some (.pointer (some ⟨q, 3, none⟩)) := hbx.cell 1
  have d2 : wb.cell? ⟨w.heap.size, 2, none⟩ = some (.pointer (some ⟨q, 4, none⟩)) := hbx.cell 2
  have c2 : wb.cell? ⟨q, 2, none⟩ = some (.int .i64 x.r) := hbw.cell 2
  have c3 : wb.cell? ⟨q, 3, none⟩ = some (.int .i64 x.h) := hbw.cell 3
  have c4 : wb.cell? ⟨q, 4, none⟩ = some (.int .i64 x.l) := hbw.cell 4
  have f2 := hbw.free 2
  have f3 := hbw.free 3
  have f4 := hbw.free 4
  have HBW := Lib.hid hbw
  rw [← hwb]
  obtain ⟨bx, hbq⟩ : ∃ bx, bx = w.heap.size := ⟨_, rfl⟩
  try rw [← hbq] at d0 d1 d2 hbx hq
  rw [← hbq]
  clear hwb hbx hbw hb hbq
  rcases hk with rfl | rfl | rfl
  · go_wp2_with fail
    exact bodyPost_end (results_none Try.results105 _ _ _) rfl ⟨rfl, walk_set HBW.out 2 _ (by simp [Wk.cells, Wk.add]), (but_below BB.out).trans (but_one _)⟩
  · go_wp2_with fail
    exact bodyPost_end (results_none Try.results105 _ _ _) rfl ⟨rfl, walk_set HBW.out 3 _ (by simp [Wk.cells, Wk.add]), (but_below BB.out).trans (but_one _)⟩
  · go_wp2_with fail
    exact bodyPost_end (results_none Try.results105 _ _ _) rfl ⟨rfl, walk_set HBW.out 4 _ (by simp [Wk.cells, Wk.add]), (but_below BB.out).trans (but_one _)⟩
end Go.Proofs.Ythadomboiockhaa.Sc
/-
  The contracts of a walk's New, Report, Step.
-/
namespace Go.Proofs.Ythadomboiockhaa.Sc
open Go.RowKit Kd Mi
attribute [local go_sem ↓] Go.wp_at_zero Go.wp_at_succ
/-- A walk beside what it goes through. -/
def WL (L : Laid) (P : Option Addr) (q : Nat) : Laid where
  St := L.St × Wk
  At w s F := ∃ F1, L.At w s.1 F1 ∧ Blk w q (s.2.cells P) 185 ∧ ¬ F1 q ∧ (∀ y, F1 y → F y) ∧ F q ∧ ∀ y, F y → y < w.heap.size
  but := fun ⟨F1, h1, h2, h3, h4, h5, h6⟩ hb hd => ⟨F1, L.but h1 hb (fun y hy => hd y (h4 y hy)), h2.but hb (hd q h5), h3, h4, h5, fun y hy => Nat.lt_of_lt_of_le (h6 y hy) hb.size⟩
  lt := fun ⟨_, _, _, _, _, _, h6⟩ => h6
section
variable {L : Laid} {P : Option Addr} {q : Nat} {w w' : World} {s : L.St × Wk} {F : Nat → Prop}
theorem wl_in (h : (WL L P q).At w s F) : ∃ F1, L.At w s.1 F1 ∧ Blk w q (s.2.cells P) 185 ∧ ∀ {s2 : L.St} {w' F2}, Mv L w F1 w' s2 F2 → Mv (WL L P q) w F w' (s2, s.2) (fun y => F y ∨ F2 y) := by
  obtain ⟨F1, h1, h2, h3, h4, h5, h6⟩ := h
  refine ⟨F1, h1, h2, fun {s2 w' F2} hm => ⟨⟨F2, hm.at_, h2.but hm.but h3, fun hq => ?_, fun y hy => .inr hy, .inl h5, ?_⟩, ?_, hm.but.mono h4⟩⟩
  · rcases hm.new q hq with h7 | h7
    · exact h3 h7
    · have := h2.lt; omega
  · rintro y (hy | hy)
    · exact Nat.lt_of_lt_of_le (h6 y hy) hm.but.size
    · exact hm.lt y hy
  · rintro y (hy | hy)
    · exact .inl hy
    · exact (hm.new y hy).imp (h4 y) id
theorem wl_blk (h : (WL L P q).At w s F) : Blk w q (s.2.cells P) 185 := by obtain ⟨_, _, h2, _⟩ := h; exact h2
theorem wl_own (h : (WL L P q).At w s F) (hb : But (fun y => y = q) w w') {x : Wk} (hx : Blk w' q (x.cells P) 185) : Mv (WL L P q) w F w' (s.1, x) F := by
  obtain ⟨F1, h1, h2, h3, h4, h5, h6⟩ := h
  exact ⟨⟨F1, L.but h1 hb (fun y hy e => h3 (e ▸ hy)), hx, h3, h4, h5, fun y hy => Nat.lt_of_lt_of_le (h6 y hy) hb.size⟩, fun _ hy => .inl hy, hb.mono (fun y hy => hy ▸ h5)⟩
theorem wl_start (h : L.At w s.1 F) (hb : Below w.heap.size w w') (hx : Blk w' q (s.2.cells P) 185) (hq : w.heap.size ≤ q) : (WL L P q).At w' s (fun y => F y ∨ y = q) :=
  ⟨F, L.below h hb, hx, fun hf => (by have := L.lt h q hf; omega), fun y hy => .inl hy, .inr rfl, fun y hy => by
    rcases hy with hy | rfl
    · exact Nat.lt_of_lt_of_le (L.lt h y hy) hb.size
    · exact hx.lt⟩
end
/-! ### New -/
set_option maxRecDepth 100000 in
set_option maxHeartbeats 3200000 in
theorem snew_any (w : World) (P : Option Addr) : Calls Try.prog 69 #[.pointer P] w (fun e w' => ∃ q, e = .returned (.pointer (some ⟨q, 0, none⟩)) ∧ w.heap.size ≤ q ∧ Blk w' q (Wk.zero.cells P) 185 ∧ Below w.heap.size w w') := by
  go_enter Try.func69, Try.ntmps69
  go_wp2_with (first
    | (refine wpList_build rfl 185 #[(0, .tmp 3)] rfl (v := .agg (Wk.zero.cells P)) ?hbld ?_; case hbld => kernel_rfl))
  go_ret
  exact ⟨_, rfl, Nat.le_refl _, heap_alloc_new _ _, (Below.refl _ _).alloc (Nat.le_refl _) _⟩
/-! ### Report -/
set_option maxRecDepth 100000 in
set_option maxHeartbeats 3200000 in
theorem sreport_nil (w : World) : Calls Try.prog 72 #[.pointer none] w (RetB (.agg (Wk.zero.rep)) w) := by
  go_enter Try.func72, Try.ntmps72
  go_wp2_with (first
    | (refine wpList_build rfl 57 #[] rfl (v := .agg (Wk.zero.rep)) ?hbld ?_; case hbld => kernel_rfl)
    | (refine wpList_store_row rfl 57 (.tmp 2) (.tmp 5) rfl w.heap.size Wk.zero.rep rfl rfl 57 #[.int .i64 0, .int .i64 0, .int .i64 0] (heap_alloc_new _ _) wk_info rfl (by simp [Wk.rep, Value.oneCell']) ?_))
  exact bodyPost_ret (v := .agg Wk.zero.rep) (results_cell_row Try.results72 _ _ w.heap.size 57 Wk.zero.rep (0, 0) _ rfl (setRow_heap _ _ _ _ _ _ (heap_alloc_new _ _)) Try.underlying57 rfl wk_info) rfl ⟨rfl, below_setRow ((Below.refl _ _).alloc (Nat.le_refl _) _) (Nat.le_refl _) _⟩
set_option maxRecDepth 100000 in
set_option maxHeartbeats 3200000 in
theorem sreport_any {w : World} {q : Nat} {P : Option Addr} {x : Wk} (hb : Blk w q (x.cells P) 185) : Calls Try.prog 72 #[.pointer (some ⟨q, 0, none⟩)] w (RetB (.agg x.rep) w) := by
  obtain ⟨w1, hw1⟩ : ∃ w1, w1 = w.alloc (.cells #[.int .i64 0, .int .i64 0, .int .i64 0] 57) := ⟨_, rfl⟩
  have B1 := Lib.hid (show Below w.heap.size w w1 by rw [hw1]; exact (Below.refl _ _).alloc (Nat.le_refl _) _)
  have R1 := Lib.hid (show Blk w1 w.heap.size #[.int .i64 0, .int .i64 0, .int .i64 0] 57 by rw [hw1]; exact heap_alloc_new _ _)
  have X1 := Lib.hid (hb.below B1.out)
  have hld : ∀ j v, x.rep.toList[j]? = some v → w1.cell? ((⟨q, 2, none⟩ : Addr).add j) = some v := fun j v hv => by
    have h0 : w1.cell? ⟨q, 2 + j, none⟩ = (x.cells P)[2 + j]? := X1.out.cell (2 + j)
    rw [show ((⟨q, 2, none⟩ : Addr).add j) = ⟨q, 2 + j, none⟩ by unfold Addr.add; split <;> simp_all, h0]
    rcases j with _ | _ | _ | j
    · exact hv
    · exact hv
    · exact hv
    · simp [Wk.rep] at hv
  have HLD := Lib.hid hld
  clear hld hb
  go_enter Try.func72, Try.ntmps72
  go_upto_region 1 with fail
  rw [← hw1]
  clear hw1
  go_wp2_with (first
    | (refine wpList_load_at rfl 57 (.tmp 8) rfl ⟨q, 2, none⟩ (cs := x.rep.toList) rfl HLD.out Try.underlying57 rfl wk_info ?_)
    | (refine wpList_store_row rfl 57 (.tmp 2) (.tmp 9) rfl w.heap.size x.rep rfl rfl 57 #[.int .i64 0, .int .i64 0, .int .i64 0] R1.out wk_info rfl (by simp [Wk.rep, Value.oneCell']) ?_))
  exact bodyPost_ret (v := .agg x.rep) (results_cell_row Try.results72 _ _ w.heap.size 57 x.rep (0, 0) _ rfl (setRow_heap _ _ _ _ _ _ R1.out) Try.underlying57 rfl wk_info) rfl ⟨rfl, below_setRow B1.out (Nat.le_refl _) _⟩
/-! ### Step -/
set_option maxRecDepth 100000 in
set_option maxHeartbeats 3200000 in
theorem sstep_nil (w : World) : Calls Try.prog 71 #[.pointer none] w (RetB (.tuple #[.int .i64 0, .bool false]) w) := by
  go_enter Try.func71, Try.ntmps71
  go_upto_region 1 with fail
  refine wp_region_held_drew (S := fun _ => True) (by kernel_rfl) trivial (fun hh => ?_)
  have HH := Lib.hid hh
  clear hh
  refine wpAnyH_take (i := 0) (v := ?vN0) rfl (by kernel_rfl) (by kernel_rfl) (by kernel_rfl) (fun _ _ _ h => h) (Or.inl ⟨by rfl, fun w' _ => ?yN0⟩) HH.out ?_
  case yN0 => (go_simp; try with_reducible rfl)
  refine wpAnyH_take (i := 1) (v := ?vN1) rfl (by kernel_rfl) (by kernel_rfl) (by kernel_rfl) (fun _ _ _ h => h) (Or.inl ⟨by rfl, fun w' _ => ?yN1⟩) HH.out ?_
  case yN1 => (go_simp; try with_reducible rfl)
  try simp only [List.getElem_toArray, List.getElem_cons_succ, List.getElem_cons_zero, Act.put, List.setIfInBounds_toArray, List.set_cons_zero, List.set_cons_succ]
  refine wpAnyH_take (i := 2) (v := ?vN2) rfl (by kernel_rfl) (by kernel_rfl) (by kernel_rfl) (fun _ _ _ h => h) (Or.inl ⟨by rfl, fun w' _ => ?yN2⟩) HH.out ?_
  case yN2 => (go_simp; try with_reducible rfl)
  refine wpAnyH_take (i := 3) (v := undef) rfl (by kernel_rfl) (by kernel_rfl) (by kernel_rfl) (fun _ _ _ h => h) (Or.inr ⟨by rfl, rfl⟩) HH.out ?_
  refine wpAnyH_take (i := 4) (v := undef) rfl (by kernel_rfl) (by kernel_rfl) (by kernel_rfl) (fun _ _ _ h => h) (Or.inr ⟨by rfl, rfl⟩) HH.out ?_
  try simp only [List.getElem_toArray, List.getElem_cons_succ, List.getElem_cons_zero, Act.put, List.setIfInBounds_toArray, List.set_cons_zero, List.set_cons_succ]
  refine wpAnyH_take (i := 5) (v := undef) rfl (by kernel_rfl) (by kernel_rfl) (by kernel_rfl) (fun _ _ _ h => h) (Or.inr ⟨by rfl, rfl⟩) HH.out ?_
  refine wpAnyH_take (i := 6) (v := undef) rfl (by kernel_rfl) (by kernel_rfl) (by kernel_rfl) (fun _ _ _ h => h) (Or.inr ⟨by rfl, rfl⟩) HH.out ?_
  refine wpAnyH_take (i := 7) (v := undef) rfl (by kernel_rfl) (by kernel_rfl) (by kernel_rfl) (fun _ _ _ h => h) (Or.inr ⟨by rfl, rfl⟩) HH.out ?_
  try simp only [List.getElem_toArray, List.getElem_cons_succ, List.getElem_cons_zero, Act.put, List.setIfInBounds_toArray, List.set_cons_zero, List.set_cons_succ]
  refine wpAnyH_take (i := 8) (v := undef) rfl (by kernel_rfl) (by kernel_rfl) (by kernel_rfl) (fun _ _ _ h => h) (Or.inr ⟨by rfl, rfl⟩) HH.out ?_
  refine wpAnyH_take (i := 9) (v := undef) rfl (by kernel_rfl) (by kernel_rfl) (by kernel_rfl) (fun _ _ _ h => h) (Or.inr ⟨by rfl, rfl⟩) HH.out ?_
  refine wpAnyH_take (i := 10) (v := undef) rfl (by kernel_rfl) (by kernel_rfl) (by kernel_rfl) (fun _ _ _ h => h) (Or.inr ⟨by rfl, rfl⟩) HH.out ?_
  try simp only [List.getElem_toArray, List.getElem_cons_succ, List.getElem_cons_zero, Act.put, List.setIfInBounds_toArray, List.set_cons_zero, List.set_cons_succ]
  refine wpAnyH_take (i := 11) (v := undef) rfl (by kernel_rfl) (by kernel_rfl) (by kernel_rfl) (fun _ _ _ h => h) (Or.inr ⟨by rfl, rfl⟩) HH.out ?_
  refine wpAnyH_take (i := 12) (v := undef) rfl (by kernel_rfl) (by kernel_rfl) (by kernel_rfl) (fun _ _ _ h => h) (Or.inr ⟨by rfl, rfl⟩) HH.out ?_
  refine wpAnyH_take (i := 13) (v := ?vN13) rfl (by kernel_rfl) (by kernel_rfl) (by kernel_rfl) (fun _ _ _ h => h) (Or.inl ⟨by rfl, fun w' _ => ?yN13⟩) HH.out ?_
  case yN13 => (go_simp; try with_reducible rfl)
  try simp only [List.getElem_toArray, List.getElem_cons_succ, List.getElem_cons_zero, Act.put, List.setIfInBounds_toArray, List.set_cons_zero, List.set_cons_succ]
  refine wpAnyH_done (by kernel_rfl) ?_ _
  go_wp2_with fail
  exact bodyPost_ret (results_tmp2 Try.results71 _ _ _) rfl ⟨rfl, (Below.refl _ _).drew⟩
/-- All places were scrubbed. -/
theorem wk_cell0 {w : World} {q : Nat} {P : Option Addr} {x : Wk} (h : Blk w q (x.cells P) 185) : w.cell? ⟨q, 0, none⟩ = some (.pointer P) := h.cell 0
theorem wk_cell1 {w : World} {q : Nat} {P : Option Addr} {x : Wk} (h : Blk w q (x.cells P) 185) : w.cell? ⟨q, 1, none⟩ = some (.int .i64 x.n) := h.cell 1
set_option maxRecDepth 100000 in
set_option maxHeartbeats 3200000 in
theorem sstep_end {w : World} {q n : Nat} {P : Option Addr} {x : Wk} (hb : Blk w q (x.cells P) 185) (hl : ∀ w', Below w.heap.size w w' → Calls Try.prog 70 #[.pointer P] w' (RetB (.int .i64 n) w')) (hn : n ≤ x.n) : Calls Try.prog 71 #[.pointer (some ⟨q, 0, none⟩)] w (RetB (.tuple #[.int .i64 0, .bool false]) w) := by
  have HL := Lib.hid hl
  have n1 : ((x.n : Int) ≥ (n : Int)) := by omega
  have HB := Lib.hid hb
  clear hl hn hb
  go_enter Try.func71, Try.ntmps71
  go_upto_region 1 with fail
  refine wp_region_held_drew (S := fun w' => Blk w' q (x.cells P) 185) (by kernel_rfl) (HB.out.drewN 1) (fun hh => ?_)
  have HH := Lib.hid hh
  clear hh
  refine wpAnyH_take (i := 0) (v := ?vE0) rfl (by kernel_rfl) (by kernel_rfl) (by kernel_rfl) (fun _ _ _ h => h) (Or.inl ⟨by rfl, fun w' _ => ?yE0⟩) HH.out ?_
  case yE0 => (go_simp; try with_reducible rfl)
  refine wpAnyH_take (i := 1) (v := ?vE1) rfl (by kernel_rfl) (by kernel_rfl) (by kernel_rfl) (fun _ _ _ h => h) (Or.inl ⟨by rfl, fun w' _ => ?yE1⟩) HH.out ?_
  case yE1 => (go_simp; try with_reducible rfl)
  try simp only [List.getElem_toArray, List.getElem_cons_succ, List.getElem_cons_zero, Act.put, List.setIfInBounds_toArray, List.set_cons_zero, List.set_cons_succ]
  refine wpAnyH_take (i := 2) (v := ?vE2) rfl (by kernel_rfl) (by kernel_rfl) (by kernel_rfl) (fun _ _ _ h => h) (Or.inl ⟨by rfl, fun w' _ => ?yE2⟩) HH.out ?_
  case yE2 => (go_simp; try with_reducible rfl)
  try simp only [List.getElem_toArray, List.getElem_cons_succ, List.getElem_cons_zero, Act.put, List.setIfInBounds_toArray, List.set_cons_zero, List.set_cons_succ]
  refine wpAnyH_take (i := 3) (v := ?vE3) rfl (by kernel_rfl) (by kernel_rfl) (by kernel_rfl) (fun _ _ _ h => h) (Or.inl ⟨by rfl, fun w' _ => ?yE3⟩) HH.out ?_
  case yE3 => (go_simp; try with_reducible rfl)
  try simp only [List.getElem_toArray, List.getElem_cons_succ, List.getElem_cons_zero, Act.put, List.setIfInBounds_toArray, List.set_cons_zero, List.set_cons_succ]
  refine wpAnyH_take (i := 4) (v := ?vE4) rfl (by kernel_rfl) (by kernel_rfl) (by kernel_rfl) (fun _ _ _ h => h) (Or.inl ⟨by rfl, fun w' _ => ?yE4⟩) HH.out ?_
  case yE4 => (go_simp; try with_reducible rfl)
  try simp only [List.getElem_toArray, List.getElem_cons_succ, List.getElem_cons_zero, Act.put, List.setIfInBounds_toArray, List.set_cons_zero, List.set_cons_succ]
  refine wpAnyH_take (i := 5) (v := ?vE5) rfl (by kernel_rfl) (by kernel_rfl) (by kernel_rfl) (fun _ _ _ h => h) (Or.inl ⟨by rfl, fun w' _ => ?yE5⟩) HH.out ?_
  case yE5 => (go_simp; try with_reducible rfl)
  refine wpAnyH_take (i := 6) (v := .int .i64 x.n) rfl (by kernel_rfl) (by kernel_rfl) (by kernel_rfl) (fun _ _ _ h => h) (Or.inl ⟨by rfl, fun w' hw' => ?yE6⟩) HH.out ?_
  case yE6 => (have hc := wk_cell1 hw'; go_simp; try with_reducible rfl)
  try simp only [List.getElem_toArray, List.getElem_cons_succ, List.getElem_cons_zero, Act.put, List.setIfInBounds_toArray, List.set_cons_zero, List.set_cons_succ]
  refine wpAnyH_take (i := 7) (v := ?vE7) rfl (by kernel_rfl) (by kernel_rfl) (by kernel_rfl) (fun _ _ _ h => h) (Or.inl ⟨by rfl, fun w' _ => ?yE7⟩) HH.out ?_
  case yE7 => (go_simp; try with_reducible rfl)
  try simp only [List.getElem_toArray, List.getElem_cons_succ, List.getElem_cons_zero, Act.put, List.setIfInBounds_toArray, List.set_cons_zero, List.set_cons_succ]
  refine wpAnyH_take (i := 8) (v := ?vE8) rfl (by kernel_rfl) (by kernel_rfl) (by kernel_rfl) (fun _ _ _ h => h) (Or.inl ⟨by rfl, fun w' _ => ?yE8⟩) HH.out ?_
  case yE8 => (go_simp; try with_reducible rfl)
  try simp only [List.getElem_toArray, List.getElem_cons_succ, List.getElem_cons_zero, Act.put, List.setIfInBounds_toArray, List.set_cons_zero, List.set_cons_succ]
  refine wpAnyH_take (i := 9) (v := ?vE9) rfl (by kernel_rfl) (by kernel_rfl) (by kernel_rfl) (fun _ _ _ h => h) (Or.inl ⟨by rfl, fun w' _ => ?yE9⟩) HH.out ?_
  case yE9 => (go_simp; try with_reducible rfl)
  refine wpAnyH_take (i := 10) (v := .pointer P) rfl (by kernel_rfl) (by kernel_rfl) (by kernel_rfl) (fun _ _ _ h => h) (Or.inl ⟨by rfl, fun w' hw' => ?yE10⟩) HH.out ?_
  case yE10 => (have hc := wk_cell0 hw'; go_simp; try with_reducible rfl)
  try simp only [List.getElem_toArray, List.getElem_cons_succ, List.getElem_cons_zero, Act.put, List.setIfInBounds_toArray, List.set_cons_zero, List.set_cons_succ]
  refine wpAnyH_ready (rs := [11]) (by kernel_rfl) (by simp) (AllReadyH.cons rfl (fun K hK => ?_) AllReadyH.nil)
  go_simp
  refine (HL.out _ (Below.refl _ _).drew).mono ?_
  rintro e w2 ⟨rfl, bw⟩
  have B2 := Lib.hid (show Below w.heap.size w w2 from (Below.refl w.heap.size w).drew.trans bw)
  go_simp
  refine hK.out _ _ (HB.out.below B2.out) (fun hh => ?_)
  have HH' := Lib.hid hh
  clear hh hK K HH bw
  have HH := Lib.hid HH'.out
  clear HH'
  refine wpAnyH_take (i := 12) (v := .bool true) rfl (by kernel_rfl) (by kernel_rfl) (by kernel_rfl) (fun _ _ _ h => h) (Or.inl ⟨by rfl, fun w' hw' => ?yE12⟩) HH.out ?_
  case yE12 => (go_simp; try rfl)
  refine wpAnyH_take (i := 13) (v := ?vE13) rfl (by kernel_rfl) (by kernel_rfl) (by kernel_rfl) (fun _ _ _ h => h) (Or.inl ⟨by rfl, fun w' _ => ?yE13⟩) HH.out ?_
  case yE13 => (go_simp; try with_reducible rfl)
  try simp only [List.getElem_toArray, List.getElem_cons_succ, List.getElem_cons_zero, Act.put, List.setIfInBounds_toArray, List.set_cons_zero, List.set_cons_succ]
  refine wpAnyH_done (by kernel_rfl) ?_ _
  go_wp2_with fail
  exact bodyPost_ret (results_tmp2 Try.results71 _ _ _) rfl ⟨rfl, B2.out⟩
section
variable {C : Duo} {G : Gd} {g q : Nat} {w : World} {F : Nat → Prop}
theorem heal_kind (s : Mr C) (n : Int) : (s.heal G n).1.2 = 0 → (s.heal G n).1.1 = 0 ∨ (s.heal G n).1.1 = 1 ∨ (s.heal G n).1.1 = 2 := by
  have ht : ∀ i k x, (s.healTo i k x).1.2 = 0 → (s.healTo i k x).1.1 = 0 ∨ (s.healTo i k x).1.1 = 1 ∨ (s.healTo i k x).1.1 = 2 := fun i k x => by
    unfold Mr.healTo; dsimp only; split
    · exact fun _ => .inr (.inl rfl)
    · exact fun _ => .inl rfl
  unfold Mr.heal
  split
  · split
    · split
      · split
        · split
          · exact fun _ => .inl rfl
          · exact ht _ _ _
        · exact ht _ _ _
      · split
        · exact ht _ _ _
        · exact fun _ => .inr (.inr rfl)
    · exact fun h => by cases h
  · exact fun h => by cases h
theorem heal_okk {s : Mr C} {k : Nat} (h : s.ok k) (n : Int) : (s.heal G n).2.ok k := by
  unfold Mr.heal
  (repeat' split) <;> first | exact h | exact mend_ok h
theorem heal_most (s : Mr C) (n : Int) : C.most (s.heal G n).2.d ≤ C.most s.d + 1 := by
  unfold Mr.heal
  (repeat' split) <;> first | exact Nat.le_succ _ | exact mend_most (by omega)
/-- A step of a walk: what it counts. -/
def Wk.step (x : Wk) (r : Int × Int) : Wk := if r.2 = 0 then ({ x with n := x.n + 1 } : Wk).add r.1 else { x with n := x.n + 1 }
/-- What Step tells, and makes of both. -/
def stepN (G : Gd) (s : Mr C × Wk) : (Int × Bool) × (Mr C × Wk) :=
  if s.1.a.length ≤ s.2.n then ((0, false), s) else ((s.2.n, true), ((s.1.heal G s.2.n).2, s.2.step (s.1.heal G s.2.n).1))
def Wk.small (x : Wk) : Prop := x.n < 100000 ∧ x.r < 100000 ∧ x.h < 100000 ∧ x.l < 100000
def tupS (x : Int × Bool) : Value := .tuple #[.int .i64 x.1, .bool x.2]
set_option maxRecDepth 100000 in
set_option maxHeartbeats 6400000 in
theorem sstep_any {s : Mr C × Wk} (h : (WL (ML C G g) (some ⟨g, 0, none⟩) q).At w s F) {k : Nat} (hk : s.1.ok k) (hm : C.most s.1.d < 900000) (hx : s.2.small) :
    Calls Try.prog 71 #[.pointer (some ⟨q, 0, none⟩)] w (RetA (WL (ML C G g) (some ⟨g, 0, none⟩) q) (tupS (stepN G s).1) (stepN G s).2 F w) := by
  by_cases hn : s.1.a.length ≤ s.2.n
  · rw [stepN, if_pos hn]
    obtain ⟨F1, h1, h2, _⟩ := wl_in h
    exact (sstep_end h2 (fun w' hb => mlen_any ((ML C G g).below h1 hb)) hn).mono fun _ _ hr => RetB.reta h hr
  · obtain ⟨s, x⟩ := s
    obtain ⟨n, hnn⟩ : ∃ n, n = s.a.length := ⟨_, rfl⟩
    have n1 : ¬ ((x.n : Int) ≥ (n : Int)) := by have : ¬ s.a.length ≤ x.n := hn; omega
    have HL := Lib.hid (show ∀ w F, (WL (ML C G g) (some ⟨g, 0, none⟩) q).At w (s, x) F → Calls Try.prog 70 #[.pointer (some ⟨g, 0, none⟩)] w (RetB (.int .i64 n) w) from fun w F h => by
      obtain ⟨F1, h1, _⟩ := wl_in h
      rw [hnn]; exact mlen_any h1)
    obtain ⟨r, hr⟩ : ∃ r, r = (s.heal G x.n).1 := ⟨_, rfl⟩
    obtain ⟨s2, hs2⟩ : ∃ s2, s2 = (s.heal G x.n).2 := ⟨_, rfl⟩
    have HHE := Lib.hid (show ∀ w F y, (WL (ML C G g) (some ⟨g, 0, none⟩) q).At w (s, y) F → Calls Try.prog 104 #[.pointer (some ⟨g, 0, none⟩), .int .i64 x.n] w (RetA (WL (ML C G g) (some ⟨g, 0, none⟩) q) (tup2 r) (s2, y) F w) from fun w F y h => by
      obtain ⟨F1, h1, _, hl⟩ := wl_in h
      rw [hr, hs2]
      refine (heal_any h1 hk (x.n : Int) (Nat.lt_trans hm (by omega))).mono ?_
      rintro e w' ⟨rfl, F2, h3⟩
      exact ⟨rfl, _, hl h3⟩)
    have HK := Lib.hid (show r.2 = 0 → r.1 = 0 ∨ r.1 = 1 ∨ r.1 = 2 by rw [hr]; exact heal_kind s x.n)
    have HV := Lib.hid (show stepN G (s, x) = (((x.n : Int), true), (s2, x.step r)) by rw [stepN, if_neg hn, hr, hs2])
    rw [HV.out]
    suffices key : ∀ sv : (WL (ML C G g) (some ⟨g, 0, none⟩) q).St, sv = (s2, x.step r) → Calls Try.prog 71 #[.pointer (some ⟨q, 0, none⟩)] w (RetA (WL (ML C G g) (some ⟨g, 0, none⟩) q) (tupS ((x.n : Int), true)) sv F w) from key _ rfl
    intro sv hsv
    have HSV := Lib.hid hsv
    clear hsv
    have HX := Lib.hid hx
    have M0 := Lib.hid (Mv.start h)
    have w1 : IntKind.i64.wrap ((x.n : Int) + 1) = (x.n : Int) + 1 := IntWalk.i64_in _ (by have : x.n < 100000 := hx.1; omega)
    obtain ⟨ra, re⟩ := r
    have HHE := Lib.hid (show ∀ w F y, (WL (ML C G g) (some ⟨g, 0, none⟩) q).At w (s, y) F → Calls Try.prog 104 #[.pointer (some ⟨g, 0, none⟩), .int .i64 x.n] w (RetA (WL (ML C G g) (some ⟨g, 0, none⟩) q) (.tuple #[.int .i64 ra, .int .i64 re]) (s2, y) F w) from HHE.out)
    clear hr hs2 hnn hn h hx hk hm HV
    go_enter Try.func71, Try.ntmps71
    go_upto_region 1 with fail
    refine wp_region_held_drew (S := fun w' => Blk w' q (x.cells (some ⟨g, 0, none⟩)) 185) (by kernel_rfl) ((wl_blk M0.out.at_).drewN 1) (fun hh => ?_)
    have HH := Lib.hid hh
    clear hh
    refine wpAnyH_take (i := 0) (v := ?vF0) rfl (by kernel_rfl) (by kernel_rfl) (by kernel_rfl) (fun _ _ _ h => h) (Or.inl ⟨by rfl, fun w' _ => ?yF0⟩) HH.out ?_
    case yF0 => (go_simp; try with_reducible rfl)
    refine wpAnyH_take (i := 1) (v := ?vF1) rfl (by kernel_rfl) (by kernel_rfl) (by kernel_rfl) (fun _ _ _ h => h) (Or.inl ⟨by rfl, fun w' _ => ?yF1⟩) HH.out ?_
    case yF1 => (go_simp; try with_reducible rfl)
    try simp only [List.getElem_toArray, List.getElem_cons_succ, List.getElem_cons_zero, Act.put, List.setIfInBounds_toArray, List.set_cons_zero, List.set_cons_succ]
    refine wpAnyH_take (i := 2) (v := ?vF2) rfl (by kernel_rfl) (by kernel_rfl) (by kernel_rfl) (fun _ _ _ h => h) (Or.inl ⟨by rfl, fun w' _ => ?yF2⟩) HH.out ?_
    case yF2 => (go_simp; try with_reducible rfl)
    try simp only [List.getElem_toArray, List.getElem_cons_succ, List.getElem_cons_zero, Act.put, List.setIfInBounds_toArray, List.set_cons_zero, List.set_cons_succ]
    refine wpAnyH_take (i := 3) (v := ?vF3) rfl (by kernel_rfl) (by kernel_rfl) (by kernel_rfl) (fun _ _ _ h => h) (Or.inl ⟨by rfl, fun w' _ => ?yF3⟩) HH.out ?_
    case yF3 => (go_simp; try with_reducible rfl)
    try simp only [List.getElem_toArray, List.getElem_cons_succ, List.getElem_cons_zero, Act.put, List.setIfInBounds_toArray, List.set_cons_zero, List.set_cons_succ]
    refine wpAnyH_take (i := 4) (v := ?vF4) rfl (by kernel_rfl) (by kernel_rfl) (by kernel_rfl) (fun _ _ _ h => h) (Or.inl ⟨by rfl, fun w' _ => ?yF4⟩) HH.out ?_
    case yF4 => (go_simp; try with_reducible rfl)
    try simp only [List.getElem_toArray, List.getElem_cons_succ, List.getElem_cons_zero, Act.put, List.setIfInBounds_toArray, List.set_cons_zero, List.set_cons_succ]
    refine wpAnyH_take (i := 5) (v := ?vF5) rfl (by kernel_rfl) (by kernel_rfl) (by kernel_rfl) (fun _ _ _ h => h) (Or.inl ⟨by rfl, fun w' _ => ?yF5⟩) HH.out ?_
    case yF5 => (go_simp; try with_reducible rfl)
    refine wpAnyH_take (i := 6) (v := .int .i64 x.n) rfl (by kernel_rfl) (by kernel_rfl) (by kernel_rfl) (fun _ _ _ h => h) (Or.inl ⟨by rfl, fun w' hw' => ?yF6⟩) HH.out ?_
    case yF6 => (have hc := wk_cell1 hw'; go_simp; try with_reducible rfl)
    try simp only [List.getElem_toArray, List.getElem_cons_succ, List.getElem_cons_zero, Act.put, List.setIfInBounds_toArray, List.set_cons_zero, List.set_cons_succ]
    refine wpAnyH_take (i := 7) (v := ?vF7) rfl (by kernel_rfl) (by kernel_rfl) (by kernel_rfl) (fun _ _ _ h => h) (Or.inl ⟨by rfl, fun w' _ => ?yF7⟩) HH.out ?_
    case yF7 => (go_simp; try with_reducible rfl)
    try simp only [List.getElem_toArray, List.getElem_cons_succ, List.getElem_cons_zero, Act.put, List.setIfInBounds_toArray, List.set_cons_zero, List.set_cons_succ]
    refine wpAnyH_take (i := 8) (v := ?vF8) rfl (by kernel_rfl) (by kernel_rfl) (by kernel_rfl) (fun _ _ _ h => h) (Or.inl ⟨by rfl, fun w' _ => ?yF8⟩) HH.out ?_
    case yF8 => (go_simp; try with_reducible rfl)
    try simp only [List.getElem_toArray, List.getElem_cons_succ, List.getElem_cons_zero, Act.put, List.setIfInBounds_toArray, List.set_cons_zero, List.set_cons_succ]
    refine wpAnyH_take (i := 9) (v := ?vF9) rfl (by kernel_rfl) (by kernel_rfl) (by kernel_rfl) (fun _ _ _ h => h) (Or.inl ⟨by rfl, fun w' _ => ?yF9⟩) HH.out ?_
    case yF9 => (go_simp; try with_reducible rfl)
    refine wpAnyH_take (i := 10) (v := .pointer (some ⟨g, 0, none⟩)) rfl (by kernel_rfl) (by kernel_rfl) (by kernel_rfl) (fun _ _ _ h => h) (Or.inl ⟨by rfl, fun w' hw' => ?yF10⟩) HH.out ?_
    case yF10 => (have hc := wk_cell0 hw'; go_simp; try with_reducible rfl)
    try simp only [List.getElem_toArray, List.getElem_cons_succ, List.getElem_cons_zero, Act.put, List.setIfInBounds_toArray, List.set_cons_zero, List.set_cons_succ]
    refine wpAnyH_ready (rs := [11]) (by kernel_rfl) (by simp) (AllReadyH.cons rfl (fun K hK => ?_) AllReadyH.nil)
    go_simp
    refine (HL.out _ _ (M0.out.below (Below.refl _ _).drew).at_).mono ?_
    rintro e w2 ⟨rfl, bw⟩
    have M2 := Lib.hid ((M0.out.below (Below.refl w.heap.size w).drew).below bw)
    go_simp
    refine hK.out _ _ (wl_blk M2.out.at_) (fun hh => ?_)
    have HH' := Lib.hid hh
    clear hh hK K HH bw M0
    have HH := Lib.hid HH'.out
    clear HH'
    refine wpAnyH_take (i := 12) (v := .bool false) rfl (by kernel_rfl) (by kernel_rfl) (by kernel_rfl) (fun _ _ _ h => h) (Or.inl ⟨by rfl, fun w' hw' => ?yF12⟩) HH.out ?_
    case yF12 => (go_simp; try rfl)
    refine wpAnyH_take (i := 13) (v := ?vF13) rfl (by kernel_rfl) (by kernel_rfl) (by kernel_rfl) (fun _ _ _ h => h) (Or.inl ⟨by rfl, fun w' _ => ?yF13⟩) HH.out ?_
    case yF13 => (go_simp; try with_reducible rfl)
    try simp only [List.getElem_toArray, List.getElem_cons_succ, List.getElem_cons_zero, Act.put, List.setIfInBounds_toArray, List.set_cons_zero, List.set_cons_succ]
    refine wpAnyH_done (by kernel_rfl) ?_ _
    have hc0 := wk_cell0 (wl_blk M2.out.at_)
    have hc1 := wk_cell1 (wl_blk M2.out.at_)
    have hf1 := (wl_blk M2.out.at_).free 1
    go_upto_region 5 with fail
    obtain ⟨wn, hwn⟩ : ∃ wn, wn = w2.setCell ⟨q, 1, none⟩ (.int .i64 ((x.n : Int) + 1)) := ⟨_, rfl⟩
    have hbn : Blk wn q (({ x with n := x.n + 1 } : Wk).cells (some ⟨g, 0, none⟩)) 185 := by rw [hwn]; exact walk_set (wl_blk M2.out.at_) 1 _ (by simp [Wk.cells])
    have M3 := Lib.hid (M2.out.trans (wl_own M2.out.at_ (by rw [hwn]; exact but_one _) hbn))
    rw [← hwn]
    have hc0 := wk_cell0 hbn
    clear hwn hbn hc1 hf1 M2
    go_wp2_with fail
    refine (HHE.out _ _ _ M3.out.at_).mono ?_
    rintro e w5 ⟨rfl, F5, h5⟩
    have M5 := Lib.hid (M3.out.trans h5)
    clear h5 M3 hc0
    by_cases hre : re = 0
    · subst hre
      have HKK := HK.out rfl
      have HS := Lib.hid (show x.step (ra, 0) = ({ x with n := x.n + 1 } : Wk).add ra by rw [Wk.step, if_pos rfl])
      go_wp2_with fail
      refine (scount_any (wl_blk M5.out.at_) ⟨by have : x.r < 100000 := HX.out.2.1; show x.r < 1000000; omega, by have : x.h < 100000 := HX.out.2.2.1; show x.h < 1000000; omega, by have : x.l < 100000 := HX.out.2.2.2; show x.l < 1000000; omega⟩ ra HKK).mono ?_
      rintro e w6 ⟨rfl, hb6, ht6⟩
      have M6 := Lib.hid (M5.out.trans (wl_own M5.out.at_ ht6 hb6))
      clear hb6 ht6 M5
      go_wp2_with fail
      exact bodyPost_ret (results_tmp2 Try.results71 _ _ _) rfl ⟨rfl, _, by rw [HSV.out, HS.out]; exact M6.out⟩
    · have HS := Lib.hid (show x.step (ra, re) = ({ x with n := x.n + 1 } : Wk) by rw [Wk.step, if_neg hre])
      go_wp2_with fail
      exact bodyPost_ret (results_tmp2 Try.results71 _ _ _) rfl ⟨rfl, _, by rw [HSV.out, HS.out]; exact M5.out⟩
end
end Go.Proofs.Ythadomboiockhaa.Sc
/-
  The contract of All.
-/
namespace Go.Proofs.Ythadomboiockhaa.Sc
open Go.RowKit Kd Mi
attribute [local go_sem ↓] Go.wp_at_zero Go.wp_at_succ
section
variable {C : Duo} {G : Gd} {g q : Nat} {w : World} {F : Nat → Prop}
/-- k steps. -/
def runN (G : Gd) (s : Mr C × Wk) : Nat → Mr C × Wk
  | 0 => s
  | k + 1 => (stepN G (runN G s k)).2
theorem step_okk {s : Mr C × Wk} {n : Nat} (h : s.1.ok n) : (stepN G s).2.1.ok n := by
  unfold stepN; split
  · exact h
  · exact heal_okk h _
theorem run_okk {s : Mr C × Wk} {n : Nat} (h : s.1.ok n) : ∀ k, (runN G s k).1.ok n
  | 0 => h
  | k + 1 => step_okk (run_okk h k)
theorem step_most (s : Mr C × Wk) : C.most (stepN G s).2.1.d ≤ C.most s.1.d + 1 := by
  unfold stepN; split
  · exact Nat.le_succ _
  · exact heal_most _ _
theorem run_most (s : Mr C × Wk) : ∀ k, C.most (runN G s k).1.d ≤ C.most s.1.d + k
  | 0 => Nat.le_refl _
  | k + 1 => by have h1 := run_most s k; have h2 := step_most (G := G) (runN G s k); show C.most (stepN G (runN G s k)).2.1.d ≤ _; omega
theorem add_few (x : Wk) (r : Int) {k : Nat} (h : x.n ≤ k + 1 ∧ x.r ≤ k ∧ x.h ≤ k ∧ x.l ≤ k) : (x.add r).n ≤ k + 1 ∧ (x.add r).r ≤ k + 1 ∧ (x.add r).h ≤ k + 1 ∧ (x.add r).l ≤ k + 1 := by
  unfold Wk.add; split
  · exact ⟨h.1, by show x.r + 1 ≤ _; omega, by show x.h ≤ _; omega, by show x.l ≤ _; omega⟩
  · split
    · exact ⟨h.1, by show x.r ≤ _; omega, by show x.h + 1 ≤ _; omega, by show x.l ≤ _; omega⟩
    · exact ⟨h.1, by show x.r ≤ _; omega, by show x.h ≤ _; omega, by show x.l + 1 ≤ _; omega⟩
theorem step_few (s : Mr C × Wk) {k : Nat} (h : s.2.n ≤ k ∧ s.2.r ≤ k ∧ s.2.h ≤ k ∧ s.2.l ≤ k) : (stepN G s).2.2.n ≤ k + 1 ∧ (stepN G s).2.2.r ≤ k + 1 ∧ (stepN G s).2.2.h ≤ k + 1 ∧ (stepN G s).2.2.l ≤ k + 1 := by
  unfold stepN; split
  · exact ⟨by show s.2.n ≤ _; omega, by show s.2.r ≤ _; omega, by show s.2.h ≤ _; omega, by show s.2.l ≤ _; omega⟩
  · show (s.2.step _).n ≤ _ ∧ (s.2.step _).r ≤ _ ∧ (s.2.step _).h ≤ _ ∧ (s.2.step _).l ≤ _
    unfold Wk.step; split
    · exact add_few _ _ ⟨by show s.2.n + 1 ≤ _; omega, h.2⟩
    · exact ⟨by show s.2.n + 1 ≤ _; omega, by show s.2.r ≤ _; omega, by show s.2.h ≤ _; omega, by show s.2.l ≤ _; omega⟩
theorem run_few (s : Mr C) : ∀ k, (runN G (s, Wk.zero) k).2.n ≤ k ∧ (runN G (s, Wk.zero) k).2.r ≤ k ∧ (runN G (s, Wk.zero) k).2.h ≤ k ∧ (runN G (s, Wk.zero) k).2.l ≤ k
  | 0 => ⟨Nat.le_refl _, Nat.le_refl _, Nat.le_refl _, Nat.le_refl _⟩
  | k + 1 => step_few _ (run_few s k)
/-- What All makes of a mirror, and tells. -/
def allN (G : Gd) (s : Mr C) (n : Nat) : Mr C × Wk := runN G (s, Wk.zero) n
set_option maxRecDepth 100000 in
set_option maxHeartbeats 6400000 in
theorem sall_nil (w : World) : Calls Try.prog 24 #[.pointer none] w (RetB (.agg Wk.zero.rep) w) := by
  obtain ⟨w1, hw1⟩ : ∃ w1, w1 = w.alloc (.cells #[.int .i64 0, .int .i64 0, .int .i64 0] 57) := ⟨_, rfl⟩
  have B1 := Lib.hid (show Below w.heap.size w w1 by rw [hw1]; exact (Below.refl _ _).alloc (Nat.le_refl _) _)
  have R1 := Lib.hid (show Blk w1 w.heap.size #[.int .i64 0, .int .i64 0, .int .i64 0] 57 by rw [hw1]; exact heap_alloc_new _ _)
  go_enter Try.func24, Try.ntmps24
  go_upto_region 1 with fail
  rw [← hw1]
  clear hw1
  go_wp2_with fail
  refine (snew_any w1 none).mono ?_
  rintro e w2 ⟨q, rfl, hq, hx, bw⟩
  have B2 := Lib.hid (B1.out.trans (bw.mono B1.out.size))
  have R2 := Lib.hid (R1.out.below bw)
  have X2 := Lib.hid hx
  clear hq hx bw B1 R1
  go_wp2_with fail
  refine (mlen_nil w2).mono ?_
  rintro e w3 ⟨rfl, bw⟩
  have B3 := Lib.hid (B2.out.trans (bw.mono B2.out.size))
  have R3 := Lib.hid (R2.out.below bw)
  have X3 := Lib.hid (X2.out.below bw)
  clear bw B2 R2 X2
  go_wp2_with fail
  go_loopw [8] (fun i wr => i = .int .i64 0 ∧ wr = w3) (fun _ _ => 0)
  case atStart => exact ⟨rfl, rfl⟩
  case round =>
    obtain ⟨rfl, rfl⟩ := hrel
    go_wp2_with fail
    refine (sreport_any X3.out).mono ?_
    rintro e w4 ⟨rfl, bw⟩
    have B4 := Lib.hid (B3.out.trans (bw.mono B3.out.size))
    have R4 := Lib.hid (R3.out.below bw)
    clear bw B3 R3 X3
    go_wp2_with (first
      | (refine wpList_store_row rfl 57 (.tmp 2) (.tmp 14) rfl w.heap.size Wk.zero.rep rfl rfl 57 #[.int .i64 0, .int .i64 0, .int .i64 0] R4.out wk_info rfl (by simp [Wk.rep, Value.oneCell']) ?_))
    exact bodyPost_ret (v := .agg Wk.zero.rep) (results_cell_row Try.results24 _ _ w.heap.size 57 Wk.zero.rep (0, 0) _ rfl (setRow_heap _ _ _ _ _ _ R4.out) Try.underlying57 rfl wk_info) rfl ⟨rfl, below_setRow B4.out (Nat.le_refl _) _⟩
set_option maxRecDepth 100000 in
set_option maxHeartbeats 6400000 in
theorem sall_any {s : Mr C} (h : (ML C G g).At w s F) {n : Nat} (hk : s.ok n) (hn : n ≤ 5000) (hm : C.most s.d < 800000) :
    Calls Try.prog 24 #[.pointer (some ⟨g, 0, none⟩)] w (RetA (ML C G g) (.agg (allN G s n).2.rep) (allN G s n).1 F w) := by
  obtain ⟨w1, hw1⟩ : ∃ w1, w1 = w.alloc (.cells #[.int .i64 0, .int .i64 0, .int .i64 0] 57) := ⟨_, rfl⟩
  have M1 := Lib.hid (show Mv (ML C G g) w F w1 s F from (Mv.start h).below (by rw [hw1]; exact (Below.refl _ _).alloc (Nat.le_refl _) _))
  have R1 := Lib.hid (show Blk w1 w.heap.size #[.int .i64 0, .int .i64 0, .int .i64 0] 57 by rw [hw1]; exact heap_alloc_new _ _)
  have HN := Lib.hid hn
  have HM := Lib.hid hm
  have HLN := Lib.hid (show s.a.length = n from hk.1)
  have HOK := Lib.hid hk
  have HF := Lib.hid ((ML C G g).lt h)
  clear hn hm hk h
  go_enter Try.func24, Try.ntmps24
  go_upto_region 1 with fail
  rw [← hw1]
  clear hw1
  obtain ⟨b, hb⟩ : ∃ b, b = w.heap.size := ⟨_, rfl⟩
  have BX1 := Lib.hid (show Bx w w1 F b #[.int .i64 0, .int .i64 0, .int .i64 0] 57 from ⟨by rw [hb]; exact R1.out, by rw [hb]; exact Nat.le_refl _, fun hf => by have := HF.out b hf; omega⟩)
  rw [← hb]
  clear hb R1 HF
  go_wp2_with fail
  refine (snew_any w1 (some ⟨g, 0, none⟩)).mono ?_
  rintro e w2 ⟨q, rfl, hq, hx, bw⟩
  have HQ := Lib.hid (show w.heap.size ≤ q from Nat.le_trans M1.out.size hq)
  have HQB := Lib.hid (show b ≠ q by have := BX1.out.1.lt; omega)
  have X2 := Lib.hid hx
  have M2 := Lib.hid (M1.out.below bw)
  have BX2 := Lib.hid (BX1.out.below bw)
  have HQF := Lib.hid (show ¬ F q from fun hf => by have := M1.out.lt q hf; omega)
  clear hq hx bw M1 BX1
  go_wp2_with fail
  refine (mlen_any M2.out.at_).mono ?_
  rintro e w3 ⟨rfl, bw⟩
  rw [HLN.out]
  have X3 := Lib.hid (X2.out.below bw)
  have M3 := Lib.hid (M2.out.below bw)
  have BX3 := Lib.hid (BX2.out.below bw)
  clear bw X2 M2 BX2
  have W3 := Lib.hid (show (WL (ML C G g) (some ⟨g, 0, none⟩) q).At w3 (s, Wk.zero) (fun y => F y ∨ y = q) from ⟨F, M3.out.at_, X3.out, HQF.out, fun y hy => .inl hy, .inr rfl, fun y hy => by
    rcases hy with hy | rfl
    · exact M3.out.lt y hy
    · exact X3.out.lt⟩)
  go_wp2_with fail
  go_loopw [8] (fun i wr => ∃ (j : Nat) (F' : Nat → Prop), j ≤ n ∧ i = .int .i64 j ∧ Mv (WL (ML C G g) (some ⟨g, 0, none⟩) q) w3 (fun y => F y ∨ y = q) wr (runN G (s, Wk.zero) j) F' ∧ Bx w wr F' b #[.int .i64 0, .int .i64 0, .int .i64 0] 57) (fun i _ => n - (intOf i).toNat)
  case atStart => exact ⟨0, _, Nat.zero_le _, rfl, Mv.start W3.out, BX3.out.1, BX3.out.2.1, fun hf => hf.elim BX3.out.2.2 HQB.out⟩
  case round =>
    obtain ⟨j, F', hj, rfl, hmv, hbx⟩ := hrel
    have MJ := Lib.hid hmv
    have BJ := Lib.hid hbx
    have HJ := Lib.hid hj
    clear hmv hbx hj
    by_cases hlt : j < n
    · have HLT := Lib.hid hlt
      have j1 : (j : Int) < (n : Int) := by omega
      have wj : IntKind.i64.wrap ((j : Int) + 1) = ((j + 1 : Nat) : Int) := IntWalk.i64_in _ (by have := HN.out; omega)
      clear hlt
      go_wp2_with fail
      refine (sstep_any MJ.out.at_ (run_okk HOK.out j) (by have h1 := run_most (G := G) (s, Wk.zero) j; have h2 : C.most (s, Wk.zero).1.d < 800000 := HM.out; have := HN.out; have := HLT.out; omega) (by obtain ⟨h1, h2, h3, h4⟩ := run_few (G := G) s j; have := HN.out; have := HLT.out; exact ⟨by omega, by omega, by omega, by omega⟩)).mono ?_
      rintro e w5 ⟨rfl, F5, h5⟩
      have M5 := Lib.hid (MJ.out.trans h5)
      have B5 := Lib.hid (BJ.out.step h5)
      clear h5 MJ BJ
      go_wp2_with fail
      go_roundw
      case rel => exact ⟨j + 1, F5, HLT.out, by go_num, M5.out, B5.out⟩
      case measure => (have := HLT.out; simp [intOf]; omega)
    · obtain rfl : j = n := by have := HJ.out; omega
      have j1 : ¬ (j : Int) < (j : Int) := by omega
      clear hlt
      go_wp2_with fail
      have hbk := wl_blk MJ.out.at_
      refine (sreport_any hbk).mono ?_
      rintro e w5 ⟨rfl, bw⟩
      have M5 := Lib.hid (MJ.out.below bw)
      have B5 := Lib.hid (BJ.out.below bw)
      clear bw MJ BJ hbk
      obtain ⟨F1, h1, h4⟩ : ∃ F1, (ML C G g).At w5 (allN G s j).1 F1 ∧ ∀ y, F1 y → F' y := by obtain ⟨F1, h1, _, _, h4, _⟩ := M5.out.at_; exact ⟨F1, h1, h4⟩
      have H1 := Lib.hid h1
      have H4 := Lib.hid h4
      clear h1 h4
      obtain ⟨y, hy⟩ : ∃ y, y = (allN G s j).2 := ⟨_, rfl⟩
      rw [show (runN G (s, Wk.zero) j).2 = y from hy.symm]
      have HY := Lib.hid hy
      clear hy
      go_wp2_with (first
        | (refine wpList_store_row rfl 57 (.tmp 2) (.tmp 14) rfl b y.rep rfl rfl 57 #[.int .i64 0, .int .i64 0, .int .i64 0] B5.out.1 wk_info rfl (by simp [Wk.rep, Value.oneCell']) ?_))
      have hb : But (fun y => y = b) w5 (w5.setRow b y.rep) := (But.refl _).setRow (S := fun y => y = b) (.inl rfl) _
      refine bodyPost_ret (v := .agg y.rep) (results_cell_row Try.results24 _ _ b 57 y.rep (0, 0) _ rfl (setRow_heap _ _ _ _ _ _ B5.out.1) Try.underlying57 rfl wk_info) rfl ⟨by rw [HY.out], F1, (ML C G g).but H1.out hb (fun y hy e => B5.out.2.2 (e ▸ H4.out y hy)), fun y hy => ?_, ?_⟩
      · rcases M5.out.new y (H4.out y hy) with (h | h) | h
        · exact .inl h
        · exact .inr (by rw [h]; exact HQ.out)
        · exact .inr (Nat.le_trans M3.out.size h)
      · exact Mi.but_step (Mi.but_step M3.out.but M5.out.but (fun y hy => hy.imp id (fun h => by rw [h]; exact HQ.out))) hb (fun y hy => .inr (by rw [hy]; exact B5.out.2.1))
end
end Go.Proofs.Ythadomboiockhaa.Sc
/-
  Scrubbing, of a mirror as the document tells of it: what each place counts as, what both devices have then. No program.
-/
namespace Go.Proofs.Ythadomboiockhaa.Sc
open Kd Mi
def mdStep (f : Int → List UInt8 → Bool) (s : Md × Wk) : (Int × Bool) × (Md × Wk) :=
  if s.1.a.length ≤ s.2.n then ((0, false), s) else (((s.2.n : Int), true), ((s.1.heal f s.2.n).2, s.2.step (s.1.heal f s.2.n).1))
def mdRun (f : Int → List UInt8 → Bool) (s : Md × Wk) : Nat → Md × Wk
  | 0 => s
  | k + 1 => (mdStep f (mdRun f s k)).2
section
variable {pw g1 g2 : Nat} {s : Mr (Mu.one pw g1 g2)} {x : Md} {y : Wk} {m : Nat} {G : Gd}
theorem sees_step (h : Mu.Sees s x m) (hd : Mu.Dry s x) (y : Wk) : (stepN G (s, y)).1 = (mdStep G.f (x, y)).1 ∧ (stepN G (s, y)).2.2 = (mdStep G.f (x, y)).2.2 ∧ Mu.Sees (stepN G (s, y)).2.1 (mdStep G.f (x, y)).2.1 (m + 1) ∧ Mu.Dry (stepN G (s, y)).2.1 (mdStep G.f (x, y)).2.1 := by
  unfold stepN mdStep
  rw [show s.a = x.a from h.a]
  split
  · exact ⟨rfl, rfl, h.more (Nat.le_succ _), hd⟩
  · obtain ⟨h1, h2⟩ := h.heal (G := G) (y.n : Int)
    exact ⟨rfl, by show y.step _ = y.step _; rw [h1], h2, hd.heal h _⟩
theorem sees_run (h : Mu.Sees s x m) (hd : Mu.Dry s x) (y : Wk) : ∀ k, (runN G (s, y) k).2 = (mdRun G.f (x, y) k).2 ∧ Mu.Sees (runN G (s, y) k).1 (mdRun G.f (x, y) k).1 (m + k) ∧ Mu.Dry (runN G (s, y) k).1 (mdRun G.f (x, y) k).1
  | 0 => ⟨rfl, h, hd⟩
  | k + 1 => by
    obtain ⟨h1, h2, h3⟩ := sees_run h hd y k
    obtain ⟨h4, h5, h6, h7⟩ := sees_step (G := G) h2 h3 (runN G (s, y) k).2
    refine ⟨?_, ?_, ?_⟩
    · show (stepN G (runN G (s, y) k)).2.2 = (mdStep G.f (mdRun G.f (x, y) k)).2.2
      rw [show mdRun G.f (x, y) k = ((mdRun G.f (x, y) k).1, (runN G (s, y) k).2) by rw [h1]]
      exact h5
    · show Mu.Sees (stepN G (runN G (s, y) k)).2.1 (mdStep G.f (mdRun G.f (x, y) k)).2.1 _
      rw [show mdRun G.f (x, y) k = ((mdRun G.f (x, y) k).1, (runN G (s, y) k).2) by rw [h1]]
      exact h6
    · show Mu.Dry (stepN G (runN G (s, y) k)).2.1 (mdStep G.f (mdRun G.f (x, y) k)).2.1
      rw [show mdRun G.f (x, y) k = ((mdRun G.f (x, y) k).1, (runN G (s, y) k).2) by rw [h1]]
      exact h7
end
/-! ### Two devices that are there, nothing of which is stale -/
structure Fresh (x : Md) (n : Nat) : Prop where
  o0 : x.o0 = false
  o1 : x.o1 = false
  n0 : x.l0.length = n
  n1 : x.l1.length = n
  a : x.a = List.replicate n false
  b : x.b = List.replicate n false
variable {f : Int → List UInt8 → Bool} {x : Md} {n k : Nat}
/-- What a place counts as. -/
def ck (f : Int → List UInt8 → Bool) (k : Nat) (u v : List UInt8) : Int := if !(f k u) && !(f k v) then 2 else if f k u && (f k v && decide (u = v)) then 0 else 1
/-- What both have then. -/
def hl0 (f : Int → List UInt8 → Bool) (k : Nat) (u v : List UInt8) : List UInt8 := if f k u then u else if f k v then v else u
def hl1 (f : Int → List UInt8 → Bool) (k : Nat) (u v : List UInt8) : List UInt8 := if f k u then u else v
theorem rep_getD {n k : Nat} : (List.replicate n false).getD k false = false := by
  rw [List.getD_eq_getElem?_getD, List.getElem?_replicate]; split <;> rfl
theorem rep_set {n k : Nat} : (List.replicate n false).set k false = List.replicate n false := by simp
theorem Fresh.right (h : Fresh x n) (i : Nat) (k : Nat) : x.right f i k = f k ((x.l i).getD k zeroS) := by
  have h1 : (x.st i).getD k false = false := by
    unfold Md.st; split
    · rw [h.a]; exact rep_getD
    · rw [h.b]; exact rep_getD
  have h2 : x.o i = false := by unfold Md.o; split; exact h.o0; exact h.o1
  rw [Md.right, h1, h2]; rfl
theorem Fresh.mend (h : Fresh x n) (i k : Nat) (y : List UInt8) : Fresh (x.mend i k y) n ∧ x.mend i k y = x.setL i k y := by
  unfold Md.mend Md.put Md.setL
  split
  · rename_i hi
    subst hi
    refine ⟨⟨h.o0, h.o1, by simpa using h.n0, h.n1, by show x.a.set k false = _; rw [h.a, rep_set], h.b⟩, ?_⟩
    show ({ l0 := x.l0.set k y, l1 := x.l1, o0 := x.o0, o1 := x.o1, a := x.a.set k false, b := x.b } : Md) = _
    rw [h.a, rep_set]
  · rename_i hi
    refine ⟨⟨h.o0, h.o1, h.n0, by simpa using h.n1, h.a, by show x.b.set k false = _; rw [h.b, rep_set]⟩, ?_⟩
    show ({ l0 := x.l0, l1 := x.l1.set k y, o0 := x.o0, o1 := x.o1, a := x.a, b := x.b.set k false } : Md) = _
    rw [h.b, rep_set]
theorem Fresh.len (h : Fresh x n) : x.a.length = n := by rw [h.a, List.length_replicate]
theorem Fresh.has (h : Fresh x n) (hk : k < n) : x.has (k : Int) = true := by rw [Md.has, h.len]; simp; omega
theorem Fresh.heal (h : Fresh x n) (hk : k < n) : (x.heal f k).1 = (ck f k (x.l0.getD k zeroS) (x.l1.getD k zeroS), 0) ∧ Fresh (x.heal f k).2 n ∧
    (x.heal f k).2.l0 = x.l0.set k (hl0 f k (x.l0.getD k zeroS) (x.l1.getD k zeroS)) ∧ (x.heal f k).2.l1 = x.l1.set k (hl1 f k (x.l0.getD k zeroS) (x.l1.getD k zeroS)) := by
  have r0 : x.right f 0 k = f k (x.l0.getD k zeroS) := h.right 0 k
  have r1 : x.right f 1 k = f k (x.l1.getD k zeroS) := h.right 1 k
  rw [Md.heal, h.has hk, if_pos rfl, if_neg (by rw [h.o0, h.o1]; simp), Int.toNat_natCast, r0, r1]
  unfold ck hl0 hl1
  have e0 : x.l0.set k (x.l0.getD k zeroS) = x.l0 := list_set_self _ _ _
  have e1 : x.l1.set k (x.l1.getD k zeroS) = x.l1 := list_set_self _ _ _
  cases f0 : f k (x.l0.getD k zeroS) with
  | true =>
    simp only [if_true, Bool.not_true, Bool.false_and, Bool.false_eq_true, if_false, Bool.true_and]
    cases f1 : f k (x.l1.getD k zeroS) with
    | true =>
      simp only [Bool.true_and, decide_eq_true_eq]
      by_cases he : x.l0.getD k zeroS = x.l1.getD k zeroS
      · rw [if_pos he, if_pos he]
        exact ⟨rfl, h, e0.symm, by rw [he]; exact e1.symm⟩
      · rw [if_neg he, if_neg he]
        obtain ⟨h1, h2⟩ := h.mend 1 k (x.l0.getD k zeroS)
        exact ⟨rfl, h1, by rw [h2]; exact e0.symm, by rw [h2]; rfl⟩
    | false =>
      simp only [Bool.false_and, Bool.false_eq_true, if_false]
      obtain ⟨h1, h2⟩ := h.mend 1 k (x.l0.getD k zeroS)
      exact ⟨trivial, h1, by rw [h2]; exact e0.symm, by rw [h2]; rfl⟩
  | false =>
    simp only [Bool.false_eq_true, if_false, Bool.not_false, Bool.true_and, Bool.false_and]
    cases f1 : f k (x.l1.getD k zeroS) with
    | true =>
      simp only [if_true, Bool.not_true, Bool.false_eq_true, if_false]
      obtain ⟨h1, h2⟩ := h.mend 0 k (x.l1.getD k zeroS)
      exact ⟨trivial, h1, by rw [h2]; rfl, by rw [h2]; exact e1.symm⟩
    | false =>
      simp only [Bool.false_eq_true, if_false, Bool.not_false, if_true]
      exact ⟨trivial, h, e0.symm, e1.symm⟩
/-- What the first k places count as. -/
def cntK (f : Int → List UInt8 → Bool) (l0 l1 : List (List UInt8)) : Nat → Wk
  | 0 => Wk.zero
  | k + 1 => (cntK f l0 l1 k).step (ck f k (l0.getD k zeroS) (l1.getD k zeroS), 0)
theorem cntK_n (f : Int → List UInt8 → Bool) (l0 l1 : List (List UInt8)) : ∀ k, (cntK f l0 l1 k).n = k
  | 0 => rfl
  | k + 1 => by
    rw [cntK, Wk.step, if_pos rfl, Wk.add]
    have h := cntK_n f l0 l1 k
    split
    · show (cntK f l0 l1 k).n + 1 = _; rw [h]
    · split
      · show (cntK f l0 l1 k).n + 1 = _; rw [h]
      · show (cntK f l0 l1 k).n + 1 = _; rw [h]
/-- What k steps make of it. -/
theorem Fresh.run (h : Fresh x n) : ∀ k, k ≤ n → Fresh (mdRun f (x, Wk.zero) k).1 n ∧ (mdRun f (x, Wk.zero) k).2 = cntK f x.l0 x.l1 k ∧
    (∀ j, j < n → (mdRun f (x, Wk.zero) k).1.l0.getD j zeroS = if j < k then hl0 f j (x.l0.getD j zeroS) (x.l1.getD j zeroS) else x.l0.getD j zeroS) ∧
    (∀ j, j < n → (mdRun f (x, Wk.zero) k).1.l1.getD j zeroS = if j < k then hl1 f j (x.l0.getD j zeroS) (x.l1.getD j zeroS) else x.l1.getD j zeroS)
  | 0, _ => ⟨h, rfl, fun j _ => by rw [if_neg (by omega)]; rfl, fun j _ => by rw [if_neg (by omega)]; rfl⟩
  | k + 1, hk => by
    obtain ⟨h1, h2, h3, h4⟩ := h.run k (by omega)
    have hn : (mdRun f (x, Wk.zero) k).2.n = k := by rw [h2, cntK_n]
    have hs : mdRun f (x, Wk.zero) (k + 1) = (((mdRun f (x, Wk.zero) k).1.heal f k).2, (cntK f x.l0 x.l1 k).step ((mdRun f (x, Wk.zero) k).1.heal f k).1) := by
      show (mdStep f (mdRun f (x, Wk.zero) k)).2 = _
      unfold mdStep
      rw [if_neg (by rw [h1.len, hn]; omega), hn, h2]
    obtain ⟨h5, h6, h7, h8⟩ := h1.heal (f := f) (k := k) (by omega)
    have q0 := h3 k (by omega)
    have q1 := h4 k (by omega)
    rw [if_neg (by omega)] at q0 q1
    rw [q0, q1] at h5 h7 h8
    rw [hs]
    refine ⟨h6, by show (cntK f x.l0 x.l1 k).step _ = _; rw [h5]; rfl, fun j hj => ?_, fun j hj => ?_⟩
    · show ((mdRun f (x, Wk.zero) k).1.heal f k).2.l0.getD j zeroS = _
      rw [h7, set_getD _ _ _ _ (by rw [h1.n0]; exact hj)]
      by_cases e : k = j
      · subst e; rw [if_pos rfl, if_pos (by omega)]
      · rw [if_neg e, h3 j hj]
        by_cases hjk : j < k
        · rw [if_pos hjk, if_pos (by omega)]
        · rw [if_neg hjk, if_neg (by omega)]
    · show ((mdRun f (x, Wk.zero) k).1.heal f k).2.l1.getD j zeroS = _
      rw [h8, set_getD _ _ _ _ (by rw [h1.n1]; exact hj)]
      by_cases e : k = j
      · subst e; rw [if_pos rfl, if_pos (by omega)]
      · rw [if_neg e, h4 j hj]
        by_cases hjk : j < k
        · rw [if_pos hjk, if_pos (by omega)]
        · rw [if_neg hjk, if_neg (by omega)]
end Go.Proofs.Ythadomboiockhaa.Sc
/-
  The mirror that pair makes, as the document tells of it; with a device that is out nothing counts. No program.
-/
namespace Go.Proofs.Ythadomboiockhaa.Sc
open Kd Mi
def startM (L0 L1 : List (List UInt8)) (k : Nat) : Md := ⟨L0, L1, false, false, List.replicate k false, List.replicate k false⟩
theorem start_fresh {L0 L1 : List (List UInt8)} {k : Nat} (h0 : L0.length = k) (h1 : L1.length = k) : Fresh (startM L0 L1 k) k := ⟨rfl, rfl, h0, h1, rfl, rfl⟩
theorem start_len {L0 L1 : List (List UInt8)} {k : Nat} : (startM L0 L1 k).a.length = k := List.length_replicate
variable {f : Int → List UInt8 → Bool} {x : Md}
theorem down_heal (hd : (x.o0 || x.o1) = true) {n : Nat} (hn : n < x.a.length) : x.heal f n = ((0, 13), x) := by
  rw [Md.heal, show x.has (n : Int) = true by rw [Md.has]; simp; omega, if_pos rfl, if_pos hd]
theorem down_step (hd : (x.o0 || x.o1) = true) {n : Nat} (hn : n < x.a.length) : mdStep f (x, ⟨n, 0, 0, 0⟩) = (((n : Int), true), (x, ⟨n + 1, 0, 0, 0⟩)) := by
  rw [mdStep, if_neg (by show ¬ x.a.length ≤ n; omega)]
  show (((n : Int), true), ((x.heal f n).2, Wk.step ⟨n, 0, 0, 0⟩ (x.heal f n).1)) = _
  rw [down_heal hd hn, Wk.step, if_neg (show ¬ ((13 : Int) = 0) by decide)]
theorem down_run (hd : (x.o0 || x.o1) = true) : ∀ k, k ≤ x.a.length → mdRun f (x, Wk.zero) k = (x, ⟨k, 0, 0, 0⟩)
  | 0, _ => rfl
  | k + 1, hk => by rw [mdRun, down_run hd k (by omega), down_step hd (by omega)]
end Go.Proofs.Ythadomboiockhaa.Sc
/-
  Noughts are no sealed sector of a small place, under the little sum.
-/
namespace Go.Proofs.Ythadomboiockhaa.Lo
open Go.RowKit Kd Sx
def zeroB (k : Nat) : Bool := decide (sealedS litSumL (k : Int) (genS zeroS) (bodyS zeroS) = zeroS)
theorem zero_all : (List.range 26).all (fun k => !zeroB k) = true := by decide +kernel
theorem zero_no {k : Nat} (hk : k < 26) : okS litSumL (k : Int) zeroS = false := by
  have h := List.all_eq_true.1 zero_all k (List.mem_range.2 hk)
  have h2 : zeroB k = false := by simpa using h
  rw [okS]
  rw [show decide (sealedS litSumL (k : Int) (genS zeroS) (bodyS zeroS) = zeroS) = false from h2, Bool.and_false, Bool.and_false]
end Go.Proofs.Ythadomboiockhaa.Lo
/-
  string(b) of a row of bytes, nil let in.
-/
namespace Go.Proofs.Ythadomboiockhaa
open Go.RowKit
theorem conv_rd {P : Program} {w : World} {src dst e : TypeId} {B n c : Nat} {A : Option Addr} {l : List UInt8} (hs : P.underlying src = some (.slice e)) (he : P.underlying e = some (.int .u8)) (hd : P.underlying dst = some .string)
    (h : Rd B w A (bv l)) (hn : l.length = n) : (convert src dst (.slice A n c)).run P w = .ok (.string ⟨l.toArray⟩) w := by
  subst hn
  cases A with
  | some ad => exact run_convert_bytes_back w src dst e ad c l hs he hd (fun j hj => by
      obtain ⟨ad', e', _, hc⟩ := h.at_ hj
      injection e' with e'
      subst e'
      exact hc)
  | none =>
    have hl : l = [] := by
      cases l with
      | nil => rfl
      | cons b t => obtain ⟨_, h', _⟩ := h 0 _ rfl; cases h'
    subst hl
    show (convert src dst (.slice none 0 c)).run P w = _
    rw [run_convert_bytes_string w src dst e none 0 c hs he hd]
    trace_state
    rfl
end Go.Proofs.Ythadomboiockhaa
/-
  How an array of numbers that came in by value is opened: its numbers, as a list.
-/
namespace Go.Proofs.Ythadomboiockhaa
open Go.RowKit Go.ChangeShapes Go.WideShapes

section
variable {H : Type} {enc : TypeId × Value → H} {P : Program} {w : World} {r : Reach} {b0 base : Nat} {spare : Nat → Bool} {held : Bool}

theorem open_arr {t e n : Nat} {k : IntKind} {v : Value} {d : DataW H} {ps : List MemPlace} (ht : P.underlying t = some (.array n e)) (he : P.underlying e = some (.int k)) (hc : P.cellsOf e = 1) (hn : P.cellsOf t = n)
    (hval : Value.okWide P w r b0 t v) (h : DataW.Trod enc P w base spare held t v d ps) :
    ∃ zs : List Int, zs.length = n ∧ v = .agg (zs.map (Value.int k)).toArray ∧ ∀ z ∈ zs, (Lit.int k z).wf = true := by
  obtain ⟨cs, rfl, hsz⟩ : ∃ cs, v = .agg cs ∧ cs.size = n := by
    have h1 := hval
    simp only [Value.okWide, ht] at h1
    obtain ⟨cs, e1, e2, _⟩ := h1
    exact ⟨cs, e1, by rw [e2, hn]⟩
  obtain ⟨fuel, hf⟩ := h
  obtain ⟨xs, m, _, _, hl, hx, hel⟩ := DataW.trod_array ht hf
  have each : ∀ i (hi : i < cs.size), ∃ z, cs[i] = .int k z ∧ (Lit.int k z).wf = true := by
    intro i hi
    have h1 := hel i (by omega)
    have hxi : i < xs.length := by omega
    rw [List.getElem?_eq_getElem hxi, hc, Nat.mul_one] at h1
    obtain ⟨z, e1, _, hw⟩ := DataW.trod_int he h1
    have e2 : ((Value.agg cs).cells.toList.drop i).take 1 = [cs[i]] := by
      show (cs.toList.drop i).take 1 = [cs[i]]
      rw [List.drop_eq_getElem_cons (by simpa using hi)]
      simp
    rw [e2] at e1
    injection e1 with e1
    exact ⟨z, e1, hw⟩
  refine ⟨cs.toList.map (fun v => match v with | .int _ z => z | _ => 0), by simpa using hsz, ?_, ?_⟩
  · congr 1
    apply Array.ext
    · simp
    · intro i h1 h2
      obtain ⟨z, hz, _⟩ := each i h1
      simp [hz]
  · intro z hz
    simp only [List.mem_map] at hz
    obtain ⟨v, hv, rfl⟩ := hz
    obtain ⟨i, hi, rfl⟩ := List.getElem_of_mem hv
    obtain ⟨z, hz, hw⟩ := each i (by simpa using hi)
    have : cs.toList[i] = .int k z := by simpa using hz
    rw [this]
    exact hw

theorem open_u32s {t e n : Nat} {v : Value} {d : DataW H} {ps : List MemPlace} (ht : P.underlying t = some (.array n e)) (he : P.underlying e = some (.int .u32)) (hc : P.cellsOf e = 1) (hn : P.cellsOf t = n)
    (hval : Value.okWide P w r b0 t v) (h : DataW.Trod enc P w base spare held t v d ps) : ∃ s : List UInt32, s.length = n ∧ v = .agg (uv s) := by
  obtain ⟨zs, hl, rfl, hw⟩ := open_arr ht he hc hn hval h
  refine ⟨zs.map fun z => UInt32.ofNat z.toNat, by simpa using hl, ?_⟩
  unfold uv
  rw [List.map_map]
  congr 2
  apply List.map_congr_left
  intro z hz
  have hb := bounds_u32 (hw z hz)
  simp only [Function.comp]
  exact int_eq (by rw [UInt32.toNat_ofNat']; omega)
theorem open_u8s {t e n : Nat} {v : Value} {d : DataW H} {ps : List MemPlace} (ht : P.underlying t = some (.array n e)) (he : P.underlying e = some (.int .u8)) (hc : P.cellsOf e = 1) (hn : P.cellsOf t = n)
    (hval : Value.okWide P w r b0 t v) (h : DataW.Trod enc P w base spare held t v d ps) : ∃ l : List UInt8, l.length = n ∧ v = .agg (bva l) := by
  obtain ⟨zs, hl, rfl, hw⟩ := open_arr ht he hc hn hval h
  refine ⟨zs.map fun z => UInt8.ofNat z.toNat, by simpa using hl, ?_⟩
  unfold bva bv
  rw [List.map_map]
  congr 2
  apply List.map_congr_left
  intro z hz
  have hb := bounds_u8 (hw z hz)
  simp only [Function.comp]
  exact int_eq (by rw [UInt8.toNat_ofNat']; omega)
end
end Go.Proofs.Ythadomboiockhaa
/-
  The reference's log: New, Copy, Append.
-/
namespace Go.Proofs.Ythadomboiockhaa.Lo
open Go.RowKit
attribute [local go_sem ↓] Go.wp_at_zero Go.wp_at_succ
theorem make_u64s (W : World) (k : Nat) (hk : k ≤ 1000) : (Instr.makeSlice 76 (.int .i64 k) (.int .i64 k)).run Try.prog W = .ok (.slice (some ⟨W.heap.size, 0, none⟩) k k) (W.alloc (.cells (gv (List.replicate k 0)).toArray 77)) := by
  obtain ⟨i, hi, hz, hs, hby⟩ := info_parts u64Elt.info
  have h := run_makeSlice (P := Try.prog) W 76 77 i _ Try.underlying76 hi hz .i64 .i64 (k : Int) (k : Int) (by omega) (Int.le_refl _) (by rw [hs, Int.toNat_natCast]; omega) (by rw [hby]; omega) (by omega)
  have e : madeCells (Value.int .u64 0).cells (k * 1) = (gv (List.replicate k 0)).toArray := by
    apply Array.toList_inj.1
    rw [zero_gv]
  rw [Int.toNat_natCast, hs, e] at h
  exact h
set_option maxRecDepth 100000 in
set_option maxHeartbeats 1600000 in
theorem refnew_any (a b : Nat) (ha : a ≤ 1000) (w : World) : Calls Try.prog 31 #[.int .i64 a, .int .i64 b] w (RetRL (Lg.new a b) w) := by
  have hmk : ∀ W, (Instr.makeSlice 76 (.int .i64 (a : Int)) (.int .i64 (a : Int))).run Try.prog W = .ok (.slice (some ⟨W.heap.size, 0, none⟩) a a) (W.alloc (.cells (gv (List.replicate a 0)).toArray 77)) := fun W => make_u64s W a ha
  go_enter Try.func31, Try.ntmps31
  go_wp2_with fail
  have hl : (Lg.new a b).gens.length = a := List.length_replicate
  refine bodyPost_ret (v := .agg (rlC (Lg.new a b) (some ⟨w.heap.size + 1, 0, none⟩) a a)) (results_cell_row Try.results31 _ _ w.heap.size 79 (rlC (Lg.new a b) (some ⟨w.heap.size + 1, 0, none⟩) a a) (0, 0) _ rfl (heap_alloc2_old _ _ _) Try.underlying79 rfl rfl) rfl ⟨some ⟨w.heap.size + 1, 0, none⟩, a, by rw [hl], ?_, ((Below.refl _ _).alloc (Nat.le_refl _) _).alloc (by simp) _⟩
  rw [hl]
  have h := World.ownsRow_lit (w.alloc (Obj.cells (rlC (Lg.new a b) (some ⟨w.heap.size + 1, 0, none⟩) a a) 79)) (gv (List.replicate a 0)).toArray a (base := w.heap.size) (e := 77) (size := 1) (by simp) (by unfold maxLen; omega) (by simp [gv])
  rw [show (w.alloc (Obj.cells (rlC (Lg.new a b) (some ⟨w.heap.size + 1, 0, none⟩) a a) 79)).heap.size = w.heap.size + 1 by simp] at h
  exact h
set_option maxRecDepth 100000 in
set_option maxHeartbeats 1600000 in
theorem rcopy_any (l : Lg) (A : Option Addr) (n c : Nat) (hn : l.gens.length = n) (hs : n ≤ 1000) (w : World) (hr : Rd w.heap.size w A (gv l.gens)) :
    Calls Try.prog 32 #[.agg (rlC l A n c)] w (RetRL l w) := by
  have HR := Lib.hid hr
  have HN := Lib.hid hn
  have HS := Lib.hid hs
  clear hr hn hs
  unfold rlC
  obtain ⟨W, hW⟩ : ∃ W, W = ((w.alloc (.cells #[.int .i64 (l.size : Int), .int .i64 l.headI, .int .i64 l.slotI, .slice A n c, .int .u64 (l.last : Int)] 79)).alloc (.cells #[.int .i64 0, .int .i64 0, .int .i64 0, .slice none 0 0, .int .u64 0] 79)) := ⟨_, rfl⟩
  have hWs : W.heap.size = w.heap.size + 1 + 1 := by rw [hW]; simp
  have HWb := Lib.hid (show Below w.heap.size w W by rw [hW]; exact ((Below.refl _ _).alloc (Nat.le_refl _) _).alloc (by simp) _)
  have X1 := Lib.hid (show Blk W w.heap.size #[.int .i64 (l.size : Int), .int .i64 l.headI, .int .i64 l.slotI, .slice A n c, .int .u64 (l.last : Int)] 79 by rw [hW]; exact heap_alloc2_old _ _ _)
  have X2 := Lib.hid (show Blk W (w.heap.size + 1) #[.int .i64 0, .int .i64 0, .int .i64 0, .slice none 0 0, .int .u64 0] 79 by rw [hW]; exact heap_alloc2_new _ _ _)
  have HO := Lib.hid (show (W.alloc (.cells #[] 77)).ownsRow W.heap.size 77 1 (.slice (some ⟨W.heap.size, 0, none⟩) 0 0) 0 [] from World.ownsRow_lit W #[] 0 (Nat.le_refl _) (Nat.zero_le _) rfl)
  have HB := Lib.hid ((Below.refl W.heap.size W).alloc (Nat.le_refl _) (.cells #[] 77))
  have HR3 := Lib.hid (show Rd w.heap.size (W.alloc (.cells #[] 77)) A (gv l.gens) from (HR.out.below HWb.out).below (HB.out.mono (by rw [hWs]; omega)))
  rw [hWs, hW] at HO HB
  rw [hW] at HR3
  rw [hW] at X1 X2
  go_enter Try.func32, Try.ntmps32
  go_wp2_with (first
    | (at_builtin
       refine wpList_app _ rfl (.tmp 3) (.tmp 5) 76 rfl u64Elt (base := w.heap.size + 1 + 1) (v := .slice (some ⟨w.heap.size + 1 + 1, 0, none⟩) 0 0) rfl HO.out (m := n) rfl HR3.out (by rw [gv_length, HN.out]) (gv_one _) (by have := HS.out; omega) (by simp) ?_
       intro A3 c3 w3 ho3 hg3 _
       have hb3 : Below (w.heap.size + 1 + 1) ((w.alloc (.cells #[.int .i64 (l.size : Int), .int .i64 l.headI, .int .i64 l.slotI, .slice A n c, .int .u64 (l.last : Int)] 79)).alloc (.cells #[.int .i64 0, .int .i64 0, .int .i64 0, .slice none 0 0, .int .u64 0] 79)) w3 := app_below HB.out HO.out hg3 (Nat.le_refl _) (by simp)
       have Y1 := Lib.hid (show Blk w3 w.heap.size _ _ from (hb3.block _ (by omega)).trans X1.out)
       have Y2 := Lib.hid (show Blk w3 (w.heap.size + 1) _ _ from (hb3.block _ (by omega)).trans X2.out)
       have O3 := Lib.hid (own_eq ho3 (Nat.zero_add n) (List.nil_append _))
       rw [Nat.zero_add]
       have y1 := Y1.out.cell 3
       have y2 := Y1.out.free 3
       clear ho3 hg3 HO HB HR3)
    | (show wpList _ _ _ ({ dst := _, op := .load 79 (.tmp 1), type := _, pos := _, after := _, guard := _ } :: _) _ _
       apply Classical.byContradiction
       intro hneg))
  refine hneg ?_
  clear hneg
  obtain ⟨w4, hw4⟩ : ∃ x, x = w3.setCell ⟨w.heap.size, 3, none⟩ (.slice A3 n c3) := ⟨_, rfl⟩
  rw [← hw4]
  have hbut : But (fun k => k = w.heap.size) w3 w4 := by rw [hw4]; exact But.setCell (S := fun k => k = w.heap.size) (But.refl _) (Or.inl rfl) _
  have Z1 := Lib.hid (show Blk w4 w.heap.size #[.int .i64 (l.size : Int), .int .i64 l.headI, .int .i64 l.slotI, .slice A3 n c3, .int .u64 (l.last : Int)] 79 by rw [hw4]; exact heap_setCell_same _ _ _ _ _ _ Y1.out)
  have Z2 := Lib.hid (Y2.out.but hbut (by omega))
  have O4 := Lib.hid (Own.but O3.out hbut (fun k hk e => by have := (O3.out.lt k hk).1; omega))
  have HB4 := Lib.hid (show Below w.heap.size w w4 from ((HWb.out.trans (by rw [hW]; exact hb3.mono (by omega))).trans (hbut.below (fun k hk e => by omega) (by have := hb3.size; simp at this; omega))))
  clear hw4 hbut Y1 Y2 O3 hb3 y1 y2
  go_wp2_with (first
    | (refine wpList_load_row rfl 79 (.tmp 1) rfl w.heap.size rfl 79 #[.int .i64 (l.size : Int), .int .i64 l.headI, .int .i64 l.slotI, .slice A3 n c3, .int .u64 (l.last : Int)] (0, 0) _ Z1.out Try.underlying79 rfl rfl ?_)
    | (show wpList _ _ _ ({ dst := _, op := .store 79 (.tmp 2) (.tmp 8), type := _, pos := _, after := _, guard := _ } :: _) _ _
       apply Classical.byContradiction
       intro hneg))
  refine hneg ?_
  clear hneg
  refine wpList_store_row rfl 79 (.tmp 2) (.tmp 8) rfl (w.heap.size + 1) #[.int .i64 (l.size : Int), .int .i64 l.headI, .int .i64 l.slotI, .slice A3 n c3, .int .u64 (l.last : Int)] rfl rfl 79 _ Z2.out rfl rfl (by simp [Value.oneCell']) ?_
  go_wp2_with fail
  have Z5 := Lib.hid (show Blk (w4.setRow (w.heap.size + 1) #[.int .i64 (l.size : Int), .int .i64 l.headI, .int .i64 l.slotI, .slice A3 n c3, .int .u64 (l.last : Int)]) (w.heap.size + 1) _ _ from setRow_heap _ _ _ _ _ _ Z2.out)
  have hn := HN.out
  have hres := fun tm htm => results_cell_row (P := Try.prog) Try.results32 tm _ (w.heap.size + 1) 79 _ (0, 0) _ htm Z5.out Try.underlying79 rfl rfl
  refine bodyPost_ret (hres _ rfl) rfl ⟨A3, c3, by rw [hn]; rfl, ?_, below_setRow HB4.out (by omega) _⟩
  rw [hn]
  have hb5 : But (fun k => k = w.heap.size + 1) w4 (w4.setRow (w.heap.size + 1) #[.int .i64 (l.size : Int), .int .i64 l.headI, .int .i64 l.slotI, .slice A3 n c3, .int .u64 (l.last : Int)]) := But.setRow (S := fun k => k = w.heap.size + 1) (But.refl _) (Or.inl rfl) _
  exact own_more (Own.but O4.out hb5 (fun k hk e => by have := (O4.out.lt k hk).1; omega)) (by omega)
end Go.Proofs.Ythadomboiockhaa.Lo
