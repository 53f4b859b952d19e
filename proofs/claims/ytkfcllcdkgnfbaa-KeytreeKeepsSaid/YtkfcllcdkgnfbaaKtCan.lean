/-
  What is held behind punctures, by definition: a node that has none of them, or what its halves have. No program.
-/
import Derived.Test.YtkfcllcdkgnfbaaKtLaw
namespace Go.Proofs.Ytkfcllcdkgnfbaa.Kt
open Go.RowKit
/-- What is held of a node behind punctures. -/
def canL : Nat → Nd → List Int → List Nd
  | 0, x, ms => if ms.any (inI x) then [] else [x]
  | f + 1, x, ms => if ms.any (inI x) then canL f (ndL x) ms ++ canL f (ndR x) ms else [x]
theorem inI_kids {x : Nd} {a : Int} (h : okH x) (hd : x.d < 17) : inI x a = (inI (ndL x) a || inI (ndR x) a) := by
  obtain ⟨h1, h2, h3⟩ := ndL_ok h hd
  obtain ⟨h4, h5⟩ := ndR_ok h hd
  have e1 : (ndL x).d = x.d + 1 := rfl
  have e2 : (ndR x).d = x.d + 1 := rfl
  have hp := (manyI_ok (d := x.d + 1) (by have := h.1; omega) (by omega)).2
  rw [Bool.eq_iff_iff, Bool.or_eq_true, inI_iff, inI_iff, inI_iff, h2, h5, e1, e2]
  omega
theorem inI_one {x : Nd} {a : Int} (h : okH x) (hd : inI (ndL x) a = true) (h17 : x.d < 17) : inI (ndR x) a = false := by
  obtain ⟨h1, h2, h3⟩ := ndL_ok h h17
  obtain ⟨h4, h5⟩ := ndR_ok h h17
  have e1 : (ndL x).d = x.d + 1 := rfl
  have e2 : (ndR x).d = x.d + 1 := rfl
  rw [inI_iff, h2, e1] at hd
  rw [inI_not, h5]; omega
theorem any_kids {x : Nd} {ms : List Int} (h : okH x) (hd : x.d < 17) : ms.any (inI x) = (ms.any (inI (ndL x)) || ms.any (inI (ndR x))) := by
  rw [Bool.eq_iff_iff, Bool.or_eq_true, List.any_eq_true, List.any_eq_true, List.any_eq_true]
  constructor
  · rintro ⟨m, hm, hi⟩
    rw [inI_kids h hd, Bool.or_eq_true] at hi
    rcases hi with hi | hi
    · exact .inl ⟨m, hm, hi⟩
    · exact .inr ⟨m, hm, hi⟩
  · rintro (⟨m, hm, hi⟩ | ⟨m, hm, hi⟩)
    · exact ⟨m, hm, by rw [inI_kids h hd, hi]; rfl⟩
    · exact ⟨m, hm, by rw [inI_kids h hd, hi, Bool.or_true]⟩
theorem canL_none {f : Nat} {x : Nd} {ms : List Int} (h : ms.any (inI x) = false) : canL f x ms = [x] := by
  cases f <;> (unfold canL; rw [if_neg (by simp [h])])
theorem any_snoc (x : Nd) (ms : List Int) (m : Int) : (ms ++ [m]).any (inI x) = (ms.any (inI x) || inI x m) := by
  rw [List.any_append]; simp
theorem punL_one (f : Nat) (x : Nd) (m : Int) (hd : x.d = 17 - (f : Int)) : punL [x] m = woL f x m := by
  have : (17 - x.d).toNat = f := by omega
  rw [punL, List.flatMap_cons, this]; simp
theorem punL_can : ∀ (f : Nat) (x : Nd) (ms : List Int) (m : Int), okH x → x.d = 17 - (f : Int) → punL (canL f x ms) m = canL f x (ms ++ [m])
  | 0, x, ms, m, h, hd => by
    unfold canL
    rw [any_snoc]
    by_cases ha : ms.any (inI x) = true
    · rw [if_pos ha, ha, Bool.true_or, if_pos rfl]; rfl
    · rw [if_neg ha, punL_one 0 x m hd, woL]
      have ha' : ms.any (inI x) = false := by simpa using ha
      rw [ha', Bool.false_or]
  | f + 1, x, ms, m, h, hd => by
    obtain ⟨h1, _⟩ := ndL_ok h (by omega)
    obtain ⟨h2, _⟩ := ndR_ok h (by omega)
    have il := punL_can f (ndL x) ms m h1 (by simp only [ndL]; omega)
    have ir := punL_can f (ndR x) ms m h2 (by simp only [ndR]; omega)
    unfold canL
    rw [any_snoc]
    by_cases ha : ms.any (inI x) = true
    · rw [if_pos ha, ha, Bool.true_or, if_pos rfl, punL_append, il, ir]
    · have ha' : ms.any (inI x) = false := by simpa using ha
      rw [if_neg ha, punL_one (f + 1) x m hd, woL, ha', Bool.false_or]
      by_cases hi : inI x m = true
      · have hk := any_kids (ms := ms) h (by omega)
        rw [ha'] at hk
        have hk' := hk.symm
        rw [Bool.or_eq_false_iff] at hk'
        rw [if_pos hi, if_pos hi, ← il, ← ir, canL_none hk'.1, canL_none hk'.2, punL_one f (ndL x) m (by simp only [ndL]; omega), punL_one f (ndR x) m (by simp only [ndR]; omega)]
      · rw [if_neg hi, if_neg hi]
theorem punAll_can (x : Nd) (hx : okH x) (f : Nat) (hd : x.d = 17 - (f : Int)) : ∀ (bs us : List Int), punAll (canL f x us) bs = canL f x (us ++ bs)
  | [], us => by simp [punAll]
  | b :: bs, us => by
    have h := punAll_can x hx f hd bs (us ++ [b])
    show punAll (punL (canL f x us) b) bs = _
    rw [punL_can f x us b hx hd, h]
    simp
theorem any_congr {x : Nd} {ms ms' : List Int} (h : ∀ m, m ∈ ms ↔ m ∈ ms') : ms.any (inI x) = ms'.any (inI x) := by
  rw [Bool.eq_iff_iff, List.any_eq_true, List.any_eq_true]
  constructor
  · rintro ⟨m, hm, hi⟩; exact ⟨m, (h m).1 hm, hi⟩
  · rintro ⟨m, hm, hi⟩; exact ⟨m, (h m).2 hm, hi⟩
theorem can_congr : ∀ (f : Nat) (x : Nd) {ms ms' : List Int}, (∀ m, m ∈ ms ↔ m ∈ ms') → canL f x ms = canL f x ms'
  | 0, x, _, _, h => by unfold canL; rw [any_congr h]
  | f + 1, x, _, _, h => by unfold canL; rw [any_congr h, can_congr f _ h, can_congr f _ h]
/-- The root, behind punctures. -/
theorem punAll_root {s : List UInt8} (hs : s.length = 32) (ms : List Int) : punAll [⟨0, 0, s⟩] ms = canL 17 ⟨0, 0, s⟩ ms := by
  have h := punAll_can ⟨0, 0, s⟩ (okS_root hs).1 17 rfl ms []
  rw [canL_none (by rfl)] at h
  exact h
theorem can_mem_ok : ∀ (f : Nat) (x : Nd) (ms : List Int), okH x → x.d = 17 - (f : Int) → ∀ y ∈ canL f x ms, okH y
  | 0, x, ms, h, _, y, hy => by
    unfold canL at hy; split at hy
    · simp at hy
    · rw [List.mem_singleton] at hy; rw [hy]; exact h
  | f + 1, x, ms, h, hd, y, hy => by
    unfold canL at hy; split at hy
    · rcases List.mem_append.1 hy with hy | hy
      · exact can_mem_ok f _ ms (ndL_ok h (by omega)).1 (by simp only [ndL]; omega) y hy
      · exact can_mem_ok f _ ms (ndR_ok h (by omega)).1 (by simp only [ndR]; omega) y hy
    · rw [List.mem_singleton] at hy; rw [hy]; exact h
theorem leaf_one {x : Nd} {a m : Int} (hd : x.d = 17) (h1 : inI x a = true) (h2 : inI x m = true) : a = m := by
  have : manyI x.d = 1 := by rw [hd]; rfl
  rw [inI_iff, this] at h1 h2
  omega
theorem hasI_append (a b : List Nd) (m : Int) : hasI (a ++ b) m = (hasI a m || hasI b m) := by simp [hasI]
theorem hasI_single (x : Nd) (m : Int) : hasI [x] m = inI x m := by simp [hasI]
/-- Which leaves are left. -/
theorem hasI_can : ∀ (f : Nat) (x : Nd) (ms : List Int) (a : Int), okH x → x.d = 17 - (f : Int) → hasI (canL f x ms) a = (inI x a && !decide (a ∈ ms))
  | 0, x, ms, a, h, hd => by
    unfold canL
    by_cases ha : ms.any (inI x) = true
    · rw [if_pos ha]
      obtain ⟨m, hm, hi⟩ := List.any_eq_true.1 ha
      by_cases hx : inI x a = true
      · have := leaf_one (by omega) hx hi
        subst this
        rw [hx, decide_eq_true hm]; rfl
      · have hx' : inI x a = false := by simpa using hx
        rw [hx']; rfl
    · rw [if_neg ha, hasI_single]
      by_cases hx : inI x a = true
      · have hn : a ∉ ms := fun hm => ha (List.any_eq_true.2 ⟨a, hm, hx⟩)
        rw [hx, decide_eq_false hn]; rfl
      · have hx' : inI x a = false := by simpa using hx
        rw [hx']; rfl
  | f + 1, x, ms, a, h, hd => by
    unfold canL
    by_cases ha : ms.any (inI x) = true
    · rw [if_pos ha, hasI_append, hasI_can f _ ms a (ndL_ok h (by omega)).1 (by simp only [ndL]; omega), hasI_can f _ ms a (ndR_ok h (by omega)).1 (by simp only [ndR]; omega), inI_kids h (by omega)]
      cases inI (ndL x) a <;> cases inI (ndR x) a <;> simp
    · rw [if_neg ha, hasI_single]
      by_cases hx : inI x a = true
      · have hn : a ∉ ms := fun hm => ha (List.any_eq_true.2 ⟨a, hm, hx⟩)
        rw [hx, decide_eq_false hn]; rfl
      · have hx' : inI x a = false := by simpa using hx
        rw [hx']; rfl
theorem step_left {x : Nd} {a : Int} (h : okH x) (hd : x.d < 17) (hi : inI (ndL x) a = true) : stepK x a = ndL x := by
  have hr := inI_one h hi hd
  obtain ⟨h4, h5⟩ := ndR_ok h hd
  obtain ⟨_, h2, _⟩ := ndL_ok h hd
  have e1 : (ndL x).d = x.d + 1 := rfl
  rw [inI_iff, h2, e1] at hi
  have e : (ndR x).a = IntKind.u64.wrap (x.a + manyI (x.d + 1)) := rfl
  unfold stepK
  rw [← e, h5, if_neg (by omega)]
theorem step_right {x : Nd} {a : Int} (h : okH x) (hd : x.d < 17) (hi : inI (ndR x) a = true) : stepK x a = ndR x := by
  obtain ⟨h4, h5⟩ := ndR_ok h hd
  rw [inI_iff, h5] at hi
  have e : (ndR x).a = IntKind.u64.wrap (x.a + manyI (x.d + 1)) := rfl
  unfold stepK
  rw [← e, h5, if_pos (by omega)]
/-- Each node that is held leads to the same keys. -/
theorem goL_can : ∀ (f : Nat) (x : Nd) (ms : List Int) (a : Int), okH x → x.d = 17 - (f : Int) → ∀ y ∈ canL f x ms, inI y a = true → inI x a = true ∧ goL (17 - y.d).toNat y a = goL f x a
  | 0, x, ms, a, h, hd, y, hy, hi => by
    unfold canL at hy; split at hy
    · simp at hy
    · rw [List.mem_singleton] at hy; subst hy
      have : (17 - y.d).toNat = 0 := by omega
      rw [this]; exact ⟨hi, rfl⟩
  | f + 1, x, ms, a, h, hd, y, hy, hi => by
    unfold canL at hy; split at hy
    · rcases List.mem_append.1 hy with hy | hy
      · obtain ⟨h1, h2⟩ := goL_can f _ ms a (ndL_ok h (by omega)).1 (by simp only [ndL]; omega) y hy hi
        exact ⟨by rw [inI_kids h (by omega), h1]; rfl, by rw [h2, goL, step_left h (by omega) h1]⟩
      · obtain ⟨h1, h2⟩ := goL_can f _ ms a (ndR_ok h (by omega)).1 (by simp only [ndR]; omega) y hy hi
        exact ⟨by rw [inI_kids h (by omega), h1, Bool.or_true], by rw [h2, goL, step_right h (by omega) h1]⟩
    · rw [List.mem_singleton] at hy; subst hy
      have : (17 - y.d).toNat = f + 1 := by omega
      rw [this]; exact ⟨hi, rfl⟩
/-- A leaf's key behind punctures: as it was, if it is left. -/
theorem keyK_can {f : Nat} {x : Nd} (ms : List Int) (a : Int) (h : okH x) (hd : x.d = 17 - (f : Int)) : keyK (canL f x ms) a = if hasI (canL f x ms) a = true then (goL f x a).s else List.replicate 32 0 := by
  unfold keyK
  cases hf : (canL f x ms).find? (inI · a) with
  | none =>
    have : hasI (canL f x ms) a = false := by rw [hasI, List.any_eq_false]; exact fun y hy => List.find?_eq_none.1 hf y hy
    rw [this]; rfl
  | some y =>
    have hm := List.mem_of_find?_eq_some hf
    have hi : inI y a = true := by simpa using List.find?_some hf
    have : hasI (canL f x ms) a = true := by rw [hasI, List.any_eq_true]; exact ⟨y, hm, hi⟩
    rw [if_pos this]
    show (goL (17 - y.d).toNat y a).s = _
    rw [(goL_can f x ms a h hd y hm hi).2]
/-- How many of them a node has. -/
def nIn (x : Nd) (ms : List Int) : Nat := (ms.filter (inI x)).length
theorem nIn_kids {x : Nd} (ms : List Int) (h : okH x) (hd : x.d < 17) : nIn x ms = nIn (ndL x) ms + nIn (ndR x) ms := by
  unfold nIn
  induction ms with
  | nil => rfl
  | cons m ms ih =>
    rw [List.filter_cons, List.filter_cons, List.filter_cons]
    have hk := inI_kids (a := m) h hd
    by_cases hl : inI (ndL x) m = true
    · have hr := inI_one h hl hd
      rw [hl, Bool.true_or] at hk
      rw [if_pos hk, if_pos hl, if_neg (by simp [hr]), List.length_cons, List.length_cons, ih]; omega
    · have hl' : inI (ndL x) m = false := by simpa using hl
      rw [hl', Bool.false_or] at hk
      by_cases hr : inI (ndR x) m = true
      · rw [if_pos (by rw [hk]; exact hr), if_neg hl, if_pos hr, List.length_cons, List.length_cons, ih]; omega
      · rw [if_neg (by rw [hk]; exact hr), if_neg hl, if_neg hr, ih]
theorem nIn_zero {x : Nd} {ms : List Int} (h : ¬ ms.any (inI x) = true) : nIn x ms = 0 := by
  unfold nIn
  rw [List.length_eq_zero_iff, List.filter_eq_nil_iff]
  intro m hm hi
  exact h (List.any_eq_true.2 ⟨m, hm, hi⟩)
theorem nIn_pos {x : Nd} {ms : List Int} (h : ms.any (inI x) = true) : 1 ≤ nIn x ms := by
  unfold nIn
  obtain ⟨m, hm, hi⟩ := List.any_eq_true.1 h
  exact List.length_pos_of_mem (List.mem_filter.2 ⟨hm, hi⟩)
theorem nIn_leaf {x : Nd} (hd : x.d = 17) : ∀ {ms : List Int}, ms.Nodup → nIn x ms ≤ 1
  | [], _ => by simp [nIn]
  | m :: ms, hn => by
    rw [List.nodup_cons] at hn
    have ih := nIn_leaf hd hn.2
    unfold nIn at ih ⊢
    rw [List.filter_cons]
    by_cases hi : inI x m = true
    · have h0 : nIn x ms = 0 := nIn_zero (fun h => by
        obtain ⟨m', hm', hi'⟩ := List.any_eq_true.1 h
        have := leaf_one hd hi hi'
        subst this
        exact hn.1 hm')
      unfold nIn at h0
      rw [if_pos hi, List.length_cons, h0]; omega
    · rw [if_neg hi]; exact ih
/-- How many leaves are left. -/
theorem count_can : ∀ (f : Nat) (x : Nd) (ms : List Int), okH x → x.d = 17 - (f : Int) → ms.Nodup → countL (canL f x ms) = manyI x.d - (nIn x ms : Int)
  | 0, x, ms, h, hd, hn => by
    have hm : manyI x.d = 1 := by rw [show x.d = 17 by omega]; rfl
    unfold canL
    by_cases ha : ms.any (inI x) = true
    · have h1 := nIn_pos ha
      have h2 := nIn_leaf (x := x) (by omega) hn
      rw [if_pos ha, hm, countL]; omega
    · rw [if_neg ha, nIn_zero ha, countL, countL]; omega
  | f + 1, x, ms, h, hd, hn => by
    unfold canL
    by_cases ha : ms.any (inI x) = true
    · obtain ⟨h1, _, h3⟩ := ndL_ok h (by omega)
      obtain ⟨h2, _⟩ := ndR_ok h (by omega)
      have e1 : (ndL x).d = x.d + 1 := rfl
      have e2 : (ndR x).d = x.d + 1 := rfl
      have il := count_can f _ ms h1 (by simp only [ndL]; omega) hn
      have ir := count_can f _ ms h2 (by simp only [ndR]; omega) hn
      rw [if_pos ha, countL_append, il, ir, nIn_kids ms h (by omega), e1, e2]; omega
    · rw [if_neg ha, nIn_zero ha, countL, countL]; omega
theorem length_can : ∀ (f : Nat) (x : Nd) (ms : List Int), okH x → x.d = 17 - (f : Int) → (canL f x ms).length ≤ nIn x ms * f + 1
  | 0, x, ms, h, hd => by unfold canL; split <;> simp
  | f + 1, x, ms, h, hd => by
    unfold canL
    by_cases ha : ms.any (inI x) = true
    · have il := length_can f _ ms (ndL_ok h (by omega)).1 (by simp only [ndL]; omega)
      have ir := length_can f _ ms (ndR_ok h (by omega)).1 (by simp only [ndR]; omega)
      have hp := nIn_pos ha
      rw [if_pos ha, List.length_append]
      rw [nIn_kids ms h (by omega)] at hp ⊢
      rw [Nat.mul_succ, Nat.add_mul]; omega
    · rw [if_neg ha]; simp
/-- One tree is punctured: what becomes of it, and of another one beside it. -/
theorem pun_one {w w' : World} {g N : Nat} {l : List Nd} {m : Int} {F : Nat → Prop} (h : ∃ F', Tr w' g (punL l m) F' ∧ But F w w' ∧ ∀ k, F' k → F k ∨ w.heap.size ≤ k) (hF : ∀ q, F q → N ≤ q) (hN : N ≤ w.heap.size) :
    ∃ F', Tr w' g (punL l m) F' ∧ (∀ q, F' q → N ≤ q) ∧ Below N w w' := by
  obtain ⟨F', h1, h2, h3⟩ := h
  exact ⟨F', h1, fun q hq => by rcases h3 q hq with h | h; exact hF q h; omega, but_belowF h2 hF hN⟩
theorem pun_two {w w' : World} {g g2 N : Nat} {l l2 : List Nd} {m : Int} {F G : Nat → Prop} (h : ∃ F', Tr w' g (punL l m) F' ∧ But F w w' ∧ ∀ k, F' k → F k ∨ w.heap.size ≤ k) (hB : Tr w g2 l2 G) (hd : ∀ q, F q → G q → False) (hF : ∀ q, F q → N ≤ q) (hN : N ≤ w.heap.size) :
    ∃ F', Tr w' g (punL l m) F' ∧ Tr w' g2 l2 G ∧ (∀ q, F' q → G q → False) ∧ (∀ q, F' q → N ≤ q) ∧ Below N w w' := by
  obtain ⟨F', h1, h2, h3⟩ := h
  refine ⟨F', h1, hB.but h2 (fun q hG hFq => hd q hFq hG), fun q hq hG => ?_, fun q hq => by rcases h3 q hq with h | h; exact hF q h; omega, but_belowF h2 hF hN⟩
  rcases h3 q hq with h | h
  · exact hd q h hG
  · have := hB.lt q hG; omega
end Go.Proofs.Ytkfcllcdkgnfbaa.Kt
