/-
  Texts of this seat, one behind the other: KgCan, KcTopAw, KcLit, KgMap, Open, OpenA.
-/
import Derived.Deep.RegionHeld
import Derived.Maps.RangeWalk
import Derived.Maps.OwnSet
import Derived.Deep.Slices
import Derived.OpenShut
import Derived.ProofKit
import Derived.Test.YtippbjpodnnhiaaDoorDk9
/-
  What is held behind punctures, by definition: a node that has none of them, or what its halves have. No program.
-/
namespace Go.Proofs.YtippbjpodnnhiaaDoor.Kg
open Go.RowKit
variable {ci : Ciph}
/-- What is held of a node behind punctures. -/
def canL (ci : Ciph) : Nat → Nd → List Int → List Nd
  | 0, x, ms => if ms.any (inI x) then [] else [x]
  | f + 1, x, ms => if ms.any (inI x) then canL ci f (ndL ci x) ms ++ canL ci f (ndR ci x) ms else [x]
theorem inI_kids {x : Nd} {a : Int} (h : okH x) (hd : x.d < 17) : inI x a = (inI (ndL ci x) a || inI (ndR ci x) a) := by
  obtain ⟨h1, h2, h3⟩ := ndL_ok (ci := ci) h hd
  obtain ⟨h4, h5⟩ := ndR_ok (ci := ci) h hd
  have e1 : (ndL ci x).d = x.d + 1 := rfl
  have e2 : (ndR ci x).d = x.d + 1 := rfl
  have hp := (manyI_ok (d := x.d + 1) (by have := h.1; omega) (by omega)).2
  rw [Bool.eq_iff_iff, Bool.or_eq_true, inI_iff, inI_iff, inI_iff, h2, h5, e1, e2]
  omega
theorem inI_one {x : Nd} {a : Int} (h : okH x) (hd : inI (ndL ci x) a = true) (h17 : x.d < 17) : inI (ndR ci x) a = false := by
  obtain ⟨h1, h2, h3⟩ := ndL_ok (ci := ci) h h17
  obtain ⟨h4, h5⟩ := ndR_ok (ci := ci) h h17
  have e1 : (ndL ci x).d = x.d + 1 := rfl
  have e2 : (ndR ci x).d = x.d + 1 := rfl
  rw [inI_iff, h2, e1] at hd
  rw [inI_not, h5]; omega
theorem any_kids {x : Nd} {ms : List Int} (h : okH x) (hd : x.d < 17) : ms.any (inI x) = (ms.any (inI (ndL ci x)) || ms.any (inI (ndR ci x))) := by
  rw [Bool.eq_iff_iff, Bool.or_eq_true, List.any_eq_true, List.any_eq_true, List.any_eq_true]
  constructor
  · rintro ⟨m, hm, hi⟩
    rw [inI_kids (ci := ci) h hd, Bool.or_eq_true] at hi
    rcases hi with hi | hi
    · exact .inl ⟨m, hm, hi⟩
    · exact .inr ⟨m, hm, hi⟩
  · rintro (⟨m, hm, hi⟩ | ⟨m, hm, hi⟩)
    · exact ⟨m, hm, by rw [inI_kids (ci := ci) h hd, hi]; rfl⟩
    · exact ⟨m, hm, by rw [inI_kids (ci := ci) h hd, hi, Bool.or_true]⟩
theorem canL_none {f : Nat} {x : Nd} {ms : List Int} (h : ms.any (inI x) = false) : canL ci f x ms = [x] := by
  cases f <;> (unfold canL; rw [if_neg (by simp [h])])
theorem any_snoc (x : Nd) (ms : List Int) (m : Int) : (ms ++ [m]).any (inI x) = (ms.any (inI x) || inI x m) := by
  rw [List.any_append]; simp
theorem punL_one (f : Nat) (x : Nd) (m : Int) (hd : x.d = 17 - (f : Int)) : punL ci [x] m = woL ci f x m := by
  have : (17 - x.d).toNat = f := by omega
  rw [punL, List.flatMap_cons, this]; simp
theorem punL_can : ∀ (f : Nat) (x : Nd) (ms : List Int) (m : Int), okH x → x.d = 17 - (f : Int) → punL ci (canL ci f x ms) m = canL ci f x (ms ++ [m])
  | 0, x, ms, m, h, hd => by
    unfold canL
    rw [any_snoc]
    by_cases ha : ms.any (inI x) = true
    · rw [if_pos ha, ha, Bool.true_or, if_pos rfl]; rfl
    · rw [if_neg ha, punL_one (ci := ci) 0 x m hd, woL]
      have ha' : ms.any (inI x) = false := by simpa using ha
      rw [ha', Bool.false_or]
  | f + 1, x, ms, m, h, hd => by
    obtain ⟨h1, _⟩ := ndL_ok (ci := ci) h (by omega)
    obtain ⟨h2, _⟩ := ndR_ok (ci := ci) h (by omega)
    have il := punL_can f (ndL ci x) ms m h1 (by simp only [ndL]; omega)
    have ir := punL_can f (ndR ci x) ms m h2 (by simp only [ndR]; omega)
    unfold canL
    rw [any_snoc]
    by_cases ha : ms.any (inI x) = true
    · rw [if_pos ha, ha, Bool.true_or, if_pos rfl, punL_append, il, ir]
    · have ha' : ms.any (inI x) = false := by simpa using ha
      rw [if_neg ha, punL_one (ci := ci) (f + 1) x m hd, woL, ha', Bool.false_or]
      by_cases hi : inI x m = true
      · have hk := any_kids (ci := ci) (ms := ms) h (by omega)
        rw [ha'] at hk
        have hk' := hk.symm
        rw [Bool.or_eq_false_iff] at hk'
        rw [if_pos hi, if_pos hi, ← il, ← ir, canL_none (ci := ci) hk'.1, canL_none (ci := ci) hk'.2, punL_one (ci := ci) f (ndL ci x) m (by simp only [ndL]; omega), punL_one (ci := ci) f (ndR ci x) m (by simp only [ndR]; omega)]
      · rw [if_neg hi, if_neg hi]
theorem punAll_can (x : Nd) (hx : okH x) (f : Nat) (hd : x.d = 17 - (f : Int)) : ∀ (bs us : List Int), punAll ci (canL ci f x us) bs = canL ci f x (us ++ bs)
  | [], us => by simp [punAll]
  | b :: bs, us => by
    have h := punAll_can x hx f hd bs (us ++ [b])
    show punAll ci (punL ci (canL ci f x us) b) bs = _
    rw [punL_can (ci := ci) f x us b hx hd, h]
    simp
theorem any_congr {x : Nd} {ms ms' : List Int} (h : ∀ m, m ∈ ms ↔ m ∈ ms') : ms.any (inI x) = ms'.any (inI x) := by
  rw [Bool.eq_iff_iff, List.any_eq_true, List.any_eq_true]
  constructor
  · rintro ⟨m, hm, hi⟩; exact ⟨m, (h m).1 hm, hi⟩
  · rintro ⟨m, hm, hi⟩; exact ⟨m, (h m).2 hm, hi⟩
theorem can_congr : ∀ (f : Nat) (x : Nd) {ms ms' : List Int}, (∀ m, m ∈ ms ↔ m ∈ ms') → canL ci f x ms = canL ci f x ms'
  | 0, x, _, _, h => by unfold canL; rw [any_congr h]
  | f + 1, x, _, _, h => by unfold canL; rw [any_congr h, can_congr f _ h, can_congr f _ h]
/-- The root, behind punctures. -/
theorem punAll_root {s : List UInt8} (hs : s.length = 32) (ms : List Int) : punAll ci [⟨0, 0, s⟩] ms = canL ci 17 ⟨0, 0, s⟩ ms := by
  have h := punAll_can (ci := ci) ⟨0, 0, s⟩ (okS_root hs).1 17 rfl ms []
  rw [canL_none (ci := ci) (by rfl)] at h
  exact h
theorem can_mem_ok : ∀ (f : Nat) (x : Nd) (ms : List Int), okH x → x.d = 17 - (f : Int) → ∀ y ∈ canL ci f x ms, okH y
  | 0, x, ms, h, _, y, hy => by
    unfold canL at hy; split at hy
    · simp at hy
    · rw [List.mem_singleton] at hy; rw [hy]; exact h
  | f + 1, x, ms, h, hd, y, hy => by
    unfold canL at hy; split at hy
    · rcases List.mem_append.1 hy with hy | hy
      · exact can_mem_ok f _ ms (ndL_ok (ci := ci) h (by omega)).1 (by simp only [ndL]; omega) y hy
      · exact can_mem_ok f _ ms (ndR_ok (ci := ci) h (by omega)).1 (by simp only [ndR]; omega) y hy
    · rw [List.mem_singleton] at hy; rw [hy]; exact h
theorem leaf_one {x : Nd} {a m : Int} (hd : x.d = 17) (h1 : inI x a = true) (h2 : inI x m = true) : a = m := by
  have : manyI x.d = 1 := by rw [hd]; rfl
  rw [inI_iff, this] at h1 h2
  omega
theorem hasI_append (a b : List Nd) (m : Int) : hasI (a ++ b) m = (hasI a m || hasI b m) := by simp [hasI]
theorem hasI_single (x : Nd) (m : Int) : hasI [x] m = inI x m := by simp [hasI]
/-- Which leaves are left. -/
theorem hasI_can : ∀ (f : Nat) (x : Nd) (ms : List Int) (a : Int), okH x → x.d = 17 - (f : Int) → hasI (canL ci f x ms) a = (inI x a && !decide (a ∈ ms))
  | 0, x, ms, a, h, hd => by
    unfold canL
    by_cases ha : ms.any (inI x) = true
    · rw [if_pos ha]
      obtain ⟨m, hm, hi⟩ := List.any_eq_true.1 ha
      by_cases hx : inI x a = true
      · have := leaf_one (by omega) hx hi
        subst this
        rw [hx, decide_eq_true hm]; rfl
      · have hx' : inI x a = false := by simpa using hx
        rw [hx']; rfl
    · rw [if_neg ha, hasI_single]
      by_cases hx : inI x a = true
      · have hn : a ∉ ms := fun hm => ha (List.any_eq_true.2 ⟨a, hm, hx⟩)
        rw [hx, decide_eq_false hn]; rfl
      · have hx' : inI x a = false := by simpa using hx
        rw [hx']; rfl
  | f + 1, x, ms, a, h, hd => by
    unfold canL
    by_cases ha : ms.any (inI x) = true
    · rw [if_pos ha, hasI_append, hasI_can f _ ms a (ndL_ok (ci := ci) h (by omega)).1 (by simp only [ndL]; omega), hasI_can f _ ms a (ndR_ok (ci := ci) h (by omega)).1 (by simp only [ndR]; omega), inI_kids (ci := ci) h (by omega)]
      cases inI (ndL ci x) a <;> cases inI (ndR ci x) a <;> simp
    · rw [if_neg ha, hasI_single]
      by_cases hx : inI x a = true
      · have hn : a ∉ ms := fun hm => ha (List.any_eq_true.2 ⟨a, hm, hx⟩)
        rw [hx, decide_eq_false hn]; rfl
      · have hx' : inI x a = false := by simpa using hx
        rw [hx']; rfl
theorem step_left {x : Nd} {a : Int} (h : okH x) (hd : x.d < 17) (hi : inI (ndL ci x) a = true) : stepK ci x a = ndL ci x := by
  have hr := inI_one (ci := ci) h hi hd
  obtain ⟨h4, h5⟩ := ndR_ok (ci := ci) h hd
  obtain ⟨_, h2, _⟩ := ndL_ok (ci := ci) h hd
  have e1 : (ndL ci x).d = x.d + 1 := rfl
  rw [inI_iff, h2, e1] at hi
  have e : (ndR ci x).a = IntKind.u64.wrap (x.a + manyI (x.d + 1)) := rfl
  unfold stepK
  rw [← e, h5, if_neg (by omega)]
theorem step_right {x : Nd} {a : Int} (h : okH x) (hd : x.d < 17) (hi : inI (ndR ci x) a = true) : stepK ci x a = ndR ci x := by
  obtain ⟨h4, h5⟩ := ndR_ok (ci := ci) h hd
  rw [inI_iff, h5] at hi
  have e : (ndR ci x).a = IntKind.u64.wrap (x.a + manyI (x.d + 1)) := rfl
  unfold stepK
  rw [← e, h5, if_pos (by omega)]
/-- Each node that is held leads to the same keys. -/
theorem goL_can : ∀ (f : Nat) (x : Nd) (ms : List Int) (a : Int), okH x → x.d = 17 - (f : Int) → ∀ y ∈ canL ci f x ms, inI y a = true → inI x a = true ∧ goL ci (17 - y.d).toNat y a = goL ci f x a
  | 0, x, ms, a, h, hd, y, hy, hi => by
    unfold canL at hy; split at hy
    · simp at hy
    · rw [List.mem_singleton] at hy; subst hy
      have : (17 - y.d).toNat = 0 := by omega
      rw [this]; exact ⟨hi, rfl⟩
  | f + 1, x, ms, a, h, hd, y, hy, hi => by
    unfold canL at hy; split at hy
    · rcases List.mem_append.1 hy with hy | hy
      · obtain ⟨h1, h2⟩ := goL_can f _ ms a (ndL_ok (ci := ci) h (by omega)).1 (by simp only [ndL]; omega) y hy hi
        exact ⟨by rw [inI_kids (ci := ci) h (by omega), h1]; rfl, by rw [h2, goL, step_left (ci := ci) h (by omega) h1]⟩
      · obtain ⟨h1, h2⟩ := goL_can f _ ms a (ndR_ok (ci := ci) h (by omega)).1 (by simp only [ndR]; omega) y hy hi
        exact ⟨by rw [inI_kids (ci := ci) h (by omega), h1, Bool.or_true], by rw [h2, goL, step_right (ci := ci) h (by omega) h1]⟩
    · rw [List.mem_singleton] at hy; subst hy
      have : (17 - y.d).toNat = f + 1 := by omega
      rw [this]; exact ⟨hi, rfl⟩
/-- A leaf's key behind punctures: as it was, if it is left. -/
theorem keyK_can {f : Nat} {x : Nd} (ms : List Int) (a : Int) (h : okH x) (hd : x.d = 17 - (f : Int)) : keyK ci (canL ci f x ms) a = if hasI (canL ci f x ms) a = true then (goL ci f x a).s else List.replicate 32 0 := by
  unfold keyK
  cases hf : (canL ci f x ms).find? (inI · a) with
  | none =>
    have : hasI (canL ci f x ms) a = false := by rw [hasI, List.any_eq_false]; exact fun y hy => List.find?_eq_none.1 hf y hy
    rw [this]; rfl
  | some y =>
    have hm := List.mem_of_find?_eq_some hf
    have hi : inI y a = true := by simpa using List.find?_some hf
    have : hasI (canL ci f x ms) a = true := by rw [hasI, List.any_eq_true]; exact ⟨y, hm, hi⟩
    rw [if_pos this]
    show (goL ci (17 - y.d).toNat y a).s = _
    rw [(goL_can (ci := ci) f x ms a h hd y hm hi).2]
/-- How many of them a node has. -/
def nIn (x : Nd) (ms : List Int) : Nat := (ms.filter (inI x)).length
theorem nIn_kids {x : Nd} (ms : List Int) (h : okH x) (hd : x.d < 17) : nIn x ms = nIn (ndL ci x) ms + nIn (ndR ci x) ms := by
  unfold nIn
  induction ms with
  | nil => rfl
  | cons m ms ih =>
    rw [List.filter_cons, List.filter_cons, List.filter_cons]
    have hk := inI_kids (ci := ci) (a := m) h hd
    by_cases hl : inI (ndL ci x) m = true
    · have hr := inI_one (ci := ci) h hl hd
      rw [hl, Bool.true_or] at hk
      rw [if_pos hk, if_pos hl, if_neg (by simp [hr]), List.length_cons, List.length_cons, ih]; omega
    · have hl' : inI (ndL ci x) m = false := by simpa using hl
      rw [hl', Bool.false_or] at hk
      by_cases hr : inI (ndR ci x) m = true
      · rw [if_pos (by rw [hk]; exact hr), if_neg hl, if_pos hr, List.length_cons, List.length_cons, ih]; omega
      · rw [if_neg (by rw [hk]; exact hr), if_neg hl, if_neg hr, ih]
theorem nIn_zero {x : Nd} {ms : List Int} (h : ¬ ms.any (inI x) = true) : nIn x ms = 0 := by
  unfold nIn
  rw [List.length_eq_zero_iff, List.filter_eq_nil_iff]
  intro m hm hi
  exact h (List.any_eq_true.2 ⟨m, hm, hi⟩)
theorem nIn_pos {x : Nd} {ms : List Int} (h : ms.any (inI x) = true) : 1 ≤ nIn x ms := by
  unfold nIn
  obtain ⟨m, hm, hi⟩ := List.any_eq_true.1 h
  exact List.length_pos_of_mem (List.mem_filter.2 ⟨hm, hi⟩)
theorem nIn_leaf {x : Nd} (hd : x.d = 17) : ∀ {ms : List Int}, ms.Nodup → nIn x ms ≤ 1
  | [], _ => by simp [nIn]
  | m :: ms, hn => by
    rw [List.nodup_cons] at hn
    have ih := nIn_leaf hd hn.2
    unfold nIn at ih ⊢
    rw [List.filter_cons]
    by_cases hi : inI x m = true
    · have h0 : nIn x ms = 0 := nIn_zero (fun h => by
        obtain ⟨m', hm', hi'⟩ := List.any_eq_true.1 h
        have := leaf_one hd hi hi'
        subst this
        exact hn.1 hm')
      unfold nIn at h0
      rw [if_pos hi, List.length_cons, h0]; omega
    · rw [if_neg hi]; exact ih
/-- How many leaves are left. -/
theorem count_can : ∀ (f : Nat) (x : Nd) (ms : List Int), okH x → x.d = 17 - (f : Int) → ms.Nodup → countL (canL ci f x ms) = manyI x.d - (nIn x ms : Int)
  | 0, x, ms, h, hd, hn => by
    have hm : manyI x.d = 1 := by rw [show x.d = 17 by omega]; rfl
    unfold canL
    by_cases ha : ms.any (inI x) = true
    · have h1 := nIn_pos ha
      have h2 := nIn_leaf (x := x) (by omega) hn
      rw [if_pos ha, hm, countL]; omega
    · rw [if_neg ha, nIn_zero ha, countL, countL]; omega
  | f + 1, x, ms, h, hd, hn => by
    unfold canL
    by_cases ha : ms.any (inI x) = true
    · obtain ⟨h1, _, h3⟩ := ndL_ok (ci := ci) h (by omega)
      obtain ⟨h2, _⟩ := ndR_ok (ci := ci) h (by omega)
      have e1 : (ndL ci x).d = x.d + 1 := rfl
      have e2 : (ndR ci x).d = x.d + 1 := rfl
      have il := count_can f _ ms h1 (by simp only [ndL]; omega) hn
      have ir := count_can f _ ms h2 (by simp only [ndR]; omega) hn
      rw [if_pos ha, countL_append, il, ir, nIn_kids (ci := ci) ms h (by omega), e1, e2]; omega
    · rw [if_neg ha, nIn_zero ha, countL, countL]; omega
theorem length_can : ∀ (f : Nat) (x : Nd) (ms : List Int), okH x → x.d = 17 - (f : Int) → (canL ci f x ms).length ≤ nIn x ms * f + 1
  | 0, x, ms, h, hd => by unfold canL; split <;> simp
  | f + 1, x, ms, h, hd => by
    unfold canL
    by_cases ha : ms.any (inI x) = true
    · have il := length_can f _ ms (ndL_ok (ci := ci) h (by omega)).1 (by simp only [ndL]; omega)
      have ir := length_can f _ ms (ndR_ok (ci := ci) h (by omega)).1 (by simp only [ndR]; omega)
      have hp := nIn_pos ha
      rw [if_pos ha, List.length_append]
      rw [nIn_kids (ci := ci) ms h (by omega)] at hp ⊢
      rw [Nat.mul_succ, Nat.add_mul]; omega
    · rw [if_neg ha]; simp
/-- One tree is punctured: what becomes of it, and of another one beside it. -/
theorem pun_one {w w' : World} {g N : Nat} {l : List Nd} {m : Int} {F : Nat → Prop} (h : ∃ F', Tr ci w' g (punL ci l m) F' ∧ But F w w' ∧ ∀ k, F' k → F k ∨ w.heap.size ≤ k) (hF : ∀ q, F q → N ≤ q) (hN : N ≤ w.heap.size) :
    ∃ F', Tr ci w' g (punL ci l m) F' ∧ (∀ q, F' q → N ≤ q) ∧ Below N w w' := by
  obtain ⟨F', h1, h2, h3⟩ := h
  exact ⟨F', h1, fun q hq => by rcases h3 q hq with h | h; exact hF q h; omega, but_belowF h2 hF hN⟩
theorem pun_two {w w' : World} {g g2 N : Nat} {l l2 : List Nd} {m : Int} {F G : Nat → Prop} (h : ∃ F', Tr ci w' g (punL ci l m) F' ∧ But F w w' ∧ ∀ k, F' k → F k ∨ w.heap.size ≤ k) (hB : Tr ci w g2 l2 G) (hd : ∀ q, F q → G q → False) (hF : ∀ q, F q → N ≤ q) (hN : N ≤ w.heap.size) :
    ∃ F', Tr ci w' g (punL ci l m) F' ∧ Tr ci w' g2 l2 G ∧ (∀ q, F' q → G q → False) ∧ (∀ q, F' q → N ≤ q) ∧ Below N w w' := by
  obtain ⟨F', h1, h2, h3⟩ := h
  refine ⟨F', h1, hB.but h2 (fun q hG hFq => hd q hFq hG), fun q hq hG => ?_, fun q hq => by rcases h3 q hq with h | h; exact hF q h; omega, but_belowF h2 hF hN⟩
  rcases h3 q hq with h | h
  · exact hd q h hG
  · have := hB.lt q hG; omega
end Go.Proofs.YtippbjpodnnhiaaDoor.Kg
/-
  The whole-laws' example, awake: the real cipher's tree, its first leaf punctured.
-/
namespace Go.Proofs.YtippbjpodnnhiaaDoor.Kc
open Go.RowKit Kg
attribute [local go_sem ↓] Go.wp_at_zero Go.wp_at_succ
theorem wpList_execg {P : Program} {w w' : World} {ops : Array Oper} {rest : List Oper} {o : Oper} {a : Act} {Q : Exit → Act → World → Prop} {v : Value} (hgd : Region.wanted o (yielded ops a.tmps) = true)
    (h : (execOp a.eval o).run P w = .ok (.value v) w') (hk : wpList P ops Q rest (a.put o.dst v) w') : wpList P ops Q (o :: rest) a w := by
  unfold wpList
  rw [if_pos hgd]
  refine .inl ?_
  unfold Oper.wp
  rw [h]
  exact hk
def oneT : List UInt8 := 1 :: List.replicate 31 0
set_option maxRecDepth 100000 in
set_option maxHeartbeats 1600000 in
theorem topAwake_any (w : World) : Calls Tryd.prog 4 #[] w (RetB (.bool true) w) := by
  obtain ⟨s, hs⟩ : ∃ s, s = oneT := ⟨_, rfl⟩
  have HS : Hid (s.length = 32) := by show _ = _; rw [hs]; rfl
  have HBK := Lib.hid (show ∀ W, (Instr.build 23 #[(0, .int .u8 1)]).run Tryd.prog W = .ok (.agg (bva s)) W from fun _ => by rw [hs]; kernel_rfl)
  have HBR := Lib.hid (show ∀ W, (Instr.build 49 #[]).run Tryd.prog W = .ok (.agg #[]) W from fun _ => by kernel_rfl)
  have hr := (okS_root HS.out).1
  have hm0 : manyI 0 = 131072 := by decide
  have i0 : inI ⟨0, 0, s⟩ 0 = true := by rw [inI_iff]; refine ⟨by show (0 : Int) ≤ 0; omega, ?_⟩; show (0 : Int) < 0 + manyI 0; omega
  have i1 : inI ⟨0, 0, s⟩ 1 = true := by rw [inI_iff]; refine ⟨by show (0 : Int) ≤ 1; omega, ?_⟩; show (1 : Int) < 0 + manyI 0; omega
  obtain ⟨X, hX⟩ : ∃ X, X = canL realC 17 ⟨0, 0, s⟩ [0] := ⟨_, rfl⟩
  have hp : punL realC [⟨0, 0, s⟩] 0 = X := by rw [hX, ← punAll_root (ci := realC) HS.out, punAll, List.foldl_cons, List.foldl_nil]
  have g0 : hasI X 0 = false := by rw [hX, hasI_can 17 _ _ _ hr rfl]; simp
  have g1 : hasI X 1 = true := by rw [hX, hasI_can 17 _ _ _ hr rfl, i1]; decide
  have HI0 := Lib.hid (show hasI [⟨0, 0, s⟩] 0 = true by rw [hasI_single]; exact i0)
  have HP := Lib.hid hp
  have G0 := Lib.hid g0
  have G1 := Lib.hid g1
  clear hs hr hm0 i0 i1 hX hp g0 g1
  go_enter Tryd.func4, Tryd.ntmps4
  go_wp2_with (first
    | (refine wpList_build rfl 49 #[] rfl (v := .agg #[]) ?hbld ?_; case hbld => exact HBR.out _)
    | (refine wpList_build rfl 23 #[(0, .const (.int .u8 1))] rfl (v := .agg (bva s)) ?hbld ?_; case hbld => (simp only [List.map_toArray, List.map_cons, List.map_nil]; exact HBK.out _)))
  refine (new_any (ci := realC) s HS.out _).mono ?_
  rintro e w1 ⟨⟨g, F, rfl, ht, hF⟩, bw⟩
  have HT := Lib.hid ht
  have HF := Lib.hid hF
  have HB := Lib.hid bw
  clear ht hF bw
  go_wp2_with fail
  refine (thas_tr HT.out 0).mono ?_
  rintro e w2 ⟨rfl, bw⟩
  rw [HI0.out]
  have HT2 := Lib.hid (HT.out.below bw)
  have HB2 := Lib.hid (HB.out.trans (bw.mono HB.out.size))
  clear bw HT HB
  go_wp2_with fail
  refine (tpuncture_any g _ F 0 _ HT2.out).mono ?_
  rintro e w3 ⟨rfl, hq⟩
  obtain ⟨F3, ht, hF3, hb⟩ := pun_one hq HF.out HB2.out.size
  rw [HP.out] at ht
  have HT3 := Lib.hid ht
  have HB3 := Lib.hid (HB2.out.trans hb)
  clear hq ht hF3 hb HT2 HB2
  go_wp2_with fail
  refine (thas_tr HT3.out 0).mono ?_
  rintro e w4 ⟨rfl, bw⟩
  rw [G0.out]
  have HT4 := Lib.hid (HT3.out.below bw)
  have HB4 := Lib.hid (HB3.out.trans (bw.mono HB3.out.size))
  clear bw HT3 HB3
  go_wp2_with fail
  refine (thas_tr HT4.out 1).mono ?_
  rintro e w5 ⟨rfl, bw⟩
  rw [G1.out]
  have HB5 := Lib.hid (HB4.out.trans (bw.mono HB4.out.size))
  clear bw HT4 HB4
  go_wp2_with fail
  go_ret
  exact ⟨rfl, HB5.out⟩
end Go.Proofs.YtippbjpodnnhiaaDoor.Kc
/-
  The little cipher of layer 5's laws, as a cipher that a tree of keys is made of.
-/
namespace Go.Proofs.YtippbjpodnnhiaaDoor.Kc
open Go.RowKit Kg
attribute [local go_sem ↓] Go.wp_at_zero Go.wp_at_succ
def lftL (k : List UInt8) : List UInt8 := Ci.litL k 1099511627776
def rgtL (k : List UInt8) : List UInt8 := Ci.litL k 2199023255552
theorem lftL_length (k : List UInt8) : (lftL k).length = 32 := Ci.litL_length _ _
theorem rgtL_length (k : List UInt8) : (rgtL k).length = 32 := Ci.litL_length _ _
set_option maxRecDepth 100000 in
set_option maxHeartbeats 1600000 in
theorem litsplit_any (k : List UInt8) (hk : k.length = 32) (w : World) :
    Calls Tryd.prog 56 #[.agg (bva k)] w (RetB (.tuple #[.agg (bva (lftL k)), .agg (bva (rgtL k))]) w) := by
  obtain ⟨z, hz0⟩ : ∃ z : List UInt8, z = List.replicate 32 0 := ⟨_, rfl⟩
  obtain ⟨b1, b2, b3, hb⟩ := three_blocks w (.cells (bva k) 23) (.cells (bva z) 23) (.cells (bva z) 23)
  have hz : ∀ W, (zeroValue 23).run Tryd.prog W = .ok (.agg (bva z)) W := fun _ => by rw [hz0]; kernel_rfl
  have hy : ∀ W, (zeroValue 29).run Tryd.prog W = .ok (.agg (bva z)) W := fun _ => by rw [hz0]; kernel_rfl
  have Z3 : Hid (z.length = 32) := by show _ = _; rw [hz0]; rfl
  obtain ⟨p, hp⟩ : ∃ p, p = lftL k := ⟨_, rfl⟩
  obtain ⟨q, hq⟩ : ∃ q, q = rgtL k := ⟨_, rfl⟩
  have P3 : Hid (p.length = 32) := by show _ = _; rw [hp, lftL_length]
  have Q3 : Hid (q.length = 32) := by show _ = _; rw [hq, rgtL_length]
  have HIP : Hid ((Tryd.prog.info? 29).map (·.size) = some (bva p).size) := by rw [bva_size, P3.out]; exact Ci.info_blk
  have HIQ : Hid ((Tryd.prog.info? 29).map (·.size) = some (bva q).size) := by rw [bva_size, Q3.out]; exact Ci.info_blk
  have HKP : Hid ((Tryd.prog.info? 23).map (·.size) = some (bva p).size) := by rw [bva_size, P3.out]; exact info_keyL
  have HKQ : Hid ((Tryd.prog.info? 23).map (·.size) = some (bva q).size) := by rw [bva_size, Q3.out]; exact info_keyL
  have HCP := Lib.hid (show ∀ W, Calls Tryd.prog 57 #[.agg (bva k), .int .u64 1099511627776] W (RetB (.agg (bva p)) W) from fun W => by rw [hp]; exact Ci.litpad_any k hk _ W)
  have HCQ := Lib.hid (show ∀ W, Calls Tryd.prog 57 #[.agg (bva k), .int .u64 2199023255552] W (RetB (.agg (bva q)) W) from fun W => by rw [hq]; exact Ci.litpad_any k hk _ W)
  have HP := Lib.hid hp
  have HQ := Lib.hid hq
  have B1 := Lib.hid (show Blk _ _ _ _ from b1)
  have B2 := Lib.hid (show Blk _ _ _ _ from b2)
  have B3 := Lib.hid (show Blk _ _ _ _ from b3)
  have BB := Lib.hid hb
  have HI : Hid ((Tryd.prog.info? 23).map (·.size) = some (bva k).size) := by rw [bva_size, hk]; exact info_keyL
  clear hz0 b1 b2 b3 hb hk hp hq
  go_enter Tryd.func56, Tryd.ntmps56
  go_wp2_with (refine wpList_load_row rfl 23 (.tmp 1) rfl w.heap.size rfl 23 (bva k) (0, 0) _ ?hg Tryd.underlying23 rfl HI.out ?_; case hg => exact B1.out)
  refine (HCP.out _).mono ?_
  rintro e w2 ⟨rfl, bw⟩
  have C1 := Lib.hid (B1.out.below bw)
  have C2 := Lib.hid (B2.out.below bw)
  have C3 := Lib.hid (B3.out.below bw)
  have CB := Lib.hid (BB.out.trans (bw.mono BB.out.size))
  have hw2 : w.heap.size + 1 + 1 < w2.heap.size := C3.out.lt
  clear bw B1 B2 B3 BB
  go_wp2_with (first
    | (refine wpList_store_row rfl 29 (.tmp 4) (.tmp 7) rfl w2.heap.size (bva p) rfl rfl 29 (bva z) (heap_alloc_new _ _) HIP.out (by simp only [bva_size, P3.out, Z3.out]) (bva_one _) ?_
       generalize hwx : World.setRow _ _ _ = wx
       have e1 : Blk wx w.heap.size (bva k) 23 := by rw [← hwx]; exact blk_row (blk_oldL C1.out) (by omega)
       have e2 : Blk wx (w.heap.size + 1) (bva z) 23 := by rw [← hwx]; exact blk_row (blk_oldL C2.out) (by omega)
       have e3 : Blk wx (w.heap.size + 1 + 1) (bva z) 23 := by rw [← hwx]; exact blk_row (blk_oldL C3.out) (by omega)
       have ex : Blk wx w2.heap.size (bva p) 29 := by rw [← hwx]; exact setRow_heap _ _ _ _ _ _ (heap_alloc_new _ _)
       have eb : Below w.heap.size w wx := by rw [← hwx]; exact below_setRow (CB.out.alloc CB.out.size _) CB.out.size _
       have E1 := Lib.hid e1
       have E2 := Lib.hid e2
       have E3 := Lib.hid e3
       have EX := Lib.hid ex
       have EB := Lib.hid eb
       clear hwx e1 e2 e3 ex eb C1 C2 C3 CB)
    | (refine wpList_load_row rfl 23 (.tmp 1) rfl w.heap.size rfl 23 (bva k) (0, 0) _ ?hg Tryd.underlying23 rfl HI.out ?_; case hg => exact E1.out))
  refine (HCQ.out _).mono ?_
  rintro e w3 ⟨rfl, bw⟩
  have D1 := Lib.hid (E1.out.below bw)
  have D2 := Lib.hid (E2.out.below bw)
  have D3 := Lib.hid (E3.out.below bw)
  have DX := Lib.hid (EX.out.below bw)
  have DB := Lib.hid (EB.out.trans (bw.mono EB.out.size))
  have hw3 : w2.heap.size < w3.heap.size := DX.out.lt
  clear bw E1 E2 E3 EX EB
  go_wp2_with (first
    | (refine wpList_store_row rfl 29 (.tmp 5) (.tmp 9) rfl w3.heap.size (bva q) rfl rfl 29 (bva z) (heap_alloc_new _ _) HIQ.out (by simp only [bva_size, Q3.out, Z3.out]) (bva_one _) ?_
       generalize hwy : World.setRow _ _ _ = wy
       have e2 : Blk wy (w.heap.size + 1) (bva z) 23 := by rw [← hwy]; exact blk_row (blk_oldL D2.out) (by omega)
       have e3 : Blk wy (w.heap.size + 1 + 1) (bva z) 23 := by rw [← hwy]; exact blk_row (blk_oldL D3.out) (by omega)
       have ex : Blk wy w2.heap.size (bva p) 29 := by rw [← hwy]; exact blk_row (blk_oldL DX.out) (by omega)
       have ey : Blk wy w3.heap.size (bva q) 29 := by rw [← hwy]; exact setRow_heap _ _ _ _ _ _ (heap_alloc_new _ _)
       have eb : Below w.heap.size w wy := by rw [← hwy]; exact below_setRow (DB.out.alloc DB.out.size _) DB.out.size _
       have HS := Lib.hid (show Blk wy.drew (w.heap.size + 1) (bva z) 23 ∧ Blk wy.drew (w.heap.size + 1 + 1) (bva z) 23 ∧ Blk wy.drew w2.heap.size (bva p) 29 ∧ Blk wy.drew w3.heap.size (bva q) 29 ∧ Below w.heap.size w wy.drew from ⟨e2, e3, ex, ey, eb.drew⟩)
       clear hwy e2 e3 ex ey eb D1 D2 D3 DX DB))
  refine wp_region_held_drew (S := fun w' => (∃ l : List UInt8, l.length = 32 ∧ Blk w' (w.heap.size + 1) (bva l) 23) ∧ (∃ l : List UInt8, l.length = 32 ∧ Blk w' (w.heap.size + 1 + 1) (bva l) 23) ∧ Blk w' w2.heap.size (bva p) 29 ∧ Blk w' w3.heap.size (bva q) 29 ∧ Below w.heap.size w w') (by kernel_rfl) ⟨⟨z, Z3.out, HS.out.1⟩, ⟨z, Z3.out, HS.out.2.1⟩, HS.out.2.2⟩ (fun hh => ?_)
  have HH := Lib.hid hh
  clear hh
  refine wpAnyH_take (i := 0) (v := .agg (bva p)) rfl (by kernel_rfl) (by kernel_rfl) (by kernel_rfl) (fun _ _ _ h => h) (Or.inl ⟨by rfl, fun w' hw' => ?q0⟩) HH.out ?_
  case q0 => exact exec_load 29 (.tmp 4) rfl rfl hw'.2.2.1 Tryd.underlying29 rfl HIP.out
  refine wpAnyH_take (i := 1) (v := .agg (bva q)) rfl (by kernel_rfl) (by kernel_rfl) (by kernel_rfl) (fun _ _ _ h => h) (Or.inl ⟨by rfl, fun w' hw' => ?q1⟩) HH.out ?_
  case q1 => exact exec_load 29 (.tmp 5) rfl rfl hw'.2.2.2.1 Tryd.underlying29 rfl HIQ.out
  refine wpAnyH_ready (rs := [2]) (by kernel_rfl) (by simp) (AllReadyH.cons rfl (fun K hK => ?_) AllReadyH.nil)
  rw [if_pos (by rfl)]
  refine wp_store_row 23 (.tmp 2) (.tmp 10) rfl (w.heap.size + 1) (bva p) rfl rfl 23 (bva z) HS.out.1 HKP.out (by simp only [bva_size, P3.out, Z3.out]) (bva_one _) ?_
  have u1 : Blk (wy.drew.setRow (w.heap.size + 1) (bva p)) (w.heap.size + 1) (bva p) 23 := setRow_heap _ _ _ _ _ _ HS.out.1
  have u2 : Blk (wy.drew.setRow (w.heap.size + 1) (bva p)) (w.heap.size + 1 + 1) (bva z) 23 := blk_row HS.out.2.1 (by omega)
  have u3 : Blk (wy.drew.setRow (w.heap.size + 1) (bva p)) w2.heap.size (bva p) 29 := blk_row HS.out.2.2.1 (by omega)
  have u4 : Blk (wy.drew.setRow (w.heap.size + 1) (bva p)) w3.heap.size (bva q) 29 := blk_row HS.out.2.2.2.1 (by omega)
  have ub : Below w.heap.size w (wy.drew.setRow (w.heap.size + 1) (bva p)) := below_setRow HS.out.2.2.2.2 (by omega) _
  refine hK.out _ _ ⟨⟨p, P3.out, u1⟩, ⟨z, Z3.out, u2⟩, u3, u4, ub⟩ (fun _ => ?_)
  generalize hw6 : wy.drew.setRow _ _ = w6
  rw [hw6] at u1 u2 u3 u4 ub
  have U1 := Lib.hid u1
  have U2 := Lib.hid u2
  have U3 := Lib.hid u3
  have U4 := Lib.hid u4
  have UB := Lib.hid ub
  clear u1 u2 u3 u4 ub hw6 hK K HH HS
  refine wpAnyH_ready (rs := [3]) (by kernel_rfl) (by simp) (AllReadyH.cons rfl (fun K hK => ?_) AllReadyH.nil)
  rw [if_pos (by rfl)]
  refine wp_store_row 23 (.tmp 3) (.tmp 11) rfl (w.heap.size + 1 + 1) (bva q) rfl rfl 23 (bva z) U2.out HKQ.out (by simp only [bva_size, Q3.out, Z3.out]) (bva_one _) ?_
  have v1 : Blk (w6.setRow (w.heap.size + 1 + 1) (bva q)) (w.heap.size + 1) (bva p) 23 := blk_row U1.out (by omega)
  have v2 : Blk (w6.setRow (w.heap.size + 1 + 1) (bva q)) (w.heap.size + 1 + 1) (bva q) 23 := setRow_heap _ _ _ _ _ _ U2.out
  have v3 : Blk (w6.setRow (w.heap.size + 1 + 1) (bva q)) w2.heap.size (bva p) 29 := blk_row U3.out (by omega)
  have v4 : Blk (w6.setRow (w.heap.size + 1 + 1) (bva q)) w3.heap.size (bva q) 29 := blk_row U4.out (by omega)
  have vb : Below w.heap.size w (w6.setRow (w.heap.size + 1 + 1) (bva q)) := below_setRow UB.out (by omega) _
  refine hK.out _ _ ⟨⟨p, P3.out, v1⟩, ⟨q, Q3.out, v2⟩, v3, v4, vb⟩ (fun _ => ?_)
  have V1 := Lib.hid v1
  have V2 := Lib.hid v2
  have VB := Lib.hid vb
  clear v1 v2 v3 v4 vb U1 U2 U3 U4 UB hK K
  refine wpAnyH_done (by kernel_rfl) ?_ _
  go_wp2
  exact bodyPost_ret (v := .tuple #[.agg (bva p), .agg (bva q)]) (results_cells2 Tryd.results56 _ _ (w.heap.size + 1) (w.heap.size + 1 + 1) 23 23 (bva p) (bva q) _ rfl rfl V1.out V2.out Tryd.underlying23 rfl HKP.out HKQ.out) rfl ⟨by rw [HP.out, HQ.out], VB.out⟩
set_option maxRecDepth 100000 in
set_option maxHeartbeats 1600000 in
theorem lits_any (X : Array Value) (k : List UInt8) (hk : k.length = 32) (w : World) :
    Calls Tryd.prog 55 #[.agg X, .agg (bva k)] w (RetB (.tuple #[.agg (bva (lftL k)), .agg (bva (rgtL k))]) w) := by
  obtain ⟨z, hz0⟩ : ∃ z : List UInt8, z = List.replicate 32 0 := ⟨_, rfl⟩
  obtain ⟨b1, b2, b3, b4, hb⟩ := four_blocks w (.cells X 31) (.cells (bva k) 23) (.cells (bva z) 23) (.cells (bva z) 23)
  have hz : ∀ W, (zeroValue 23).run Tryd.prog W = .ok (.agg (bva z)) W := fun _ => by rw [hz0]; kernel_rfl
  have Z3 : Hid (z.length = 32) := by show _ = _; rw [hz0]; rfl
  obtain ⟨p, hp⟩ : ∃ p, p = lftL k := ⟨_, rfl⟩
  obtain ⟨q, hq⟩ : ∃ q, q = rgtL k := ⟨_, rfl⟩
  have P3 : Hid (p.length = 32) := by show _ = _; rw [hp, lftL_length]
  have Q3 : Hid (q.length = 32) := by show _ = _; rw [hq, rgtL_length]
  have HKP : Hid ((Tryd.prog.info? 23).map (·.size) = some (bva p).size) := by rw [bva_size, P3.out]; exact info_keyL
  have HKQ : Hid ((Tryd.prog.info? 23).map (·.size) = some (bva q).size) := by rw [bva_size, Q3.out]; exact info_keyL
  have HCS := Lib.hid (show ∀ W, Calls Tryd.prog 56 #[.agg (bva k)] W (RetB (.tuple #[.agg (bva p), .agg (bva q)]) W) from fun W => by rw [hp, hq]; exact litsplit_any k hk W)
  have HP := Lib.hid hp
  have HQ := Lib.hid hq
  have B2 := Lib.hid (show Blk _ _ _ _ from b2)
  have B3 := Lib.hid (show Blk _ _ _ _ from b3)
  have B4 := Lib.hid (show Blk _ _ _ _ from b4)
  have BB := Lib.hid hb
  have HI : Hid ((Tryd.prog.info? 23).map (·.size) = some (bva k).size) := by rw [bva_size, hk]; exact info_keyL
  clear hz0 b1 b2 b3 b4 hb hk hp hq
  go_enter Tryd.func55, Tryd.ntmps55
  go_wp2_with (refine wpList_load_row rfl 23 (.tmp 3) rfl (w.heap.size + 1) rfl 23 (bva k) (0, 0) _ ?hg Tryd.underlying23 rfl HI.out ?_; case hg => exact B2.out)
  refine (HCS.out _).mono ?_
  rintro e w2 ⟨rfl, bw⟩
  have C3 := Lib.hid (B3.out.below bw)
  have C4 := Lib.hid (B4.out.below bw)
  have CB := Lib.hid (BB.out.trans (bw.mono BB.out.size))
  have hw2 : w.heap.size + 1 + 1 + 1 < w2.heap.size := C4.out.lt
  clear bw B2 B3 B4 BB
  go_wp2_with (first
    | (refine wpList_store_row rfl 23 (.tmp 4) (.tmp 8) rfl (w.heap.size + 1 + 1) (bva p) rfl rfl 23 (bva z) C3.out HKP.out (by simp only [bva_size, P3.out, Z3.out]) (bva_one _) ?_
       generalize hwx : World.setRow _ _ _ = wx
       have e3 : Blk wx (w.heap.size + 1 + 1) (bva p) 23 := by rw [← hwx]; exact setRow_heap _ _ _ _ _ _ C3.out
       have e4 : Blk wx (w.heap.size + 1 + 1 + 1) (bva z) 23 := by rw [← hwx]; exact blk_row C4.out (by omega)
       have eb : Below w.heap.size w wx := by rw [← hwx]; exact below_setRow CB.out (by omega) _
       have E3 := Lib.hid e3
       have E4 := Lib.hid e4
       have EB := Lib.hid eb
       clear hwx e3 e4 eb C3 C4 CB)
    | (refine wpList_store_row rfl 23 (.tmp 5) (.tmp 9) rfl (w.heap.size + 1 + 1 + 1) (bva q) rfl rfl 23 (bva z) E4.out HKQ.out (by simp only [bva_size, Q3.out, Z3.out]) (bva_one _) ?_
       generalize hwy : World.setRow _ _ _ = wy
       have e3 : Blk wy (w.heap.size + 1 + 1) (bva p) 23 := by rw [← hwy]; exact blk_row E3.out (by omega)
       have e4 : Blk wy (w.heap.size + 1 + 1 + 1) (bva q) 23 := by rw [← hwy]; exact setRow_heap _ _ _ _ _ _ E4.out
       have eb : Below w.heap.size w wy := by rw [← hwy]; exact below_setRow EB.out (by omega) _
       have V1 := Lib.hid e3
       have V2 := Lib.hid e4
       have VB := Lib.hid eb
       clear hwy e3 e4 eb E3 E4 EB))
  exact bodyPost_ret (v := .tuple #[.agg (bva p), .agg (bva q)]) (results_cells2 Tryd.results55 _ _ (w.heap.size + 1 + 1) (w.heap.size + 1 + 1 + 1) 23 23 (bva p) (bva q) _ rfl rfl V1.out V2.out Tryd.underlying23 rfl HKP.out HKQ.out) rfl ⟨by rw [HP.out, HQ.out], VB.out⟩
theorem lit_method (x : Array Value) (fuel : Nat) (W : World) : (method (fuel + 1) 31 (.agg x) "Split").run Tryd.prog W = .ok (55, .agg x) W := by kernel_rfl
theorem lit_calls (args : Array Value) (W : World) : (callFunc 55 args).run Tryd.prog W = .ok (.enter 55 args) W := by kernel_rfl
/-- The cells of a Lit that nobody has filled. -/
def zeroLit : Array Value := bva (List.replicate 32 0) ++ #[.int .u64 0] ++ bva (List.replicate 32 0)
/-- The little cipher. -/
def litC : Ciph := ⟨31, .agg zeroLit, 55, lftL, rgtL, lftL_length, rgtL_length, fun fuel W => lit_method zeroLit fuel W, fun args W => lit_calls args W, fun k hk W => lits_any zeroLit k hk W⟩
end Go.Proofs.YtippbjpodnnhiaaDoor.Kc
/-
  A set of leaves that a law keeps (map[uint64]bool), as a list of them; what is held behind the leaves that there are.
-/
namespace Go.Proofs.YtippbjpodnnhiaaDoor.Kg
open Go.RowKit Go.Maps
variable {ci : Ciph}
attribute [local go_sem ↓] Go.wp_at_zero Go.wp_at_succ
theorem law64 : Keyed Tryd.prog 25 := int_keyed Tryd.underlying25
/-- How the set's elements read. -/
def boolP (P : Program) : Value → Option (DataW Unit × List MemPlace) := plainElem P 4
theorem wf64 {z : Int} (hz : 0 ≤ z ∧ z ≤ 18446744073709551615) : (Lit.int .u64 z).wf = true := by
  have h1 : IntKind.u64.min = 0 := by decide
  have h2 : IntKind.u64.max = 18446744073709551615 := by decide
  simp [Lit.wf, h1, h2]; omega
theorem boolR_mk (x : Bool) : (boolP Tryd.prog) (.bool x) = some (.lit (.bool x), []) := plainElem_bool Tryd.underlying4 x
theorem boolR_inv {v : Value} {y : DataW Unit × List MemPlace} (h : (boolP Tryd.prog) v = some y) : ∃ c, v = .bool c := by
  unfold boolP plainElem at h
  rw [Tryd.underlying4] at h
  cases v <;> simp at h
  exact ⟨_, rfl⟩
theorem boolR_val {v : Value} {c : Bool} {ps : List MemPlace} (h : (boolP Tryd.prog) v = some (.lit (.bool c), ps)) : v = .bool c := by
  obtain ⟨d, rfl⟩ := boolR_inv h
  rw [boolR_mk] at h
  injection h with h
  injection h with h _
  injection h with h
  injection h with h
  rw [h]
/-- The datum D is the set of ds. -/
structure CutM (D : DataW Unit) (ds : List Int) : Prop where
  tidy : Tidy D
  nodup : ds.Nodup
  size : Maps.size D = ds.length
  has : ∀ z, Maps.has D (.int .u64 z) = decide (z ∈ ds)
  at_ : ∀ z, D.atKey (.int .u64 z) (.lit (.bool false)) = .lit (.bool (decide (z ∈ ds)))
theorem cut_empty : CutM (.map []) [] := ⟨tidy_empty, List.nodup_nil, rfl, fun _ => rfl, fun _ => rfl⟩
theorem lit_ne {m z : Int} (h : z ≠ m) : (Lit.int .u64 z) ≠ Lit.int .u64 m := fun e => h (by injection e)
theorem CutM.put {D : DataW Unit} {ds : List Int} (h : CutM D ds) (m : Int) : CutM (D.put (.int .u64 m) (.lit (.bool true))) (if m ∈ ds then ds else m :: ds) := by
  have hk : WideAt.IsKeyLit (Lit.int .u64 m) := trivial
  have hm := h.tidy.isMap
  refine ⟨h.tidy.put hk _, ?_, ?_, fun z => ?_, fun z => ?_⟩
  · split
    · exact h.nodup
    · rename_i hn; exact List.nodup_cons.2 ⟨hn, h.nodup⟩
  · rw [size_put h.tidy, h.has]
    by_cases hn : m ∈ ds
    · rw [if_pos hn, if_pos (by simpa using hn), h.size]
    · rw [if_neg hn, if_neg (by simpa using hn), h.size]; rfl
  · by_cases hz : z = m
    · subst hz
      rw [has_put_same hm hk]
      split <;> simp_all
    · rw [has_put_other (lit_ne hz), h.has]
      split
      · rfl
      · simp [hz]
  · by_cases hz : z = m
    · subst hz
      rw [atKey_put_same hm hk]
      split <;> simp_all
    · rw [atKey_put_other (lit_ne hz), h.at_]
      split
      · rfl
      · simp [hz]
theorem put_mem {ds : List Int} (m z : Int) : z ∈ (if m ∈ ds then ds else m :: ds) ↔ z ∈ ds ∨ z = m := by
  split
  · rename_i h
    constructor
    · exact fun hz => .inl hz
    · rintro (hz | rfl)
      · exact hz
      · exact h
  · rw [List.mem_cons]; exact Or.comm
section
variable {w w' : World} {b n : Nat} {D : DataW Unit} {S : Nat → Prop}
theorem map_below (h : w.ownsMap Tryd.prog 25 (boolP Tryd.prog) b n D) (hb : Below w.heap.size w w') : w'.ownsMap Tryd.prog 25 (boolP Tryd.prog) b n D :=
  h.kept (row := none) ⟨hb.os, hb.tape, hb.output, hb.size, fun k hk _ => hb.block k hk⟩ (by simp)
theorem map_but (h : w.ownsMap Tryd.prog 25 (boolP Tryd.prog) b n D) (hb : But S w w') (hs : ¬ S b) : w'.ownsMap Tryd.prog 25 (boolP Tryd.prog) b n D := by
  have hlt := h.lt
  obtain ⟨es, clock, hbk, F, hsz, hD⟩ := h
  exact ⟨es, clock, (hb.block b hlt hs).trans hbk, F, hsz, hD⟩
theorem but_of_grown {row : Option Nat} (hg : w.grownBy w' row) (hS : ∀ k, row = some k → S k) : But S w w' := (But.refl w).grown hg (fun k hk => .inl (hS k hk))
theorem grown_of_below (hb : Below w.heap.size w w') : w.grownBy w' none := ⟨hb.os, hb.tape, hb.output, hb.size, fun k hk _ => hb.block k hk⟩
theorem below_of_grown (hg : w.grownBy w' none) : Below w.heap.size w w' := ⟨hg.os, hg.tape, hg.output, hg.size, fun k hk => hg.block k hk (by simp)⟩
end
/-- A look-up in the set. -/
theorem cut_look {w : World} {b n : Nat} {D : DataW Unit} {ds : List Int} (h : w.ownsMap Tryd.prog 25 (boolP Tryd.prog) b n D) (hc : CutM D ds) (z : Int) (hz : 0 ≤ z ∧ z ≤ 18446744073709551615) :
    (Instr.lookup 32 (.map (some b)) (.int .u64 z) false).run Tryd.prog w = .ok (.bool (decide (z ∈ ds))) w := by
  have hw := wf64 hz
  obtain ⟨v, ps, hrun, hv⟩ := h.lookup law64 Tryd.underlying32 (z := .bool false) (by kernel_rfl) (boolR_mk false) (keyOf_int_mk Tryd.underlying25 hw)
  rw [hc.at_] at hv
  rw [hrun, boolR_val hv]
theorem any_congr' {x : Nd} {ms ms' : List Int} (hx : okH x) (h : ∀ m, 0 ≤ m → m < 131072 → (m ∈ ms ↔ m ∈ ms')) : ms.any (inI x) = ms'.any (inI x) := by
  have hr : ∀ m, inI x m = true → 0 ≤ m ∧ m < 131072 := fun m hm => by
    rw [inI_iff] at hm
    have := hx.2.2.1
    have := hx.2.2.2.2.1
    omega
  rw [Bool.eq_iff_iff, List.any_eq_true, List.any_eq_true]
  constructor
  · rintro ⟨m, hm, hi⟩; exact ⟨m, (h m (hr m hi).1 (hr m hi).2).1 hm, hi⟩
  · rintro ⟨m, hm, hi⟩; exact ⟨m, (h m (hr m hi).1 (hr m hi).2).2 hm, hi⟩
theorem can_congr' : ∀ (f : Nat) (x : Nd) {ms ms' : List Int}, okH x → x.d = 17 - (f : Int) → (∀ m, 0 ≤ m → m < 131072 → (m ∈ ms ↔ m ∈ ms')) → canL ci f x ms = canL ci f x ms'
  | 0, x, _, _, hx, _, h => by unfold canL; rw [any_congr' hx h]
  | f + 1, x, _, _, hx, hd, h => by
    unfold canL
    rw [any_congr' hx h, can_congr' f _ (ndL_ok (ci := ci) hx (by omega)).1 (by simp only [ndL]; omega) h, can_congr' f _ (ndR_ok (ci := ci) hx (by omega)).1 (by simp only [ndR]; omega) h]
theorem root_in {s : List UInt8} (m : Int) : inI ⟨0, 0, s⟩ m = (decide (0 ≤ m) && decide (m < 131072)) := by
  rw [Bool.eq_iff_iff, inI_iff, Bool.and_eq_true, decide_eq_true_eq, decide_eq_true_eq]
  have : manyI (0 : Int) = 131072 := by decide
  show 0 ≤ m ∧ m < 0 + manyI 0 ↔ _
  rw [this]; omega
theorem nIn_all {s : List UInt8} {ds : List Int} (h : ∀ z ∈ ds, 0 ≤ z ∧ z < 131072) : nIn ⟨0, 0, s⟩ ds = ds.length := by
  unfold nIn
  rw [List.filter_eq_self.2]
  intro z hz
  have := h z hz
  rw [root_in]; simp; omega
end Go.Proofs.YtippbjpodnnhiaaDoor.Kg
/-
  How arguments that came in are opened: a []byte, a slice of them, and so on, as what my words say of them.
-/
namespace Go.Proofs.YtippbjpodnnhiaaDoor
open Go.RowKit Go.ChangeShapes Go.WideShapes

/-- The byte of a number. -/
def byteOf (n : Int) : UInt8 := UInt8.ofNat n.toNat
theorem byteOf_val {n : Int} (h : (Lit.int .u8 n).wf = true) : ((byteOf n).toNat : Int) = n := by
  have hb := bounds_u8 h
  unfold byteOf
  rw [UInt8.toNat_ofNat']
  omega

section
variable {H : Type} {enc : TypeId × Value → H} {P : Program} {w : World} {base : Nat} {spare : Nat → Bool} {held : Bool}

theorem isB_of_trod {t e fuel : Nat} {v : Value} {x : DataW H × List MemPlace} (ht : P.underlying t = some (.slice e)) (he : P.underlying e = some (.int .u8)) (hc : P.cellsOf e = 1)
    (h : DataW.trod enc P w base spare held fuel t [v] = some x) : ∃ l, IsB w.heap.size w v l := by
  rcases open_ints ht he hc h with ⟨hcs, _⟩ | ⟨a, len, cap, zs, hcs, _, hl, hm, hz, _, hcell, hwz⟩
  · simp only [List.cons.injEq, and_true] at hcs
    subst hcs
    exact ⟨[], none, 0, rfl, Nat.le_refl _, Nat.zero_le _, Rd.none⟩
  · simp only [List.cons.injEq, and_true] at hcs
    subst hcs
    have hlz : len ≤ zs.length := by rw [hz]; split <;> omega
    have hlen : ((zs.take len).map byteOf).length = len := by simp; omega
    refine ⟨(zs.take len).map byteOf, some a, cap, by rw [hlen], by omega, hm, fun k u hu => ?_⟩
    have hk : k < len := by
      have := (List.getElem?_eq_some_iff.1 hu).1
      rw [bv_length, hlen] at this
      exact this
    have hkz : k < zs.length := by omega
    have hg := hcell k hkz
    have hd : zs.getD k 0 = zs[k] := by simp [List.getD, hkz]
    have hw := hwz _ (List.getElem_mem hkz)
    have hb := World.block_lt_of_cell? _ _ hg
    rw [add_block] at hb
    refine ⟨a, rfl, hb, ?_⟩
    rw [hg, hd]
    have e2 : (bv ((zs.take len).map byteOf))[k]? = some (.int .u8 zs[k]) := by
      rw [bv_get (by rw [hlen]; exact hk)]
      simp only [List.getElem_map, List.getElem_take]
      rw [byteOf_val hw]
    rw [← hu, e2]

theorem isL_of_trod {α : Type} {R : Value → α → Prop} {t e fuel : Nat} {v : Value} {x : DataW H × List MemPlace} (ht : P.underlying t = some (.slice e)) (hc : P.cellsOf e = 1)
    (each : ∀ (n : Nat) (u : Value) (y : DataW H × List MemPlace), DataW.trod enc P w base spare held n e [u] = some y → ∃ l, R u l)
    (h : DataW.trod enc P w base spare held fuel t [v] = some x) : ∃ ls, IsL w.heap.size w R v ls := by
  rcases Go.Deep.open_slice1 ht hc h with ⟨hcs, _⟩ | ⟨a, len, cap, m, n, V, D, Pl, hcs, _, hl, hm, hmm, _, hx⟩
  · simp only [List.cons.injEq, and_true] at hcs
    subst hcs
    exact ⟨[], none, 0, rfl, Nat.le_refl _, Nat.zero_le _, RdL.none⟩
  · simp only [List.cons.injEq, and_true] at hcs
    subst hcs
    have hlm : len ≤ m := by rw [hmm]; split <;> omega
    have hall : ∀ j, j ≤ len → ∃ ls : List α, ls.length = j ∧ ∀ (k : Nat) (l : α), ls[k]? = some l → R (V k) l := by
      intro j
      induction j with
      | zero => exact fun _ => ⟨[], rfl, fun k l hk => by simp at hk⟩
      | succ j ih =>
        intro hj
        obtain ⟨ls, hls, hR⟩ := ih (by omega)
        obtain ⟨l, hl'⟩ := each n (V j) _ (hx j (by omega)).2
        refine ⟨ls ++ [l], by simp [hls], fun k l' hk => ?_⟩
        rcases Nat.lt_trichotomy k j with hlt | rfl | hgt
        · rw [List.getElem?_append_left (by omega)] at hk
          exact hR k l' hk
        · rw [List.getElem?_append_right (by omega), hls, Nat.sub_self] at hk
          injection hk with hk
          subst hk
          exact hl'
        · rw [List.getElem?_eq_none (by simp; omega)] at hk
          cases hk
    obtain ⟨ls, hls, hR⟩ := hall len (Nat.le_refl _)
    refine ⟨ls, some a, cap, by rw [hls], by omega, hm, (List.range len).map V, by simp [hls], fun k u hu => ?_, fun k u l hu hl' => ?_⟩
    · have hk : k < len := by have := (List.getElem?_eq_some_iff.1 hu).1; simpa using this
      have hg := (hx k (by omega)).1
      have hb := World.block_lt_of_cell? _ _ hg
      rw [add_block] at hb
      have e2 : ((List.range len).map V)[k]? = some (V k) := by simp [hk]
      exact ⟨a, rfl, hb, by rw [hg, ← hu, e2]⟩
    · have hk : k < len := by have := (List.getElem?_eq_some_iff.1 hu).1; simpa using this
      have e2 : ((List.range len).map V)[k]? = some (V k) := by simp [hk]
      rw [e2] at hu
      injection hu with hu
      subst hu
      exact hR k l hl'

/-- A []byte that came in. -/
theorem open_bytes {t e : Nat} {a : Option Addr} {len cap : Nat} {d : DataW H} {ps : List MemPlace} (ht : P.underlying t = some (.slice e)) (he : P.underlying e = some (.int .u8)) (hc : P.cellsOf e = 1)
    (h : DataW.Trod enc P w base spare held t (.slice a len cap) d ps) : ∃ l : List UInt8, l.length = len ∧ len ≤ cap ∧ cap ≤ maxLen ∧ Rd w.heap.size w a (bv l) := by
  obtain ⟨fuel, hf⟩ := h
  obtain ⟨l, A, c, hv, h1, h2, h3⟩ := isB_of_trod ht he hc hf
  injection hv with e1 e2 e3
  subst e1; subst e2; subst e3
  exact ⟨l, rfl, h1, h2, h3⟩
/-- A [][]byte that came in. -/
theorem open_rows {t s e : Nat} {a : Option Addr} {len cap : Nat} {d : DataW H} {ps : List MemPlace} (ht : P.underlying t = some (.slice s)) (hs : P.underlying s = some (.slice e)) (he : P.underlying e = some (.int .u8))
    (hcs : P.cellsOf s = 1) (hc : P.cellsOf e = 1)
    (h : DataW.Trod enc P w base spare held t (.slice a len cap) d ps) : ∃ ls : List (List UInt8), ls.length = len ∧ len ≤ cap ∧ cap ≤ maxLen ∧ RdB w.heap.size w a ls := by
  obtain ⟨fuel, hf⟩ := h
  obtain ⟨ls, A, c, hv, h1, h2, h3⟩ := isL_of_trod (R := IsB w.heap.size w) ht hcs (fun _ _ _ hy => isB_of_trod hs he hc hy) hf
  injection hv with e1 e2 e3
  subst e1; subst e2; subst e3
  exact ⟨ls, rfl, h1, h2, h3⟩
/-- A [][][]byte that came in. -/
theorem open_rows3 {t r s e : Nat} {a : Option Addr} {len cap : Nat} {d : DataW H} {ps : List MemPlace} (ht : P.underlying t = some (.slice r)) (hr : P.underlying r = some (.slice s)) (hs : P.underlying s = some (.slice e)) (he : P.underlying e = some (.int .u8))
    (hcr : P.cellsOf r = 1) (hcs : P.cellsOf s = 1) (hc : P.cellsOf e = 1)
    (h : DataW.Trod enc P w base spare held t (.slice a len cap) d ps) : ∃ ls : List (List (List UInt8)), ls.length = len ∧ len ≤ cap ∧ cap ≤ maxLen ∧ RdL w.heap.size w (IsL w.heap.size w (IsB w.heap.size w)) a ls := by
  obtain ⟨fuel, hf⟩ := h
  obtain ⟨ls, A, c, hv, h1, h2, h3⟩ := isL_of_trod (R := IsL w.heap.size w (IsB w.heap.size w)) ht hcr (fun _ _ _ hy => isL_of_trod hr hcs (fun _ _ _ hz => isB_of_trod hs he hc hz) hy) hf
  injection hv with e1 e2 e3
  subst e1; subst e2; subst e3
  exact ⟨ls, rfl, h1, h2, h3⟩
end

end Go.Proofs.YtippbjpodnnhiaaDoor
/-
  How an array of numbers that came in by value is opened: its numbers, as a list.
-/
namespace Go.Proofs.YtippbjpodnnhiaaDoor
open Go.RowKit Go.ChangeShapes Go.WideShapes

section
variable {H : Type} {enc : TypeId × Value → H} {P : Program} {w : World} {r : Reach} {b0 base : Nat} {spare : Nat → Bool} {held : Bool}

theorem open_arr {t e n : Nat} {k : IntKind} {v : Value} {d : DataW H} {ps : List MemPlace} (ht : P.underlying t = some (.array n e)) (he : P.underlying e = some (.int k)) (hc : P.cellsOf e = 1) (hn : P.cellsOf t = n)
    (hval : Value.okWide P w r b0 t v) (h : DataW.Trod enc P w base spare held t v d ps) :
    ∃ zs : List Int, zs.length = n ∧ v = .agg (zs.map (Value.int k)).toArray ∧ ∀ z ∈ zs, (Lit.int k z).wf = true := by
  obtain ⟨cs, rfl, hsz⟩ : ∃ cs, v = .agg cs ∧ cs.size = n := by
    have h1 := hval
    simp only [Value.okWide, ht] at h1
    obtain ⟨cs, e1, e2, _⟩ := h1
    exact ⟨cs, e1, by rw [e2, hn]⟩
  obtain ⟨fuel, hf⟩ := h
  obtain ⟨xs, m, _, _, hl, hx, hel⟩ := DataW.trod_array ht hf
  have each : ∀ i (hi : i < cs.size), ∃ z, cs[i] = .int k z ∧ (Lit.int k z).wf = true := by
    intro i hi
    have h1 := hel i (by omega)
    have hxi : i < xs.length := by omega
    rw [List.getElem?_eq_getElem hxi, hc, Nat.mul_one] at h1
    obtain ⟨z, e1, _, hw⟩ := DataW.trod_int he h1
    have e2 : ((Value.agg cs).cells.toList.drop i).take 1 = [cs[i]] := by
      show (cs.toList.drop i).take 1 = [cs[i]]
      rw [List.drop_eq_getElem_cons (by simpa using hi)]
      simp
    rw [e2] at e1
    injection e1 with e1
    exact ⟨z, e1, hw⟩
  refine ⟨cs.toList.map (fun v => match v with | .int _ z => z | _ => 0), by simpa using hsz, ?_, ?_⟩
  · congr 1
    apply Array.ext
    · simp
    · intro i h1 h2
      obtain ⟨z, hz, _⟩ := each i h1
      simp [hz]
  · intro z hz
    simp only [List.mem_map] at hz
    obtain ⟨v, hv, rfl⟩ := hz
    obtain ⟨i, hi, rfl⟩ := List.getElem_of_mem hv
    obtain ⟨z, hz, hw⟩ := each i (by simpa using hi)
    have : cs.toList[i] = .int k z := by simpa using hz
    rw [this]
    exact hw

theorem open_u32s {t e n : Nat} {v : Value} {d : DataW H} {ps : List MemPlace} (ht : P.underlying t = some (.array n e)) (he : P.underlying e = some (.int .u32)) (hc : P.cellsOf e = 1) (hn : P.cellsOf t = n)
    (hval : Value.okWide P w r b0 t v) (h : DataW.Trod enc P w base spare held t v d ps) : ∃ s : List UInt32, s.length = n ∧ v = .agg (uv s) := by
  obtain ⟨zs, hl, rfl, hw⟩ := open_arr ht he hc hn hval h
  refine ⟨zs.map fun z => UInt32.ofNat z.toNat, by simpa using hl, ?_⟩
  unfold uv
  rw [List.map_map]
  congr 2
  apply List.map_congr_left
  intro z hz
  have hb := bounds_u32 (hw z hz)
  simp only [Function.comp]
  exact int_eq (by rw [UInt32.toNat_ofNat']; omega)
theorem open_u8s {t e n : Nat} {v : Value} {d : DataW H} {ps : List MemPlace} (ht : P.underlying t = some (.array n e)) (he : P.underlying e = some (.int .u8)) (hc : P.cellsOf e = 1) (hn : P.cellsOf t = n)
    (hval : Value.okWide P w r b0 t v) (h : DataW.Trod enc P w base spare held t v d ps) : ∃ l : List UInt8, l.length = n ∧ v = .agg (bva l) := by
  obtain ⟨zs, hl, rfl, hw⟩ := open_arr ht he hc hn hval h
  refine ⟨zs.map fun z => UInt8.ofNat z.toNat, by simpa using hl, ?_⟩
  unfold bva bv
  rw [List.map_map]
  congr 2
  apply List.map_congr_left
  intro z hz
  have hb := bounds_u8 (hw z hz)
  simp only [Function.comp]
  exact int_eq (by rw [UInt8.toNat_ofNat']; omega)
end
end Go.Proofs.YtippbjpodnnhiaaDoor
