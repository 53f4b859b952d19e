/-
  A tree of keys: its held nodes as a list; what stands where; the plain facts about lists of nodes without a leaf.
-/
import Derived.Test.YtkfcllcdkgnfbaaKtCount
import Derived.Test.YtkfcllcdkgnfbaaKtKey
import Derived.Test.YtkfcllcdkgnfbaaKtDelete
namespace Go.Proofs.Ytkfcllcdkgnfbaa.Kt
open Go.RowKit
/-- A node that may be held. -/
def okH (x : Nd) : Prop := 0 ≤ x.d ∧ x.d ≤ 17 ∧ 0 ≤ x.a ∧ x.a % manyI x.d = 0 ∧ x.a + manyI x.d ≤ 131072 ∧ x.s.length = 32
/-- Nodes that may be held, the first one not ahead of e. -/
def okS : Int → List Nd → Prop
  | _, [] => True
  | e, x :: l => okH x ∧ e ≤ x.a ∧ okS (x.a + manyI x.d) l
/-- Has one of the nodes the leaf? -/
def hasI (l : List Nd) (m : Int) : Bool := l.any (inI · m)
theorem many_cases {d : Int} (h0 : 0 ≤ d) (h1 : d ≤ 17) : (d = 17 ∧ manyI d = 1) ∨ (d < 17 ∧ manyI d = 2 * manyI (d + 1)) := by
  have h : d = 0 ∨ d = 1 ∨ d = 2 ∨ d = 3 ∨ d = 4 ∨ d = 5 ∨ d = 6 ∨ d = 7 ∨ d = 8 ∨ d = 9 ∨ d = 10 ∨ d = 11 ∨ d = 12 ∨ d = 13 ∨ d = 14 ∨ d = 15 ∨ d = 16 ∨ d = 17 := by omega
  rcases h with h | h | h | h | h | h | h | h | h | h | h | h | h | h | h | h | h | h <;> subst h <;> decide
theorem okH.many {x : Nd} (h : okH x) : 1 ≤ manyI x.d ∧ manyI x.d ≤ 131072 := (manyI_ok h.1 h.2.1).2
theorem okH.okN {x : Nd} (h : okH x) : okN x := ⟨h.1, h.2.1, h.2.2.1, h.2.2.2.2.2⟩
theorem wrap_small {z : Int} (h0 : 0 ≤ z) (h1 : z ≤ 131072) : IntKind.u64.wrap z = z := IntWalk.u64_in _ (by omega)
theorem inI_iff {x : Nd} {m : Int} : inI x m = true ↔ x.a ≤ m ∧ m < x.a + manyI x.d := by
  simp only [inI, Bool.and_eq_true, decide_eq_true_eq]; omega
theorem inI_not {x : Nd} {m : Int} : inI x m = false ↔ m < x.a ∨ x.a + manyI x.d ≤ m := by
  rw [← Bool.not_eq_true, inI_iff]; omega
theorem ndL_ok {x : Nd} (h : okH x) (hd : x.d < 17) : okH (ndL x) ∧ (ndL x).a = x.a ∧ manyI x.d = 2 * manyI (x.d + 1) := by
  obtain ⟨h0, h1, h2, h3, h4, h5⟩ := h
  have hm : manyI x.d = 2 * manyI (x.d + 1) := by rcases many_cases h0 h1 with h | h; omega; exact h.2
  have hp := (manyI_ok (d := x.d + 1) (by omega) (by omega)).2
  refine ⟨⟨by simp only [ndL]; omega, by simp only [ndL]; omega, h2, ?_, by simp only [ndL]; omega, leftK_length _⟩, rfl, hm⟩
  simp only [ndL]
  rw [hm] at h3
  exact Int.emod_eq_zero_of_dvd (Int.dvd_trans ⟨2, by omega⟩ (Int.dvd_of_emod_eq_zero h3))
theorem ndR_ok {x : Nd} (h : okH x) (hd : x.d < 17) : okH (ndR x) ∧ (ndR x).a = x.a + manyI (x.d + 1) := by
  obtain ⟨h0, h1, h2, h3, h4, h5⟩ := h
  have hm : manyI x.d = 2 * manyI (x.d + 1) := by rcases many_cases h0 h1 with h | h; omega; exact h.2
  have hp := (manyI_ok (d := x.d + 1) (by omega) (by omega)).2
  have ha : (ndR x).a = x.a + manyI (x.d + 1) := by simp only [ndR]; exact wrap_small (by omega) (by omega)
  refine ⟨⟨by simp only [ndR]; omega, by simp only [ndR]; omega, by omega, ?_, by rw [ha]; simp only [ndR]; omega, rightK_length _⟩, ha⟩
  rw [ha]
  simp only [ndR]
  rw [hm] at h3
  have : (manyI (x.d + 1)) ∣ x.a := Int.dvd_trans ⟨2, by omega⟩ (Int.dvd_of_emod_eq_zero h3)
  exact Int.emod_eq_zero_of_dvd (Int.dvd_add this (Int.dvd_refl _))
theorem woL_not {f : Nat} {x : Nd} {m : Int} (h : inI x m = false) : woL f x m = [x] := by
  cases f <;> (unfold woL; rw [if_neg (by simp [h])])
theorem okS_mono {e e' : Int} {l : List Nd} (h : okS e l) (he : e' ≤ e) : okS e' l := by
  cases l with
  | nil => trivial
  | cons x l => exact ⟨h.1, by have := h.2.1; omega, h.2.2⟩
theorem okS_mem : ∀ {e : Int} {l : List Nd}, okS e l → ∀ x ∈ l, okH x ∧ e ≤ x.a
  | _, [], _, x, hx => by simp at hx
  | e, y :: l, h, x, hx => by
    rcases List.mem_cons.1 hx with rfl | hx
    · exact ⟨h.1, h.2.1⟩
    · have := okS_mem h.2.2 x hx
      have h1 := h.1.many
      exact ⟨this.1, by have := h.2.1; omega⟩
/-- Two lists of nodes, the one behind the other. -/
theorem okS_append : ∀ {e E : Int} {a b : List Nd}, okS e a → (∀ x ∈ a, x.a + manyI x.d ≤ E) → okS E b → e ≤ E → okS e (a ++ b)
  | e, E, [], b, _, _, hb, he => okS_mono hb he
  | e, E, x :: a, b, ha, hE, hb, _ => ⟨ha.1, ha.2.1, okS_append ha.2.2 (fun y hy => hE y (by simp [hy])) hb (hE x (by simp))⟩
/-- What is left of a node lies in it. -/
theorem woL_ok : ∀ (f : Nat) (x : Nd) (m : Int), okH x → x.d = 17 - (f : Int) → okS x.a (woL f x m) ∧ ∀ y ∈ woL f x m, y.a + manyI y.d ≤ x.a + manyI x.d
  | 0, x, m, h, hd => by
    unfold woL; split
    · exact ⟨trivial, fun y hy => by simp at hy⟩
    · exact ⟨⟨h, Int.le_refl _, trivial⟩, fun y hy => by simp at hy; rw [hy]; exact Int.le_refl _⟩
  | f + 1, x, m, h, hd => by
    unfold woL; split
    · obtain ⟨h1, h2, h3⟩ := ndL_ok h (by omega)
      obtain ⟨h4, h5⟩ := ndR_ok h (by omega)
      obtain ⟨p1, p2⟩ := woL_ok f (ndL x) m h1 (by simp only [ndL]; omega)
      obtain ⟨q1, q2⟩ := woL_ok f (ndR x) m h4 (by simp only [ndR]; omega)
      have e1 : (ndL x).d = x.d + 1 := rfl
      have e2 : (ndR x).d = x.d + 1 := rfl
      have hp := (manyI_ok (d := x.d + 1) (by have := h.1; omega) (by omega)).2
      rw [e1, h2] at p2
      rw [e2, h5] at q2
      rw [h2] at p1
      rw [h5] at q1
      refine ⟨okS_append p1 p2 q1 (by omega), fun y hy => ?_⟩
      rcases List.mem_append.1 hy with hy | hy
      · have := p2 y hy; omega
      · have := q2 y hy; omega
    · exact ⟨⟨h, Int.le_refl _, trivial⟩, fun y hy => by simp at hy; rw [hy]; exact Int.le_refl _⟩
theorem punL_cons (x : Nd) (l : List Nd) (m : Int) : punL (x :: l) m = woL (17 - x.d).toNat x m ++ punL l m := by simp [punL]
theorem punL_append (a b : List Nd) (m : Int) : punL (a ++ b) m = punL a m ++ punL b m := by simp [punL]
theorem punL_ok : ∀ {e : Int} {l : List Nd} (m : Int), okS e l → okS e (punL l m)
  | _, [], _, _ => trivial
  | e, x :: l, m, h => by
    rw [punL_cons]
    have hf : x.d = 17 - ((17 - x.d).toNat : Int) := by have := h.1.2.1; omega
    obtain ⟨p1, p2⟩ := woL_ok _ x m h.1 hf
    have := h.1.many
    exact okS_append (okS_mono p1 h.2.1) p2 (punL_ok m h.2.2) (by have := h.2.1; omega)
theorem punL_not : ∀ {l : List Nd} {m : Int}, (∀ x ∈ l, inI x m = false) → punL l m = l
  | [], _, _ => rfl
  | x :: l, m, h => by rw [punL_cons, woL_not (h x (by simp)), punL_not (fun y hy => h y (by simp [hy]))]; rfl
theorem okS_above : ∀ {e : Int} {l : List Nd} {m : Int}, okS e l → m < e → ∀ x ∈ l, inI x m = false := fun h hm x hx => by
  have := (okS_mem h x hx).2
  rw [inI_not]; omega
theorem okS_split : ∀ {e : Int} {a b : List Nd}, okS e (a ++ b) → okS e a ∧ (∀ x ∈ a, ∀ y ∈ b, x.a + manyI x.d ≤ y.a)
  | _, [], _, _ => ⟨trivial, fun x hx => by simp at hx⟩
  | e, x :: a, b, h => by
    obtain ⟨p, q⟩ := okS_split h.2.2
    refine ⟨⟨h.1, h.2.1, p⟩, fun y hy z hz => ?_⟩
    rcases List.mem_cons.1 hy with rfl | hy
    · exact (okS_mem h.2.2 z (by simp [hz])).2
    · exact q y hy z hz
theorem okS_len {e : Int} {l : List Nd} (h : okS e l) : ∀ x ∈ l, x.s.length = 32 := fun x hx => (okS_mem h x hx).1.2.2.2.2.2
theorem okS_N {e : Int} {l : List Nd} (h : okS e l) : ∀ x ∈ l, okN x := fun x hx => (okS_mem h x hx).1.okN
/-- There are no more nodes than leaves. -/
theorem okS_count : ∀ {e : Int} {l : List Nd}, 0 ≤ e → e ≤ 131072 → okS e l → e + l.length ≤ 131072
  | e, [], h0, h1, _ => by simpa using h1
  | e, x :: l, h0, h1, h => by
    have hm := h.1.many
    have := okS_count (by have := h.2.1; omega) h.1.2.2.2.2.1 h.2.2
    have := h.2.1
    rw [List.length_cons]; omega
theorem okS_few {l : List Nd} (h : okS 0 l) : l.length ≤ 131072 := by have := okS_count (Int.le_refl 0) (by omega) h; omega
end Go.Proofs.Ytkfcllcdkgnfbaa.Kt
