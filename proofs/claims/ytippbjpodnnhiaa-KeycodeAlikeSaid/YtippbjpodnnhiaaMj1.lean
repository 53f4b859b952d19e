/-
  Texts of this seat, one behind the other: KcSwap.
-/
import Derived.Test.YtippbjpodnnhiaaMi1
/-
  Rows of nodes in part, and a row one of whose nodes is written anew.
-/
namespace Go.Proofs.Ytippbjpodnnhiaa.Kc
open Go.RowKit Kg
theorem rdn_take {B : Nat} {w : World} {A : Option Addr} {X : List Nd} (h3 : ∀ x ∈ X, x.s.length = 32) (h : Rd B w A (nvs X)) (k : Nat) : Rd B w A (nvs (X.take k)) := fun j u hu => by
  rw [nvs_take h3, List.getElem?_take] at hu
  split at hu
  · exact h j u hu
  · cases hu
theorem rdn_drop {B : Nat} {w : World} {g : Nat} {X : List Nd} (h3 : ∀ x ∈ X, x.s.length = 32) (h : Rd B w (some ⟨g, 0, none⟩) (nvs X)) (k : Nat) : Rd B w (some ⟨g, k * 34, none⟩) (nvs (X.drop k)) := fun j u hu => by
  rw [nvs_drop h3, List.getElem?_drop] at hu
  obtain ⟨ad, e, hb, hc⟩ := h _ u hu
  injection e with e; subst e
  refine ⟨_, rfl, hb, ?_⟩
  rw [addr_add] at hc ⊢
  rwa [Nat.zero_add] at hc
theorem rdn_at {B : Nat} {w : World} {g : Nat} {X : List Nd} (h3 : ∀ x ∈ X, x.s.length = 32) (h : Rd B w (some ⟨g, 0, none⟩) (nvs X)) {k : Nat} (hk : k < X.length) : ∀ j v, (ndV X[k])[j]? = some v → w.cell? ((⟨g, k * 34, none⟩ : Addr).add j) = some v := fun j v hv => by
  obtain ⟨ad, e, _, hc⟩ := rd_node h h3 hk
  injection e with e; subst e
  have := hc j v hv
  rwa [addr_add, addr_add, Nat.zero_add, ← addr_add] at this
theorem take_three {a b c : List Value} {n p q : Nat} (ha : a.length = p) (hb : b.length = q) (hn : p + q ≤ n) : (a ++ (b ++ c)).take n = a ++ (b ++ c.take (n - (p + q))) := by
  rw [← List.append_assoc, ← List.append_assoc, List.take_append, List.length_append, ha, hb, List.take_of_length_le (by rw [List.length_append]; omega)]
theorem nvs_one1 (x : Nd) : nvs [x] = ndV x := by simp [nvs]
/-- A row one of whose nodes is written anew. -/
theorem own_setN {w : World} {base n c k h : Nat} {l : List Nd} {x : Nd} (ho : w.ownsRow base 61 34 (.slice (some ⟨h, 0, none⟩) n c) n (nvs l)) (h3 : ∀ y ∈ l, y.s.length = 32) (hx : x.s.length = 32) (hk : k < n) :
    (w.setCells h (k * 34) (ndC x).toList).ownsRow base 61 34 (.slice (some ⟨h, 0, none⟩) n c) n (nvs (l.set k x)) ∧ w.there h (k * 34) (ndC x).size := by
  obtain ⟨hlen, ⟨h0, _⟩ | ⟨g, cap, cur, hv, hb, hg, hnc, hcm, hcs, htk⟩⟩ := ho
  · cases h0
  injection hv with e1 _ e3
  injection e1 with e1
  injection e1 with e1
  subst e1
  subst e3
  have hl : l.length = n := by rw [nvs_length h3] at hlen; omega
  have hxs : (ndC x).toList.length = 34 := by rw [Array.length_toList, ndC_size hx]
  have hcl : cur.toList.length = c * 34 := by rw [Array.length_toList, hcs]
  have hgl : w.heap[h]? = some (.cells cur.toList.toArray 61 (0, 0)) := by rw [Array.toArray_toList]; exact hg
  have hfit : k * 34 + (ndC x).toList.length ≤ cur.toList.length := by rw [hxs, hcl]; omega
  have hnew := row_setCells h 61 (ndC x).toList (k * 34) w cur.toList hgl hfit
  have h3' : ∀ y ∈ l.set k x, y.s.length = 32 := fun y hy => by
    rcases List.mem_or_eq_of_mem_set hy with hy | hy
    · exact h3 y hy
    · rw [hy]; exact hx
  refine ⟨⟨by rw [nvs_length h3', List.length_set, hl], .inr ⟨h, c, _, rfl, hb, hnew, hnc, hcm, ?_, ?_⟩⟩, ?_⟩
  · rw [List.size_toArray, length_splice _ _ _ hfit, hcl]
  · have hkl : k < l.length := by omega
    rw [List.toList_toArray, splice, hxs]
    have e1 : cur.toList.take (k * 34) = nvs (l.take k) := by
      rw [nvs_take h3, ← htk, List.take_take]; congr 1; omega
    have e2 : (cur.toList.drop (k * 34 + 34)).take (n * 34 - (k * 34 + 34)) = nvs (l.drop (k + 1)) := by
      rw [nvs_drop h3, ← htk, List.drop_take, show (k + 1) * 34 = k * 34 + 34 by omega]
    have e3 : l.set k x = l.take k ++ ([x] ++ l.drop (k + 1)) := by rw [List.set_eq_take_append_cons_drop, if_pos hkl]; rfl
    have e4 : (nvs (l.take k)).length = k * 34 := by rw [nvs_length (fun y hy => h3 y (List.mem_of_mem_take hy)), List.length_take]; congr 1; omega
    have e5 : (ndC x).toList = ndV x := rfl
    rw [e1, e3, nvs_append, nvs_append, nvs_one1, ← e2, e5]
    have e6 : (ndV x).length = 34 := ndV_length hx
    rw [take_three e4 e6 (by omega)]
  · exact there_of_blk (cs := cur.toList) (A := 61) (by unfold Blk; exact hgl) (by rw [ndC_size hx, hcl]; omega)
theorem in_take {X : List Nd} {k : Nat} (hk : k < X.length) : X[k] ∈ X.take (k + 1) := List.mem_iff_getElem.2 ⟨k, by rw [List.length_take]; omega, by simp⟩
theorem in_drop {X : List Nd} {k : Nat} (hk : k < X.length) : X[k] ∈ X.drop k := List.mem_iff_getElem.2 ⟨0, by rw [List.length_drop]; omega, by simp⟩
/-- Turned about they may not be held. -/
theorem not_swap {X : List Nd} (h : okS 0 X) {k : Nat} (hk : k + 1 < X.length) : ¬ okS 0 ((X.set k X[k + 1]).set (k + 1) X[k]) := fun h2 => by
  have hkl : k < X.length := by omega
  have e2 : (X.set k X[k + 1]).set (k + 1) X[k] = (X.take k ++ [X[k + 1]]) ++ (X[k] :: X.drop (k + 2)) := by
    rw [List.set_eq_take_append_cons_drop (i := k + 1), if_pos (by rw [List.length_set]; exact hk), List.take_set, List.drop_set_of_lt (by omega)]
    congr 1
    rw [List.set_eq_take_append_cons_drop, if_pos (by rw [List.length_take]; omega), List.take_take, List.drop_take]
    simp
  have h3 := (okS_split (a := X.take (k + 1)) (b := X.drop (k + 1)) (e := 0) (by rw [List.take_append_drop]; exact h)).2 X[k] (in_take hkl) X[k + 1] (in_drop hk)
  rw [e2] at h2
  have h4 := (okS_split h2).2 X[k + 1] (by simp) X[k] (by simp)
  have h5 := (okS_mem h X[k] (List.getElem_mem hkl)).1.many
  have h6 := (okS_mem h X[k + 1] (List.getElem_mem hk)).1.many
  omega
/-- Twice they may not be held. -/
theorem not_twice {X : List Nd} (h : okS 0 X) {k : Nat} (hk : k < X.length) : ¬ okS 0 (X.take (k + 1) ++ X.drop k) := fun h2 => by
  have h4 := (okS_split h2).2 X[k] (in_take hk) X[k] (in_drop hk)
  have h5 := (okS_mem h X[k] (List.getElem_mem hk)).1.many
  omega
end Go.Proofs.Ytippbjpodnnhiaa.Kc
