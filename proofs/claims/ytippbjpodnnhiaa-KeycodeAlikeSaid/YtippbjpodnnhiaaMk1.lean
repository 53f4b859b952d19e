/-
  Texts of this seat, one behind the other: KcSpoil.
-/
import Derived.Test.YtippbjpodnnhiaaMj1
/-
  One byte of a seed is another one: what becomes of the nodes' bytes, of their cells, and of what may be held. No program.
-/
namespace Go.Proofs.Ytippbjpodnnhiaa.Kc
open Go.RowKit Kg
theorem bits_xor8 (a b : UInt8) : bits .xor .u8 (a.toNat : Int) (b.toNat : Int) = ((a ^^^ b).toNat : Int) := by
  rw [u8_xor_nat _ _ (UInt8.toNat_lt _) (UInt8.toNat_lt _), UInt8.toNat_xor]
/-- The node with another byte in its seed. -/
def spoilN (x : Nd) (j : Nat) (y : UInt8) : Nd := ⟨x.d, x.a, x.s.set j y⟩
theorem encN_split {X : List Nd} {k : Nat} (hk : k < X.length) : encN X = encN (X.take k) ++ (nodeY X[k] ++ encN (X.drop (k + 1))) := by
  rw [← encN_cons, ← encN_append, List.getElem_cons_drop, List.take_append_drop]
theorem nvs_split {X : List Nd} {k : Nat} (hk : k < X.length) : nvs X = nvs (X.take k) ++ (ndV X[k] ++ nvs (X.drop (k + 1))) := by
  have e : X = X.take k ++ (X[k] :: X.drop (k + 1)) := by rw [List.getElem_cons_drop, List.take_append_drop]
  have e2 := congrArg nvs e
  rw [nvs_append] at e2
  exact e2
theorem take_len {X : List Nd} (h3 : ∀ x ∈ X, x.s.length = 32) {k : Nat} (hk : k < X.length) : (encN (X.take k)).length = 36 * k ∧ (nvs (X.take k)).length = k * 34 := by
  have h : ∀ x ∈ X.take k, x.s.length = 32 := fun x hx => h3 x (List.mem_of_mem_take hx)
  rw [encN_length h, nvs_length h, List.length_take, Nat.min_eq_left (by omega)]
  exact ⟨rfl, rfl⟩
theorem set_parts {X : List Nd} {k : Nat} (hk : k < X.length) (x : Nd) : (X.set k x).take k = X.take k ∧ (X.set k x).drop (k + 1) = X.drop (k + 1) ∧ (X.set k x)[k]'(by rw [List.length_set]; exact hk) = x := by
  refine ⟨?_, ?_, by simp⟩
  · rw [List.take_set, List.set_eq_of_length_le (by rw [List.length_take]; omega)]
  · rw [List.drop_set_of_lt (by omega)]
theorem nodeY_set {x : Nd} (j : Nat) (y : UInt8) : (nodeY x).set (4 + j) y = nodeY (spoilN x j y) := by
  rw [show 4 + j = j + 1 + 1 + 1 + 1 by omega]; rfl
theorem ndV_set {x : Nd} (j : Nat) (y : UInt8) : (ndV x).set (2 + j) (.int .u8 (y.toNat : Int)) = ndV (spoilN x j y) := by
  rw [show 2 + j = j + 1 + 1 by omega]
  show .int .i64 x.d :: .int .u64 x.a :: (bv x.s).set j _ = .int .i64 x.d :: .int .u64 x.a :: bv (x.s.set j y)
  rw [bv, bv, List.map_set]
theorem encB_set {X : List Nd} (h3 : ∀ x ∈ X, x.s.length = 32) {k : Nat} (hk : k < X.length) {j : Nat} (hj : j < 32) (y : UInt8) : (encB X).set (2 + 36 * k + 4 + j) y = encB (X.set k (spoilN X[k] j y)) := by
  obtain ⟨e1, e2, e3⟩ := set_parts hk (spoilN X[k] j y)
  have hk' : k < (X.set k (spoilN X[k] j y)).length := by rw [List.length_set]; exact hk
  have hs := encN_split hk'
  rw [e1, e2, e3] at hs
  rw [encB_hdr, encB_hdr, List.length_set, hs, encN_split hk]
  have l1 : (hdrY X.length).length = 2 := rfl
  have l2 := (take_len h3 hk).1
  have l3 : (nodeY X[k]).length = 36 := nodeY_length (h3 _ (List.getElem_mem hk))
  rw [List.set_append_right _ _ (by omega), List.set_append_right _ _ (by omega), List.set_append_left _ _ (by omega), l1, l2, show 2 + 36 * k + 4 + j - 2 - 36 * k = 4 + j by omega, nodeY_set]
theorem nvs_set {X : List Nd} (h3 : ∀ x ∈ X, x.s.length = 32) {k : Nat} (hk : k < X.length) {j : Nat} (hj : j < 32) (y : UInt8) : (nvs X).set (k * 34 + 2 + j) (.int .u8 (y.toNat : Int)) = nvs (X.set k (spoilN X[k] j y)) := by
  obtain ⟨e1, e2, e3⟩ := set_parts hk (spoilN X[k] j y)
  have hk' : k < (X.set k (spoilN X[k] j y)).length := by rw [List.length_set]; exact hk
  have hs := nvs_split hk'
  rw [e1, e2, e3] at hs
  rw [hs, nvs_split hk]
  have l2 := (take_len h3 hk).2
  have l3 : (ndV X[k]).length = 34 := ndV_length (h3 _ (List.getElem_mem hk))
  rw [List.set_append_right _ _ (by omega), List.set_append_left _ _ (by omega), l2, show k * 34 + 2 + j - k * 34 = 2 + j by omega, ndV_set]
theorem encB_get {X : List Nd} (h3 : ∀ x ∈ X, x.s.length = 32) {k : Nat} (hk : k < X.length) {j : Nat} (hj : j < 32) : (encB X)[2 + 36 * k + 4 + j]? = X[k].s[j]? := by
  rw [encB_hdr, encN_split hk]
  have l1 : (hdrY X.length).length = 2 := rfl
  have l2 := (take_len h3 hk).1
  have l3 : (nodeY X[k]).length = 36 := nodeY_length (h3 _ (List.getElem_mem hk))
  rw [List.getElem?_append_right (by omega), List.getElem?_append_right (by omega), List.getElem?_append_left (by omega), l1, l2, show 2 + 36 * k + 4 + j - 2 - 36 * k = j + 1 + 1 + 1 + 1 by omega]
  rfl
theorem nvs_get {X : List Nd} (h3 : ∀ x ∈ X, x.s.length = 32) {k : Nat} (hk : k < X.length) {j : Nat} (hj : j < 32) : (nvs X)[k * 34 + 2 + j]? = (bv X[k].s)[j]? := by
  rw [nvs_split hk]
  have l2 := (take_len h3 hk).2
  have l3 : (ndV X[k]).length = 34 := ndV_length (h3 _ (List.getElem_mem hk))
  rw [List.getElem?_append_right (by omega), List.getElem?_append_left (by omega), l2, show k * 34 + 2 + j - k * 34 = j + 1 + 1 by omega]
  rfl
theorem okS_set : ∀ {e : Int} {l : List Nd} {k : Nat} {x : Nd}, okS e l → (hk : k < l.length) → x.d = l[k].d → x.a = l[k].a → x.s.length = 32 → okS e (l.set k x)
  | e, y :: l, 0, x, h, _, hd, ha, hs => by
    simp only [List.getElem_cons_zero] at hd ha
    refine ⟨⟨by rw [hd]; exact h.1.1, by rw [hd]; exact h.1.2.1, by rw [ha]; exact h.1.2.2.1, by rw [hd, ha]; exact h.1.2.2.2.1, by rw [hd, ha]; exact h.1.2.2.2.2.1, hs⟩, by rw [ha]; exact h.2.1, by rw [hd, ha]; exact h.2.2⟩
  | e, y :: l, k + 1, x, h, hk, hd, ha, hs => by
    simp only [List.getElem_cons_succ] at hd ha
    exact ⟨h.1, h.2.1, okS_set h.2.2 (by simpa using hk) hd ha hs⟩
theorem okS_spoil {X : List Nd} (h : okS 0 X) {k : Nat} (hk : k < X.length) (j : Nat) (y : UInt8) : okS 0 (X.set k (spoilN X[k] j y)) :=
  okS_set h hk rfl rfl (by simp [spoilN]; exact okS_len h _ (List.getElem_mem hk))
end Go.Proofs.Ytippbjpodnnhiaa.Kc
