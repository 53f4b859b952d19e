/-
  Texts of this seat, one behind the other: KcTell.
-/
import Derived.Test.YtippbjpodnnhiaaMg9
/-
  What bytes of nodes tell, cut short or with more behind: no program, but for one lemma on a row's room.
-/
namespace Go.Proofs.Ytippbjpodnnhiaa.Kc
open Go.RowKit Kg
theorem cap_own {w : World} {base n c : Nat} {e : TypeId} {A : Option Addr} {xs : List Value} (h : w.ownsRow base e 1 (.slice A n c) n xs) : n ≤ c ∧ c ≤ maxLen := by
  rcases h.2 with ⟨h0, h1⟩ | ⟨_, _, _, h0, _, _, h1, h2, _⟩
  · injection h0 with _ _ h0; unfold maxLen; omega
  · injection h0 with _ _ h0; omega
theorem manyY_take {b : List UInt8} {j : Nat} (h : 2 ≤ j) : manyY (b.take j) = manyY b := by
  unfold manyY
  rw [List.getD_eq_getElem?_getD, List.getD_eq_getElem?_getD, List.getD_eq_getElem?_getD, List.getD_eq_getElem?_getD, List.getElem?_take, List.getElem?_take, if_pos (by omega), if_pos (by omega)]
theorem manyY_append {b c : List UInt8} (h : 2 ≤ b.length) : manyY (b ++ c) = manyY b := by
  unfold manyY
  rw [List.getD_eq_getElem?_getD, List.getD_eq_getElem?_getD, List.getD_eq_getElem?_getD, List.getD_eq_getElem?_getD, List.getElem?_append_left (by omega), List.getElem?_append_left (by omega)]
/-- Cut short it is none's. -/
theorem not_cut {b : List UInt8} (h : okY b) {j : Nat} (hj : j < b.length) : ¬ okY (b.take j) := fun ⟨h1, h2, _⟩ => by
  rw [List.length_take] at h1 h2
  rw [manyY_take (by omega)] at h2
  have := h.2.1
  omega
/-- With more behind it is none's. -/
theorem not_more {b c : List UInt8} (h : okY b) (hc : 0 < c.length) : ¬ okY (b ++ c) := fun ⟨_, h2, _⟩ => by
  rw [List.length_append, manyY_append h.1] at h2
  have := h.2.1
  omega
theorem okY_encB {l : List Nd} (h : okS 0 l) (hl : l.length ≤ 65535) : okY (encB l) := (dec_encB h hl).1
end Go.Proofs.Ytippbjpodnnhiaa.Kc
