/-
  The contracts of the tree's find and Has, of a tree and of none.
-/
import Derived.Test.YtkfcllcdkgnfbaaKtFind
namespace Go.Proofs.Ytkfcllcdkgnfbaa.Kt
open Go.RowKit
attribute [local go_sem ↓] Go.wp_at_zero Go.wp_at_succ
/-- The little cipher, as it is handed in. -/
def little : Value := .iface 30 (.agg #[])
/-- A tree at block g whose held nodes are l, in a row of their own. -/
structure TrA (w : World) (g : Nat) (A : Option Addr) (n c : Nat) (l : List Nd) : Prop where
  blk : Blk w g #[little, .slice A n c] 67
  own : w.ownsRow 0 48 34 (.slice A n c) n (nvs l)
  len : l.length = n
  ok : okS 0 l
  apart : (Value.slice A n c).ownBlock ≠ some g
section
variable {w w' : World} {g n c : Nat} {A : Option Addr} {l : List Nd} {S : Nat → Prop}
theorem TrA.few (h : TrA w g A n c l) : n ≤ 131072 := by rw [← h.len]; exact okS_few h.ok
theorem TrA.rd (h : TrA w g A n c l) : Rd w.heap.size w A (nvs l) := Rd.ownN h.own
theorem TrA.len3 (h : TrA w g A n c l) : ∀ x ∈ l, x.s.length = 32 := okS_len h.ok
theorem TrA.but (h : TrA w g A n c l) (hb : But S w w') (hg : ¬ S g) (hv : ∀ k, (Value.slice A n c).ownBlock = some k → ¬ S k) : TrA w' g A n c l :=
  ⟨h.blk.but hb hg, Own.but h.own hb hv, h.len, h.ok, h.apart⟩
theorem TrA.below (h : TrA w g A n c l) (hb : Below w.heap.size w w') : TrA w' g A n c l :=
  ⟨h.blk.below hb, own_belowN h.own hb, h.len, h.ok, h.apart⟩
theorem TrA.c0 (h : TrA w g A n c l) : w.cell? ⟨g, 0, none⟩ = some little := by rw [h.blk.cell]; rfl
theorem TrA.c1 (h : TrA w g A n c l) : w.cell? ⟨g, 1, none⟩ = some (.slice A n c) := by rw [h.blk.cell]; rfl
end
set_option maxRecDepth 100000 in
set_option maxHeartbeats 800000 in
theorem find_any (g : Nat) (A : Option Addr) (n c : Nat) (l : List Nd) (m : Int) (w : World) (h : TrA w g A n c l) :
    Calls Try.prog 32 #[.pointer (some ⟨g, 0, none⟩), .int .u64 m] w (fun e w' => ∃ i b, e = .returned (.tuple #[.int .i64 (i : Nat), .bool b]) ∧ Found l m i b ∧ Below w.heap.size w w') := by
  have c1 := h.c1
  have H := Lib.hid h
  clear h
  go_enter Try.func32, Try.ntmps32
  go_wp2_with fail
  refine (search_any A n c l 0 m _ H.out.len H.out.ok (Nat.le_refl _) H.out.rd (by have := H.out.few; omega)).mono ?_
  rintro e w2 ⟨i, b, rfl, hf, bw⟩
  have HF := Lib.hid hf
  have HB := Lib.hid bw
  clear hf bw
  go_wp2_with fail
  go_ret2
  exact ⟨i, b, rfl, HF.out, HB.out⟩
theorem find_nil (m : Int) (w : World) :
    Calls Try.prog 32 #[.pointer none, .int .u64 m] w (fun e w' => e = .returned (.tuple #[.int .i64 0, .bool false]) ∧ w' = w) := by
  go_enter Try.func32, Try.ntmps32
  go_wp2_with fail
  go_ret2
  exact ⟨rfl, rfl⟩
theorem found_not {e : Int} {l : List Nd} {m : Int} {i : Nat} (hl : okS e l) (h : Found l m i false) : ∀ x ∈ l, inI x m = false := by
  intro x hx
  obtain ⟨k, hk⟩ := List.getElem?_of_mem hx
  rw [inI_not]
  rcases Nat.lt_or_ge k i with h1 | h1
  · exact .inr (h.2.1 k x h1 hk)
  · left
    have hi : i < l.length := Nat.lt_of_le_of_lt h1 (List.getElem?_eq_some_iff.1 hk).1
    have h4 := h.2.2.2
    rw [List.getElem?_eq_getElem hi] at h4
    have h5 : m < l[i].a := by have := h4.symm; simp at this; exact this
    rcases Nat.lt_or_ge i k with h6 | h6
    · have := okS_at hl i k _ x h6 (List.getElem?_eq_getElem hi) hk
      have := (okS_mem hl _ (List.getElem_mem hi)).1.many
      omega
    · obtain rfl : k = i := by omega
      rw [List.getElem?_eq_getElem hi] at hk
      injection hk with hk
      rw [← hk]; exact h5
theorem found_yes {e : Int} {l : List Nd} {m : Int} {i : Nat} (hl : okS e l) (h : Found l m i true) : ∃ x, l[i]? = some x ∧ inI x m = true ∧ (∀ y ∈ l.take i, inI y m = false) ∧ (∀ y ∈ l.drop (i + 1), inI y m = false) := by
  have h4 := h.2.2.2
  cases hx : l[i]? with
  | none => rw [hx] at h4; simp at h4
  | some x =>
    rw [hx] at h4
    have h5 : x.a ≤ m := by have := h4.symm; simpa using this
    have h6 := h.2.2.1 i x (Nat.le_refl _) hx
    refine ⟨x, rfl, inI_iff.2 ⟨h5, h6⟩, fun y hy => ?_, fun y hy => ?_⟩
    · obtain ⟨k, hk⟩ := List.getElem?_of_mem hy
      rw [List.getElem?_take] at hk
      split at hk
      · rename_i hki
        rw [inI_not]; exact .inr (h.2.1 k y hki hk)
      · cases hk
    · obtain ⟨k, hk⟩ := List.getElem?_of_mem hy
      rw [List.getElem?_drop] at hk
      have := okS_at hl i (i + 1 + k) x y (by omega) hx hk
      rw [inI_not]; left; omega
theorem hasI_found {e : Int} {l : List Nd} {m : Int} {i : Nat} {b : Bool} (hl : okS e l) (h : Found l m i b) : b = hasI l m := by
  cases b with
  | false =>
    have := found_not hl h
    symm
    rw [hasI, List.any_eq_false]
    intro x hx; rw [this x hx]; simp
  | true =>
    obtain ⟨x, hx, hi, _⟩ := found_yes hl h
    symm
    rw [hasI, List.any_eq_true]
    exact ⟨x, List.mem_of_getElem? hx, hi⟩
theorem punL_found {e : Int} {l : List Nd} {m : Int} {i : Nat} {x : Nd} (hl : okS e l) (h : Found l m i true) (hx : l[i]? = some x) : punL l m = l.take i ++ woL (17 - x.d).toNat x m ++ l.drop (i + 1) := by
  obtain ⟨y, hy, _, h1, h2⟩ := found_yes hl h
  rw [hx] at hy
  injection hy with hy
  subst hy
  have hi : i < l.length := (List.getElem?_eq_some_iff.1 hx).1
  have hxi : l[i] = x := (List.getElem?_eq_some_iff.1 hx).2
  have e1 : l = l.take i ++ (x :: l.drop (i + 1)) := by rw [← hxi, ← List.drop_eq_getElem_cons hi, List.take_append_drop]
  have e2 : punL l m = punL (l.take i ++ (x :: l.drop (i + 1))) m := by rw [← e1]
  rw [e2, punL_append, punL_not h1, punL_cons, punL_not h2, List.append_assoc]
set_option maxHeartbeats 800000 in
theorem has_any (g : Nat) (A : Option Addr) (n c : Nat) (l : List Nd) (m : Int) (w : World) (h : TrA w g A n c l) :
    Calls Try.prog 16 #[.pointer (some ⟨g, 0, none⟩), .int .u64 m] w (RetB (.bool (hasI l m)) w) := by
  have H := Lib.hid h
  clear h
  go_enter Try.func16, Try.ntmps16
  go_wp2_with fail
  refine (find_any g A n c l m _ H.out).mono ?_
  rintro e w2 ⟨i, b, rfl, hf, bw⟩
  have HBV := Lib.hid (hasI_found H.out.ok hf)
  have HB := Lib.hid bw
  clear hf bw
  go_wp2_with fail
  go_ret
  rw [← HBV.out]
  exact ⟨rfl, HB.out⟩
theorem has_nil (m : Int) (w : World) : Calls Try.prog 16 #[.pointer none, .int .u64 m] w (RetB (.bool false) w) := by
  go_enter Try.func16, Try.ntmps16
  go_wp2_with fail
  refine (find_nil m _).mono ?_
  rintro e w2 ⟨rfl, rfl⟩
  go_wp2_with fail
  go_ret
  exact ⟨rfl, Below.refl _ _⟩
end Go.Proofs.Ytkfcllcdkgnfbaa.Kt
