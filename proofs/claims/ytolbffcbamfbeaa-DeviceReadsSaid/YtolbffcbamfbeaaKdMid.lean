/-
  Rows of several cells an element, that are written in their middle.
-/
import Derived.Test.YtolbffcbamfbeaaKdDev
import Derived.Test.YtolbffcbamfbeaaKdSettleL
namespace Go.Proofs.Ytolbffcbamfbeaa.Kd
open Go.RowKit
section
variable {w : World} {base n cap G size : Nat} {e : TypeId} {xs vs : List Value} {o : Nat}
theorem own_cur (h : w.ownsRow base e size (.slice (some ⟨G, 0, none⟩) n cap) n xs) : ∃ Z, Blk w G (xs ++ Z).toArray e ∧ n ≤ cap ∧ cap ≤ maxLen ∧ (xs ++ Z).length = cap * size ∧ xs.length = n * size ∧ base ≤ G := by
  rcases h.2 with ⟨h0, _⟩ | ⟨g, c, cur, hv, h1, h2, h3, h4, h5, h6⟩
  · injection h0 with h0; cases h0
  · injection hv with hg _ hc
    injection hg with hg
    injection hg with hg
    subst hg; subst hc
    have e : cur.toList = xs ++ cur.toList.drop (n * size) := by rw [← h6, List.take_append_drop]
    refine ⟨cur.toList.drop (n * size), ?_, h3, h4, ?_, h.1, h1⟩
    · unfold Blk; rw [← e]; simpa using h2
    · rw [← e]; simpa using h5
theorem own_setMid (h : w.ownsRow base e size (.slice (some ⟨G, 0, none⟩) n cap) n xs) (hfit : o + vs.length ≤ n * size) : (w.setCells G o vs).ownsRow base e size (.slice (some ⟨G, 0, none⟩) n cap) n (splice xs o vs) ∧ w.there G o vs.length := by
  obtain ⟨Z, hb, h1, h2, h3, h4, h5⟩ := own_cur h
  have hl : o + vs.length ≤ (xs ++ Z).length := by rw [List.length_append]; omega
  have hr := row_setCells G e vs o w (xs ++ Z) hb hl
  rw [splice_left _ _ _ _ (by omega)] at hr
  have hls : (splice xs o vs).length = xs.length := length_splice _ _ _ (by omega)
  refine ⟨⟨by rw [hls]; exact h4, .inr ⟨G, cap, _, rfl, h5, hr, h1, h2, ?_, ?_⟩⟩, there_of_blk hb hl⟩
  · rw [List.size_toArray, List.length_append, hls, ← h3, List.length_append]
  · show (splice xs o vs ++ Z).take (n * size) = _
    rw [← h4, ← hls, List.take_left]
theorem own_setRow (h : w.ownsRow base e size (.slice (some ⟨G, 0, none⟩) n cap) n xs) (hfit : o + vs.length ≤ n * size) {Z : List Value} (hb : Blk w G (xs ++ Z).toArray e) : (w.setRow G (splice (xs ++ Z) o vs).toArray).ownsRow base e size (.slice (some ⟨G, 0, none⟩) n cap) n (splice xs o vs) := by
  obtain ⟨Z', hb', h1, h2, h3, h4, h5⟩ := own_cur h
  have hz : xs ++ Z = xs ++ Z' := by
    unfold Blk at hb hb'
    rw [hb] at hb'
    injection hb' with hb'
    injection hb' with hb'
    exact List.toArray_inj hb'
  have hl : o + vs.length ≤ (xs ++ Z).length := by rw [List.length_append]; omega
  have hr : Blk (w.setRow G (splice (xs ++ Z) o vs).toArray) G (splice (xs ++ Z) o vs).toArray e := setRow_heap _ _ _ _ _ _ hb
  have hls : (splice xs o vs).length = xs.length := length_splice _ _ _ (by omega)
  rw [splice_left _ _ _ _ (by omega)] at hr ⊢
  refine ⟨by rw [hls]; exact h4, .inr ⟨G, cap, _, rfl, h5, hr, h1, h2, ?_, ?_⟩⟩
  · rw [List.size_toArray, List.length_append, hls, ← List.length_append, hz, h3]
  · show (splice xs o vs ++ Z).take (n * size) = _
    rw [← h4, ← hls, List.take_left]
end
theorem own_max8 {w : World} {base n size : Nat} {e : TypeId} {v : Value} {xs : List Value} (h : w.ownsRow base e size v n xs) : n ≤ 9223372036854775807 := by
  rcases h.2 with ⟨_, h0⟩ | ⟨_, _, _, _, _, _, h1, h2, _⟩
  · omega
  · unfold maxLen at h2; omega
theorem own_addr8 {w : World} {base n c size : Nat} {e : TypeId} {A : Option Addr} {xs : List Value} (h : w.ownsRow base e size (.slice A n c) n xs) : (A = none ∧ n = 0 ∧ c = 0) ∨ ∃ g, A = some ⟨g, 0, none⟩ := by
  rcases h.2 with ⟨h0, _⟩ | ⟨g, _, _, hv, _⟩
  · injection h0 with h1 h2 h3; exact .inl ⟨h1, h2, h3⟩
  · injection hv with h1; exact .inr ⟨g, h1⟩
theorem svs_splice : ∀ {st : List (List UInt8)} {k : Nat} {s : List UInt8}, (∀ x ∈ st, x.length = 128) → s.length = 128 → k < st.length → svs (st.set k s) = splice (svs st) (k * 128) (bv s)
  | [], k, _, _, _, hk => by simp at hk
  | x :: l, 0, s, h, hs, _ => by
    have hx := h x (by simp)
    rw [List.set_cons_zero, svs, svs, Nat.zero_mul, splice_left _ _ _ _ (by rw [bv_length, bv_length]; omega), splice_whole _ _ (by rw [bv_length, bv_length]; omega)]
  | x :: l, k + 1, s, h, hs, hk => by
    have hx := h x (by simp)
    rw [List.set_cons_succ, svs, svs, svs_splice (fun y hy => h y (by simp [hy])) hs (by simpa using hk), show (k + 1) * 128 = (bv x).length + k * 128 by rw [bv_length]; omega, splice_right]
theorem svs_torn : ∀ {st : List (List UInt8)} {k : Nat} {s : List UInt8} {b : Nat}, (∀ x ∈ st, x.length = 128) → s.length = 128 → k < st.length → b ≤ 128 → svs (st.set k (tornL b s (st.getD k zeroS))) = splice (svs st) (k * 128) (bv (s.take b))
  | [], k, _, _, _, _, hk, _ => by simp at hk
  | x :: l, 0, s, b, h, hs, _, hb => by
    have hx := h x (by simp)
    have hl : (bv (s.take b)).length = b := by rw [bv_length, List.length_take]; omega
    rw [List.set_cons_zero, svs, svs, Nat.zero_mul, splice_left _ _ _ _ (by rw [hl, bv_length]; omega)]
    congr 1
    rw [List.getD_cons_zero, tornL, bv_append, splice, List.take_zero, List.nil_append, hl, Nat.zero_add]
    simp [bv]
  | x :: l, k + 1, s, b, h, hs, hk, hb => by
    have hx := h x (by simp)
    rw [List.set_cons_succ, svs, svs, List.getD_cons_succ, svs_torn (fun y hy => h y (by simp [hy])) hs (by simpa using hk) hb, show (k + 1) * 128 = (bv x).length + k * 128 by rw [bv_length]; omega, splice_right]
end Go.Proofs.Ytolbffcbamfbeaa.Kd
