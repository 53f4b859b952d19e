/-
  Texts of this seat, one behind the other: SuRwP.
-/
import Derived.Test.YtnplhagfmfggcaaSy1
/-
  Supers whose versions rise one by one: what stands behind each write, and which is read.
-/
namespace Go.Proofs.Ytnplhagfmfggcaa.Su
open Go.RowKit Kd Mi Sx
section
variable (fr : Nat) (l : List Sp)
/-- The super that is written j-th. -/
def spK (j : Nat) : Sp := ⟨fr + j, (l.getD j zeroP).n, (l.getD j zeroP).t⟩
/-- What stands behind k of them. -/
def lkL : Nat → List (List UInt8)
  | 0 => zeros4
  | k + 1 => (lkL k).set (placeP (spK fr l k)) (secP litSumL (spK fr l k))
def lkD (k a : Nat) : Option Sp := if k = 0 then none else if placeP (spK fr l (k - 1)) = a then some (spK fr l (k - 1)) else if k = 1 then none else some (spK fr l (k - 2))
/-- The one that was written last. -/
def lastK (k : Nat) : Sp := if k = 0 then zeroP else spK fr l (k - 1)
end
section
variable {fr : Nat} {l : List Sp}
theorem lkL_len : ∀ k, (lkL fr l k).length = 4
  | 0 => by simp [lkL, zeros4]
  | k + 1 => by rw [lkL, List.length_set, lkL_len k]
theorem lkL_three : ∀ k, ∀ y ∈ lkL fr l k, y.length = 128
  | 0 => fun y hy => by rw [(List.mem_replicate.1 hy).2]; exact zeroS_length
  | k + 1 => fun y hy => by
    rcases List.mem_or_eq_of_mem_set hy with h | rfl
    · exact lkL_three k y h
    · exact len_sec _
theorem place_spK (j : Nat) : placeP (spK fr l j) = (fr + j) % 2 := rfl
theorem lkD_succ (k a : Nat) : lkD fr l (k + 1) a = if placeP (spK fr l k) = a then some (spK fr l k) else if k = 0 then none else some (spK fr l (k - 1)) := by
  unfold lkD
  rw [show k + 1 - 1 = k from rfl, show k + 1 - 2 = k - 1 by omega]
  have e : (k + 1 = 1) = (k = 0) := by simp
  simp only [Nat.succ_ne_zero, if_false, e]
theorem lkL_at : ∀ k a, a < 2 → (lkL fr l k).getD a zeroS = secD (lkD fr l k a)
  | 0, a, _ => by rw [lkL, zeros_getD]; rfl
  | k + 1, a, ha => by
    have ih := lkL_at k a ha
    rw [lkL, Su.set_getD (by rw [lkL_len]; have := place_lt (spK fr l k); omega)]
    rw [lkD_succ]
    by_cases hp : placeP (spK fr l k) = a
    · rw [if_pos hp, if_pos hp]; rfl
    · rw [if_neg hp, if_neg hp, ih]
      unfold lkD
      by_cases h0 : k = 0
      · rw [if_pos h0, if_pos h0]
      · rw [if_neg h0, if_neg h0]
        have hq : placeP (spK fr l (k - 1)) = a := by
          rw [place_spK] at hp ⊢
          omega
        rw [if_pos hq]
theorem lkD_fit {k : Nat} (h : ∀ j, j < k → okP (spK fr l j) = true) (hf : fr + k < 18446744073709551616) (a : Nat) (ha : a < 2) : fitD a (lkD fr l k a) := by
  unfold lkD
  by_cases h0 : k = 0
  · rw [if_pos h0]; trivial
  · rw [if_neg h0]
    split
    · rename_i hp
      exact ⟨h _ (by omega), by show fr + (k - 1) < _; omega, hp⟩
    · rename_i hp
      split
      · trivial
      · refine ⟨h _ (by omega), by show fr + (k - 2) < _; omega, ?_⟩
        rw [place_spK] at hp ⊢
        omega
theorem lkD_take (k : Nat) : takeD (takeD (zeroP, false) (lkD fr l (k + 1) 0)) (lkD fr l (k + 1) 1) = (spK fr l k, true) := by
  rw [lkD_succ, lkD_succ]
  have hp := place_lt (spK fr l k)
  rcases (show placeP (spK fr l k) = 0 ∨ placeP (spK fr l k) = 1 by omega) with e | e
  · rw [if_pos e, if_neg (by rw [e]; omega)]
    by_cases h0 : k = 0
    · rw [if_pos h0]; simp [takeD]
    · rw [if_neg h0]
      have hv : ¬ (spK fr l k).v < (spK fr l (k - 1)).v := by show ¬ fr + k < fr + (k - 1); omega
      simp [takeD, hv]
  · rw [if_neg (by rw [e]; omega), if_pos e]
    by_cases h0 : k = 0
    · rw [if_pos h0]; simp [takeD]
    · rw [if_neg h0]
      have hv : (spK fr l (k - 1)).v < (spK fr l k).v := by show fr + (k - 1) < fr + k; omega
      simp [takeD, hv]
/-- The one ahead of the last one stands in the other place. -/
theorem lkL_elder {k : Nat} (hk : 0 < k) : (lkL fr l (k + 1)).getD (placeP (spK fr l (k - 1))) zeroS = secP litSumL (spK fr l (k - 1)) := by
  rw [lkL_at _ _ (place_lt _), lkD_succ, if_neg (by rw [place_spK, place_spK]; omega), if_neg (by omega)]
  rfl
end
theorem lm_own {p g1 g2 g m b : Nat} {G : Gd} {w0 w w' : World} {s : Mr (Mu.one p g1 g2)} {F : Nat → Prop} {x : Md} (h : Mu.LM p g1 g2 G g w0 w s F x m) (hb : But (fun k => k = b) w w') (hF : ¬F b) (hw : w0.heap.size ≤ b) : Mu.LM p g1 g2 G g w0 w' s F x m :=
  ⟨⟨(ML (Mu.one p g1 g2) G g).but h.live.at_ hb (fun k hk e => by subst e; exact hF hk), h.live.new, h.live.bel.trans (hb.below (fun k hk e => by omega) h.live.bel.size)⟩, h.sees, h.dry⟩
/-- A super's box that is none of the mirror's. -/
structure OB (w0 w : World) (F : Nat → Prop) (b : Nat) (s : Sp) : Prop where
  blk : Blk w b #[.int .u64 (s.v : Int), .int .i64 s.n, .int .u64 (s.t : Int)] 100
  out : ¬ F b
  new : w0.heap.size ≤ b
theorem OB.below {w0 w w' : World} {F : Nat → Prop} {b : Nat} {s : Sp} (h : OB w0 w F b s) (hb : Below w.heap.size w w') : OB w0 w' F b s := ⟨h.blk.below hb, h.out, h.new⟩
theorem OB.step {w0 w w' : World} {F F' : Nat → Prop} {b : Nat} {s : Sp} (h : OB w0 w F b s) (h1 : ∀ q, F' q → F q ∨ w.heap.size ≤ q) (h2 : But F w w') : OB w0 w' F' b s :=
  ⟨h.blk.but h2 h.out, fun hf => by
    rcases h1 b hf with h3 | h3
    · exact h.out h3
    · have := h.blk.lt; omega, h.new⟩
theorem OB.but {w0 w w' : World} {F T : Nat → Prop} {b : Nat} {s : Sp} (h : OB w0 w F b s) (h2 : But T w w') (ht : ¬ T b) : OB w0 w' F b s := ⟨h.blk.but h2 ht, h.out, h.new⟩
end Go.Proofs.Ytnplhagfmfggcaa.Su
