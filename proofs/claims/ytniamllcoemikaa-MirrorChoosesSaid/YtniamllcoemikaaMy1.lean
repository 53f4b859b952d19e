/-
  Texts of this seat, one behind the other: ScTurnP.
-/
import Derived.Test.YtniamllcoemikaaMv1
/-
  Which device is the first one plays no part. No program.
-/
namespace Go.Proofs.Ytniamllcoemikaa.Sc
open Kd Mi
variable {f : Int → List UInt8 → Bool}
theorem ck_turn (k : Nat) (u v : List UInt8) : ck f k u v = ck f k v u := by
  unfold ck
  by_cases e : u = v
  · subst e; rfl
  · rw [decide_eq_false e, decide_eq_false (fun h => e h.symm)]
    cases f k u <;> cases f k v <;> rfl
theorem cnt_turn (l0 l1 : List (List UInt8)) : ∀ k, cntK f l0 l1 k = cntK f l1 l0 k
  | 0 => rfl
  | k + 1 => by rw [cntK, cntK, cnt_turn l0 l1 k, ck_turn]
/-- What is read behind scrubbing. -/
theorem read_run {x : Md} {n k : Nat} (h : Fresh x n) (hk : k < n) : (mdRun f (x, Wk.zero) n).1.read f k = if f k (x.l0.getD k zeroS) || f k (x.l1.getD k zeroS) then (hl0 f k (x.l0.getD k zeroS) (x.l1.getD k zeroS), 0) else (zeroS, 9) := by
  obtain ⟨h1, _, h3, h4⟩ := h.run (f := f) n (Nat.le_refl _)
  rw [read_fresh h1 hk, h3 k hk, h4 k hk, if_pos hk, if_pos hk]
  unfold rd3
  rw [good_hl0 (f := f), good_hl1 (f := f)]
  cases h5 : (f k (x.l0.getD k zeroS) || f k (x.l1.getD k zeroS)) <;> simp
/-- What both mirrors read. -/
theorem turn_reads {u v : List UInt8} (k : Nat) : ∃ X Y : List UInt8, ∃ e : Int, (if f k u || f k v then (hl0 f k u v, (0 : Int)) else (zeroS, 9)) = (X, e) ∧ (if f k v || f k u then (hl0 f k v u, (0 : Int)) else (zeroS, 9)) = (Y, e) ∧ (X = Y ∨ (f k u = true ∧ f k v = true ∧ u ≠ v)) ∧ (u.length = 128 → v.length = 128 → X.length = 128 ∧ Y.length = 128) := by
  unfold hl0
  cases hu : f k u <;> cases hv : f k v
  · exact ⟨zeroS, zeroS, 9, rfl, rfl, .inl rfl, fun _ _ => ⟨zeroS_length, zeroS_length⟩⟩
  · exact ⟨v, v, 0, rfl, rfl, .inl rfl, fun _ h => ⟨h, h⟩⟩
  · exact ⟨u, u, 0, rfl, rfl, .inl rfl, fun h _ => ⟨h, h⟩⟩
  · refine ⟨u, v, 0, rfl, rfl, ?_, fun h h' => ⟨h, h'⟩⟩
    by_cases e : u = v
    · exact .inl e
    · exact .inr ⟨rfl, rfl, e⟩
end Go.Proofs.Ytniamllcoemikaa.Sc
