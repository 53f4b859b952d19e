/-
  The contract of the reference's step: an operation is counted.
-/
import Derived.Test.YtolbffcbamfbeaaKdRead
namespace Go.Proofs.Ytolbffcbamfbeaa.Kd
open Go.RowKit
attribute [local go_sem ↓] Go.wp_at_zero Go.wp_at_succ
/-- How many are left behind an operation. -/
def leftN (lf : Int) : Int := if lf < 0 then lf else lf - 1
theorem step_left (P : Pw) : P.step.left = leftN P.left := by unfold Pw.step leftN; split <;> rfl
def failsB (lf : Int) : Bool := decide (0 ≤ lf) && decide (lf - 1 < 0)
theorem blk_setN8 {w : World} {g : Nat} {cs : Array Value} {A : TypeId} (h : Blk w g cs A) (k : Nat) (v : Value) : Blk (w.setCell ⟨g, k, none⟩ v) g (cs.setIfInBounds k v) A := heap_setCell_same _ _ _ _ _ _ h
set_option maxRecDepth 100000 in
set_option maxHeartbeats 1600000 in
theorem rstep_any {p : Nat} {w : World} (LV : Value) (o : Bool) (lf : Int) (hl : lf ≤ 9223372036854775807) (hp : Blk w p #[LV, .bool o, .int .i64 lf] 29) :
    Calls Try.prog 47 #[.pointer (some ⟨p, 0, none⟩)] w (fun e w' => e = .returned (.bool (failsB lf)) ∧ Blk w' p #[LV, .bool o, .int .i64 (leftN lf)] 29 ∧ But (fun k => k = p) w w') := by
  have HP := Lib.hid hp
  have c2 : w.cell? ⟨p, 2, none⟩ = some (.int .i64 lf) := hp.cell 2
  have f2 := hp.free 2
  clear hp
  by_cases h0 : lf < 0
  · have d0 : decide (lf < 0) = true := decide_eq_true h0
    have HL := Lib.hid (show leftN lf = lf by unfold leftN; rw [if_pos h0])
    have HF := Lib.hid (show failsB lf = false by unfold failsB; rw [decide_eq_false (by omega)]; rfl)
    clear h0
    go_enter Try.func47, Try.ntmps47
    go_wp2_with fail
    go_ret
    exact ⟨by rw [HF.out]; rfl, by rw [HL.out]; exact HP.out, But.refl _⟩
  · have d0 : decide (lf < 0) = false := decide_eq_false h0
    have es : IntKind.i64.wrap (lf - 1) = lf - 1 := IntWalk.i64_in _ (by omega)
    have HL := Lib.hid (show leftN lf = lf - 1 by unfold leftN; rw [if_neg h0])
    obtain ⟨b, hb⟩ : ∃ b, b = decide (lf - 1 < 0) := ⟨_, rfl⟩
    have hb' := hb.symm
    have HF := Lib.hid (show failsB lf = b by unfold failsB; rw [decide_eq_true (show 0 ≤ lf by omega), hb]; rfl)
    clear h0 hb
    go_enter Try.func47, Try.ntmps47
    go_wp2_with fail
    go_ret
    exact ⟨by rw [HF.out]; rfl, by rw [HL.out]; exact blk_setN8 HP.out 2 _, But.setCell (S := fun k => k = p) (But.refl _) (Or.inl (show p = p from rfl)) _⟩
end Go.Proofs.Ytolbffcbamfbeaa.Kd
