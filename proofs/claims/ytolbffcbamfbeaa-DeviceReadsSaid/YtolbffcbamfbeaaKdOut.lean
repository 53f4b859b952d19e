/-
  The contracts of the reference's Out and Tear.
-/
import Derived.Test.YtolbffcbamfbeaaKdStep
namespace Go.Proofs.Ytolbffcbamfbeaa.Kd
open Go.RowKit
attribute [local go_sem ↓] Go.wp_at_zero Go.wp_at_succ
set_option maxRecDepth 100000 in
set_option maxHeartbeats 1600000 in
theorem rout_any {g : Nat} {w : World} (SV WV : Value) (k b : Int) (l gn on : Bool) (hp : Blk w g #[SV, WV, .int .i64 k, .int .i64 b, .bool l, .bool gn] 46) :
    Calls Try.prog 40 #[.pointer (some ⟨g, 0, none⟩), .bool on] w (fun e w' => e = .returned (.tuple #[]) ∧ Blk w' g #[SV, if on && !gn then .slice none 0 0 else WV, .int .i64 k, .int .i64 b, .bool l, .bool on] 46 ∧ But (fun k => k = g) w w') := by
  have HP := Lib.hid hp
  have c5 : w.cell? ⟨g, 5, none⟩ = some (.bool gn) := hp.cell 5
  have c1 : w.cell? ⟨g, 1, none⟩ = some WV := hp.cell 1
  have f1 := hp.free 1
  have f5 := hp.free 5
  clear hp
  cases on
  · go_enter Try.func40, Try.ntmps40
    go_wp2_with fail
    refine bodyPost_end (results_none Try.results40 _ _ _) rfl ⟨rfl, blk_setN8 HP.out 5 _, But.setCell (S := fun k => k = g) (But.refl _) (Or.inl (show g = g from rfl)) _⟩
  · cases gn
    · go_enter Try.func40, Try.ntmps40
      go_wp2_with fail
      refine bodyPost_end (results_none Try.results40 _ _ _) rfl ⟨rfl, blk_setN8 (blk_setN8 HP.out 1 _) 5 _, But.setCell (S := fun k => k = g) (But.setCell (S := fun k => k = g) (But.refl _) (Or.inl (show g = g from rfl)) _) (Or.inl (show g = g from rfl)) _⟩
    · go_enter Try.func40, Try.ntmps40
      go_wp2_with fail
      refine bodyPost_end (results_none Try.results40 _ _ _) rfl ⟨rfl, blk_setN8 HP.out 5 _, But.setCell (S := fun k => k = g) (But.refl _) (Or.inl (show g = g from rfl)) _⟩
theorem blk_eq8 {w : World} {g : Nat} {cs cs' : Array Value} {A : TypeId} (h : Blk w g cs A) (e : cs = cs') : Blk w g cs' A := e ▸ h
/-- What Tear keeps of what it is told. -/
def keptN (k : Int) : Int := max k 0
def bytesN (b : Int) : Int := max 0 (min b 128)
set_option maxRecDepth 100000 in
set_option maxHeartbeats 1600000 in
theorem rtear_any {g : Nat} {w : World} (SV WV : Value) (k b : Int) (l gn : Bool) (x y : Int) (hp : Blk w g #[SV, WV, .int .i64 k, .int .i64 b, .bool l, .bool gn] 46) :
    Calls Try.prog 39 #[.pointer (some ⟨g, 0, none⟩), .int .i64 x, .int .i64 y] w (fun e w' => e = .returned (.tuple #[]) ∧ Blk w' g #[SV, WV, .int .i64 (keptN x), .int .i64 (bytesN y), .bool l, .bool gn] 46 ∧ But (fun k => k = g) w w') := by
  have HP := Lib.hid hp
  have c2 : w.cell? ⟨g, 2, none⟩ = some (.int .i64 k) := hp.cell 2
  have c3 : w.cell? ⟨g, 3, none⟩ = some (.int .i64 b) := hp.cell 3
  have f2 := hp.free 2
  have f3 := hp.free 3
  clear hp
  go_enter Try.func39, Try.ntmps39
  go_wp2_with fail
  all_goals
    refine bodyPost_end (results_none Try.results39 _ _ _) rfl ⟨rfl, blk_eq8 (blk_setN8 (blk_setN8 HP.out 2 _) 3 _) ?_, But.setCell (S := fun k => k = g) (But.setCell (S := fun k => k = g) (But.refl _) (Or.inl (show g = g from rfl)) _) (Or.inl (show g = g from rfl)) _⟩
    simp only [List.setIfInBounds_toArray, List.set_cons_succ, List.set_cons_zero, Array.mk.injEq, List.cons.injEq, Value.int.injEq, true_and, and_true, keptN, bytesN]
    omega
end Go.Proofs.Ytolbffcbamfbeaa.Kd
