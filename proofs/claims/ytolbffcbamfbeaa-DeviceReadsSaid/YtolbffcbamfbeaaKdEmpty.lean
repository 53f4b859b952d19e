/-
  The contracts of the device's empty, of its little functions, and of Tear, Lie, Len, Waiting.
-/
import Derived.Test.YtolbffcbamfbeaaKdDev
namespace Go.Proofs.Ytolbffcbamfbeaa.Kd
open Go.RowKit Go.Maps
attribute [local go_sem ↓] Go.wp_at_zero Go.wp_at_succ
theorem but_one {w : World} {g o : Nat} (v : Value) : But (fun k => k = g) w (w.setCell ⟨g, o, none⟩ v) := But.setCell (S := fun k => k = g) (But.refl _) (Or.inl (show g = g from rfl)) _
set_option maxRecDepth 100000 in
set_option maxHeartbeats 1600000 in
theorem empty_any {g : Nat} {w : World} (PV SV WV MV kv bv' lv gv : Value) (hp : Blk w g #[PV, SV, WV, MV, kv, bv', lv, gv] 74) :
    Calls Try.prog 33 #[.pointer (some ⟨g, 0, none⟩)] w (fun e w' => e = .returned (.tuple #[]) ∧ Blk w' g #[PV, SV, .slice none 0 0, .map (some w.heap.size), kv, bv', lv, gv] 74 ∧ w'.ownsMap Try.prog 3 (intP Try.prog) w.heap.size 0 (.map []) ∧ But (fun k => k = g) w w') := by
  have HP := Lib.hid hp
  have hlt := hp.lt
  have HLT := Lib.hid hlt
  have hmm := @run_makeMap Try.prog
  have c2 : w.cell? ⟨g, 2, none⟩ = some WV := hp.cell 2
  have c3 : w.cell? ⟨g, 3, none⟩ = some MV := hp.cell 3
  have f2 := hp.free 2
  have f3 := hp.free 3
  clear hp
  go_enter Try.func33, Try.ntmps33
  go_wp2_with fail
  refine bodyPost_end (results_none Try.results33 _ _ _) rfl ⟨rfl, blk_old8 (blk_setN8 (blk_setN8 HP.out 2 _) 3 _), ?_, ?_⟩
  · have h := World.ownsMap_made ((w.setCell ⟨g, 2, none⟩ (.slice none 0 0)).setCell ⟨g, 3, none⟩ (.map (some w.heap.size))) Try.prog 3 (intP Try.prog)
    simpa using h
  · exact But.alloc (But.setCell (S := fun k => k = g) (but_one _) (Or.inl (show g = g from rfl)) _) _
end Go.Proofs.Ytolbffcbamfbeaa.Kd
