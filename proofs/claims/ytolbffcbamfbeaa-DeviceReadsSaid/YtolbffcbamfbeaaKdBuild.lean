/-
  Waits and devices that are built of their parts.
-/
import Derived.Test.YtolbffcbamfbeaaKdOper
import Derived.Test.YtolbffcbamfbeaaFillL
namespace Go.Proofs.Ytolbffcbamfbeaa.Kd
open Go.RowKit Go.Maps
attribute [local go_sem ↓] Go.wp_at_zero Go.wp_at_succ
def placesW (i : Nat) : Option (Nat × Nat) := #[(0, 1), (1, 128)][i]?
set_option maxRecDepth 100000 in
theorem build_dwait (x : Nat × List UInt8) (hs : x.2.length = 128) (W : World) : (Instr.build 82 #[(0, .int .i64 (x.1 : Int)), (1, .agg (bva x.2))]).run Try.prog W = .ok (.agg (wva x)) W := by
  have h := build_struct (P := Try.prog) W 82 [(0, .int .i64 (x.1 : Int)), (1, .agg (bva x.2))] placesW (wva (0, zeroS)) (by kernel_rfl)
    ⟨rfl, by show placesW 1 = some (1, (bva x.2).size); rw [bva_size, hs]; rfl, trivial⟩ (by
      rw [wva_size zeroS_length]
      show (Value.int .i64 (x.1 : Int) :: ((bva x.2).toList ++ [])).length = _
      rw [List.length_cons, List.length_append, Array.length_toList, bva_size, hs]; rfl)
  have e : (cellsOf [(0, .int .i64 (x.1 : Int)), (1, .agg (bva x.2))]).toArray = wva x := by
    show (Value.int .i64 (x.1 : Int) :: ((bva x.2).toList ++ [])).toArray = _
    rw [List.append_nil]; rfl
  rw [e] at h
  exact h
theorem info_dwaitW : (Try.prog.info? 82).map (fun i => (i.zero, i.size, i.bytes)) = some (some (.agg (wva (0, zeroS))), 129, 136) := by kernel_rfl
theorem dwaitsElt : EltN Try.prog 71 82 (.agg (wva (0, zeroS))) 129 136 := ⟨Try.underlying71, info_dwaitW, wva_size zeroS_length, by omega, by omega⟩
end Go.Proofs.Ytolbffcbamfbeaa.Kd
