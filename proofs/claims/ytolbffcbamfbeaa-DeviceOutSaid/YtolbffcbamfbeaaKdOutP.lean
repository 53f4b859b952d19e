/-
  A device that goes out, and comes back. No program.
-/
import Derived.Test.YtolbffcbamfbeaaKdFine
namespace Go.Proofs.Ytolbffcbamfbeaa.Kd
def z20 : List (List UInt8) := List.replicate 20 zeroS
def s20 (s : List UInt8) : List (List UInt8) := z20.set 3 s
def dvB : Dv := ⟨z20, [], 0, 0, false, false⟩
def ou0 : Sy := ⟨⟨false, -1⟩, [dvB, dvB]⟩
def ou1 (s : List UInt8) : Sy := ⟨⟨false, -1⟩, [⟨z20, [(3, s)], 0, 0, false, false⟩, dvB]⟩
def ou2 (s : List UInt8) : Sy := ⟨⟨false, -1⟩, [⟨s20 s, [], 0, 0, false, false⟩, dvB]⟩
def ou3 (s : List UInt8) : Sy := ⟨⟨false, -1⟩, [⟨s20 s, [(4, s)], 0, 0, false, false⟩, dvB]⟩
def ou4 (s : List UInt8) : Sy := ⟨⟨false, -1⟩, [⟨s20 s, [], 0, 0, false, true⟩, dvB]⟩
def ou5 (s : List UInt8) : Sy := ⟨⟨false, -1⟩, [⟨s20 s, [], 0, 0, false, true⟩, ⟨z20, [(5, s)], 0, 0, false, false⟩]⟩
def ou6 (s : List UInt8) (x : Int) : Sy := ⟨⟨false, -1⟩, [⟨s20 s, [], keptN x, 128, false, true⟩, ⟨z20, [(5, s)], 0, 0, false, false⟩]⟩
def ou7 (s : List UInt8) (x : Int) : Sy := ⟨⟨false, 0⟩, [⟨s20 s, [], keptN x, 128, false, true⟩, ⟨z20, [(5, s)], 0, 0, false, false⟩]⟩
def ou8 (s : List UInt8) (x : Int) : Sy := ⟨⟨true, -1⟩, [⟨s20 s, [], keptN x, 128, false, true⟩, (⟨z20, [(5, s)], 0, 0, false, false⟩ : Dv).fall]⟩
def ou9 (s : List UInt8) (x : Int) : Sy := ⟨⟨false, -1⟩, [⟨s20 s, [], keptN x, 128, false, true⟩, (⟨z20, [(5, s)], 0, 0, false, false⟩ : Dv).fall]⟩
def ouA (s : List UInt8) (x : Int) : Sy := ⟨⟨false, -1⟩, [⟨s20 s, [], keptN x, 128, false, false⟩, (⟨z20, [(5, s)], 0, 0, false, false⟩ : Dv).fall]⟩
variable (s : List UInt8) (x : Int)
theorem ou_new : ((S0.new 20).new 20) = ou0 := by kernel_rfl
theorem ou_w1 : ou0.write 0 3 s = (0, ou1 s) := by kernel_rfl
theorem ou_f1 : (ou1 s).flush 0 = (0, ou2 s) := by kernel_rfl
theorem ou_w2 : (ou2 s).write 0 4 s = (0, ou3 s) := by kernel_rfl
theorem ou_o1 : (ou3 s).put 0 (((ou3 s).at 0).out true) = ou4 s := by kernel_rfl
theorem ou_r1 (i : Int) : refuseN (ou4 s).p ((ou4 s).at 0) i = 13 := by kernel_rfl
theorem ou_w3 (i : Int) : (ou4 s).write 0 i s = (13, ou4 s) := by rw [write_no (by rw [ou_r1]; decide), ou_r1]
theorem ou_f2 : (ou4 s).flush 0 = (13, ou4 s) := by kernel_rfl
theorem ou_w4 : (ou4 s).write 1 5 s = (0, ou5 s) := by kernel_rfl
theorem ou_t : (ou5 s).put 0 (((ou5 s).at 0).tear x 128) = ou6 s x := by kernel_rfl
theorem ou_fl : (ou6 s x).fail 0 = ou7 s x := by kernel_rfl
theorem ou_f3 : (ou7 s x).flush 1 = (13, ou8 s x) := by kernel_rfl
theorem ou_re : (ou8 s x).restart = ou9 s x := by kernel_rfl
theorem ou_r2 : refuseN (ou9 s x).p ((ou9 s x).at 0) 3 = 13 := by kernel_rfl
theorem ou_o2 : (ou9 s x).put 0 (((ou9 s x).at 0).out false) = ouA s x := by kernel_rfl
theorem ou_rd3 : readV (ouA s x).p ((ouA s x).at 0) 3 = .tuple #[.agg (bva s), .int .i64 0] := by kernel_rfl
theorem ou_rd4 : readV (ouA s x).p ((ouA s x).at 0) 4 = .tuple #[.agg (bva zeroS), .int .i64 0] := by kernel_rfl
theorem ou_same : ((ou8 s x).at 0).st = ((ou3 s).at 0).st := by kernel_rfl
theorem ou_wait : (((ou4 s).at 0).wt.length : Int) = 0 := by kernel_rfl
theorem ou_len : ((ou3 s).at 0).st.length = 20 := by kernel_rfl
end Go.Proofs.Ytolbffcbamfbeaa.Kd
