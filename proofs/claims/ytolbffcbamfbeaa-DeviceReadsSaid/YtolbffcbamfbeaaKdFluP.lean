/-
  A device of which nothing waits, told to be torn; power fails, and comes back. No program.
-/
import Derived.Test.YtolbffcbamfbeaaKdLieP
namespace Go.Proofs.Ytolbffcbamfbeaa.Kd
def fluS (o : Bool) (lf : Int) (st : List (List UInt8)) (x y : Int) : Sy := ⟨⟨o, lf⟩, [⟨st, [], keptN x, bytesN y, false, false⟩]⟩
variable {L : Nat} {wt : List (Nat × List UInt8)} {st : List (List UInt8)} {x y : Int}
theorem flu_new (x : Int) : S0.new x = lieS (clampN x) false [] := rfl
theorem flu_e : lieE L wt = fluS false (-1) (flushL (List.replicate L zeroS) wt) 0 0 := rfl
theorem flu_len : (flushL (List.replicate L zeroS) wt).length = L := by rw [flush_length, List.length_replicate]
theorem flu_t : (fluS false (-1) st 0 0).put 0 (((fluS false (-1) st 0 0).at 0).tear x y) = fluS false (-1) st x y := rfl
theorem flu_f : (fluS false (-1) st x y).fail 0 = fluS false 0 st x y := rfl
theorem flu_fl : (fluS false 0 st x y).flush 0 = (13, fluS true (-1) st x y) := rfl
theorem flu_re : (fluS true (-1) st x y).restart = fluS false (-1) st x y := rfl
theorem flu_st {o : Bool} {lf : Int} : ((fluS o lf st x y).at 0).st = st := rfl
theorem flu_wait {o : Bool} {lf : Int} : (((fluS o lf st x y).at 0).wt.length : Int) = 0 := rfl
theorem flu_read {k : Nat} (h : k < st.length) : readV (fluS false (-1) st x y).p ((fluS false (-1) st x y).at 0) (k : Int) = .tuple #[.agg (bva (st.getD k zeroS)), .int .i64 0] := by
  have hr : refuseN (fluS false (-1) st x y).p ((fluS false (-1) st x y).at 0) (k : Int) = 0 := by
    show (if (false || false) = true then (13 : Int) else if (k : Int) < 0 ∨ (st.length : Int) ≤ k then 2 else 0) = 0
    rw [if_neg (by simp), if_neg (by omega)]
  rw [readV_yes hr]; rfl
theorem take_snoc8 {k : Nat} (h : k < st.length) : st.take (k + 1) = st.take k ++ [st.getD k zeroS] := by
  rw [List.take_succ_eq_append_getElem h, List.getD_eq_getElem?_getD, List.getElem?_eq_getElem h]; rfl
end Go.Proofs.Ytolbffcbamfbeaa.Kd
