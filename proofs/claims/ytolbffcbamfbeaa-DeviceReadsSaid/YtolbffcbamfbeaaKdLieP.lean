/-
  A device that lies; a row of sectors that is appended to. The rows of deeds in the laws.
-/
import Derived.Test.YtolbffcbamfbeaaKdDeed
namespace Go.Proofs.Ytolbffcbamfbeaa.Kd
open Go.RowKit Go.Maps
/-- One device of L empty sectors, of which these writes wait; does it lie? -/
def lieS (L : Nat) (b : Bool) (wt : List (Nat × List UInt8)) : Sy := ⟨⟨false, -1⟩, [⟨List.replicate L zeroS, wt, 0, 0, b, false⟩]⟩
variable {L : Nat} {b : Bool} {wt : List (Nat × List UInt8)} {i : Int} {s : List UInt8}
theorem lie_refuse (h : 0 ≤ i ∧ i < (L : Int)) : refuseN (lieS L b wt).p ((lieS L b wt).at 0) i = 0 := by
  show (if (false || false) = true then (13 : Int) else if i < 0 ∨ ((List.replicate L zeroS).length : Int) ≤ i then 2 else 0) = 0
  rw [if_neg (by simp), if_neg (by rw [List.length_replicate]; omega)]
theorem lie_wy (h : 0 ≤ i ∧ i < (L : Int)) : (lieS L b wt).write 0 i s = (0, lieS L b (wt ++ [(i.toNat, s)])) := by
  obtain ⟨n, rfl⟩ := Int.eq_ofNat_of_zero_le h.1
  rw [write_yes (lie_refuse h)]; rfl
theorem lie_wn (h : ¬ (0 ≤ i ∧ i < (L : Int))) : (lieS L b wt).write 0 i s = (2, lieS L b wt) := by
  have hr : refuseN (lieS L b wt).p ((lieS L b wt).at 0) i = 2 := by
    show (if (false || false) = true then (13 : Int) else if i < 0 ∨ ((List.replicate L zeroS).length : Int) ≤ i then 2 else 0) = 2
    rw [if_neg (by simp), if_pos (by rw [List.length_replicate]; omega)]
  rw [write_no (by rw [hr]; decide), hr]
theorem lie_f : (lieS L true wt).flush 0 = (0, lieS L true wt) := rfl
theorem lie_off : (lieS L true wt).put 0 (((lieS L true wt).at 0).lie false) = lieS L false wt := rfl
theorem lie_on : (S0.new (20 : Int)).put 0 (((S0.new 20).at 0).lie true) = lieS 20 true [] := by kernel_rfl
/-- .. when all is flushed. -/
def lieE (L : Nat) (wt : List (Nat × List UInt8)) : Sy := ⟨⟨false, -1⟩, [⟨flushL (List.replicate L zeroS) wt, [], 0, 0, false, false⟩]⟩
theorem lie_e : (lieS L false wt).flush 0 = (0, lieE L wt) := rfl
theorem lie_len : ((lieS L b wt).at 0).st.length = L := by show (List.replicate L zeroS).length = L; rw [List.length_replicate]
theorem lie_secs : ∀ x ∈ List.replicate L zeroS, x.length = 128 := fun x hx => by rw [List.eq_of_mem_replicate hx]; exact zeroS_length
theorem lie_wait : (((lieS L b wt).at 0).wt.length : Int) = (wt.length : Int) := rfl
theorem lieE_st : ((lieE L wt).at 0).st = (List.range L).map (nowL (List.replicate L zeroS) wt) := by
  show flushL (List.replicate L zeroS) wt = _
  rw [flush_now, List.length_replicate]
theorem lieE_wait : (((lieE L wt).at 0).wt.length : Int) = 0 := rfl
theorem lie_read {k : Nat} (h : k < L) : readV (lieS L b wt).p ((lieS L b wt).at 0) (k : Int) = .tuple #[.agg (bva (nowL (List.replicate L zeroS) wt k)), .int .i64 0] := by
  rw [readV_yes (lie_refuse (by omega))]; rfl
/-- A row of sectors in new memory that is none of the devices'. -/
def RowN (w0 w : World) (F : Nat → Prop) (v : Value) (n : Nat) (l : List (List UInt8)) : Prop := w.ownsRow w0.heap.size 38 128 v n (svs l) ∧ ∀ q, v.ownBlock = some q → ¬ F q
section
variable {w0 w w' : World} {F F' : Nat → Prop} {v : Value} {n : Nat} {l : List (List UInt8)}
theorem RowN.step (h : RowN w0 w F v n l) (h1 : ∀ q, F' q → F q ∨ w.heap.size ≤ q) (h2 : But F w w') : RowN w0 w' F' v n l :=
  ⟨Own.but h.1 h2 h.2, fun q hq hf => by
    rcases h1 q hf with h3 | h3
    · exact h.2 q hq h3
    · have := (h.1.lt q hq).2; omega⟩
theorem RowN.below (h : RowN w0 w F v n l) (hb : Below w.heap.size w w') : RowN w0 w' F v n l := ⟨own_belowN h.1 hb, h.2⟩
theorem RowN.app {A' : Option Addr} {m c' : Nat} {y : List UInt8} (h : RowN w0 w F v n l) (hF : ∀ q, F q → q < w.heap.size) (ho : w'.ownsRow w0.heap.size 38 128 (.slice A' m c') m (svs l ++ bv y))
    (hor : (Value.slice A' m c').ownBlock = v.ownBlock ∨ (Value.slice A' m c').ownBlock = some w.heap.size) : RowN w0 w' F (.slice A' m c') m (l ++ [y]) :=
  ⟨by rw [svs_append, svs, svs, List.append_nil]; exact ho, fun q hq hf => by
    rcases hor with h1 | h1
    · exact h.2 q (h1 ▸ hq) hf
    · rw [h1] at hq; injection hq with hq; have := hF q hf; omega⟩
theorem rowN_nil : RowN w0 w F (.slice none 0 0) 0 [] := ⟨World.ownsRow_nil _ _ _ _, fun q hq => by cases hq⟩
/-- The devices behind an append to such a row. -/
theorem Live.app8 {p : Nat} {gs : List Nat} {S : Sy} (h : Live w0 w p gs S F) (hr : RowN w0 w F v n l) (hg : w.grownBy w' v.ownBlock) : Live w0 w' p gs S F :=
  h.but8 (T := fun q => v.ownBlock = some q) ((But.refl w).grown hg (fun _ hq => .inl hq)) (fun q hf hq => hr.2 q hq hf) (fun q hq => (hr.1.lt q hq).1)
end
end Go.Proofs.Ytolbffcbamfbeaa.Kd
