/-
  Texts of this seat, one behind the other: SuWant.
-/
import Derived.Deep.MidRow
import Derived.Test.YtnplhagfmfggcaaSb1
/-
  What stands behind a super that was written; four sectors in a row of one's own.
-/
namespace Go.Proofs.Ytnplhagfmfggcaa.Su
open Go.RowKit Kd Mi Sx
attribute [local go_sem ↓] Go.wp_at_zero Go.wp_at_succ
def svQ (l : List (List UInt8)) : Array Value := (svs l).toArray
set_option maxRecDepth 100000 in
theorem make_four (W : World) : (Instr.makeSlice 43 (.int .i64 4) (.int .i64 4)).run Try.prog W = .ok (.slice (some ⟨W.heap.size, 0, none⟩) 4 4) (W.alloc (.cells (svQ zeros4) 38)) := by kernel_rfl
theorem want_set {w : World} {b k : Nat} {W : List (List UInt8)} {y : List UInt8} (hb : Blk w b (svQ W) 38) (h3 : ∀ s ∈ W, s.length = 128) (hy : y.length = 128) (hk : k < W.length) :
    w.there b (k * 128) (bva y).size ∧ Blk (w.setCells b (k * 128) (bva y).toList) b (svQ (W.set k y)) 38 := by
  have hl : k * 128 + (bv y).length ≤ (svs W).length := by rw [bv_length, hy, svs_length h3]; omega
  have hr := row_setCells b 38 (bv y) (k * 128) w (svs W) hb hl
  refine ⟨?_, ?_⟩
  · have h := there_of_blk hb hl
    rwa [show (bv y).length = (bva y).size by rw [bv_length, bva_size]] at h
  · unfold Blk svQ
    rw [svs_splice h3 hy hk]
    exact hr
/-- What stands then. -/
def lwL (t : Sp) : List (List UInt8) := if okP t then zeros4.set (placeP t) (secP litSumL t) else zeros4
theorem lwL_len (t : Sp) : (lwL t).length = 4 := by unfold lwL; split <;> simp [zeros4]
theorem lwL_three (t : Sp) : ∀ y ∈ lwL t, y.length = 128 := by
  intro y hy
  unfold lwL at hy
  have hz : ∀ y ∈ zeros4, y.length = 128 := fun y hy => by rw [(List.mem_replicate.1 hy).2]; exact zeroS_length
  split at hy
  · rcases List.mem_or_eq_of_mem_set hy with h | rfl
    · exact hz y h
    · exact len_sec t
  · exact hz y hy
theorem rd_any {w : World} {B : Nat} {A : Option Addr} {L : List (List UInt8)} (h : Rd B w A (svs L)) (h3 : ∀ y ∈ L, y.length = 128) {k : Nat} (hk : k < L.length) : ∃ ad, A = some ad ∧ ∀ j v, (bv (L.getD k zeroS))[j]? = some v → w.cell? ((ad.add (k * 128)).add j) = some v := by
  obtain ⟨ad, hA, _, hc⟩ := rd_sec h h3 hk
  refine ⟨ad, hA, ?_⟩
  rw [List.getD_eq_getElem?_getD, List.getElem?_eq_getElem hk]
  exact hc
theorem tmod_place (t : Sp) : (t.v : Int).tmod 2 = ((placeP t : Nat) : Int) := by rw [Int.tmod_eq_emod_of_nonneg (by omega)]; rfl
theorem rd_blk {w : World} {b : Nat} {L : List (List UInt8)} (h : Blk w b (svQ L) 38) : Rd w.heap.size w (some ⟨b, 0, none⟩) (svs L) := fun j v hv => ⟨_, rfl, h.lt, by rw [Addr.add_mid, h.cell, Nat.zero_add]; simpa [svQ] using hv⟩
theorem getD_three {L : List (List UInt8)} (h3 : ∀ y ∈ L, y.length = 128) (k : Nat) : (L.getD k zeroS).length = 128 := by
  rw [List.getD_eq_getElem?_getD]
  rcases Nat.lt_or_ge k L.length with h | h
  · rw [List.getElem?_eq_getElem h]; exact h3 _ (List.getElem_mem h)
  · rw [List.getElem?_eq_none h]; exact zeroS_length
theorem _root_.Go.Proofs.Ytnplhagfmfggcaa.Mu.LM.drewL {p g1 g2 g m : Nat} {G : Gd} {w0 w : World} {s : Mr (Mu.one p g1 g2)} {F : Nat → Prop} {x : Md} (h : Mu.LM p g1 g2 G g w0 w s F x m) : Mu.LM p g1 g2 G g w0 w.drew s F x m := h.below (Below.refl _ _).drew
section
variable {p g1 g2 g n : Nat} {G : Gd} {w0 w : World} {s : Mr (Mu.one p g1 g2)} {F : Nat → Prop} {L M : List (List UInt8)}
theorem dump_st0 (h : Mu.LM p g1 g2 G g w0 w s F (Sc.startM L M n) 0) : Calls Try.prog 23 #[.pointer (some ⟨g1, 0, none⟩)] w (fun e w' => ∃ A c, e = .returned (.slice A n c) ∧ Rd w'.heap.size w' A (svs L) ∧ Below w.heap.size w w' ∧ n ≤ 9223372036854775807) := by
  refine (su_dump0 h).mono ?_
  rintro e w' ⟨A, c, rfl, ho, _, hb⟩
  rw [Sc.start_len] at ho ⊢
  have hc := own_cap ho
  unfold maxLen at hc
  exact ⟨A, c, rfl, Rd.ownN ho, hb, by omega⟩
theorem dump_st1 (h : Mu.LM p g1 g2 G g w0 w s F (Sc.startM L M n) 0) : Calls Try.prog 23 #[.pointer (some ⟨g2, 0, none⟩)] w (fun e w' => ∃ A c, e = .returned (.slice A n c) ∧ Rd w'.heap.size w' A (svs M) ∧ Below w.heap.size w w' ∧ n ≤ 9223372036854775807) := by
  refine (su_dump1 h).mono ?_
  rintro e w' ⟨A, c, rfl, ho, _, hb⟩
  rw [Sc.start_len] at ho ⊢
  have hc := own_cap ho
  unfold maxLen at hc
  exact ⟨A, c, rfl, Rd.ownN ho, hb, by omega⟩
end
end Go.Proofs.Ytnplhagfmfggcaa.Su
