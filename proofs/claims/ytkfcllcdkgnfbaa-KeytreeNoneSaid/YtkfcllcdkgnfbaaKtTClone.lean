/-
  The contracts of the tree's Clone, of a tree and of none.
-/
import Derived.Test.YtkfcllcdkgnfbaaKtCan
namespace Go.Proofs.Ytkfcllcdkgnfbaa.Kt
open Go.RowKit
attribute [local go_sem ↓] Go.wp_at_zero Go.wp_at_succ
/-- What Clone answers: a tree of its own that holds the same. -/
def RetClone (l : List Nd) (w : World) (e : Ending) (w' : World) : Prop :=
  (∃ g2 G, e = .returned (.pointer (some ⟨g2, 0, none⟩)) ∧ Tr w' g2 l G ∧ ∀ k, G k → w.heap.size ≤ k) ∧ Below w.heap.size w w'
set_option maxRecDepth 100000 in
set_option maxHeartbeats 1600000 in
theorem tclone_any (g : Nat) (l : List Nd) (F : Nat → Prop) (w : World) (h : Tr w g l F) :
    Calls Try.prog 26 #[.pointer (some ⟨g, 0, none⟩)] w (RetClone l w) := by
  obtain ⟨A, n, c, ht, _⟩ := h
  have hc0 : ∀ w', Below w.heap.size w w' → w'.cell? ⟨g, 0, none⟩ = some little := fun w' hb => (ht.below hb).c0
  have hc1 : ∀ w', Below w.heap.size w w' → w'.cell? ⟨g, 1, none⟩ = some (.slice A n c) := fun w' hb => (ht.below hb).c1
  have HC0 := Lib.hid hc0
  have HC1 := Lib.hid hc1
  have HT := Lib.hid ht
  clear ht hc0 hc1
  go_enter Try.func26, Try.ntmps26
  go_wp2_with fail
  refine wp_region_held_drew (S := fun w' => Below w.heap.size w w') (by kernel_rfl) (Below.refl _ _).drew (fun hh => ?_)
  have HH := Lib.hid hh
  clear hh
  refine wpAnyH_take (i := 0) (v := ?va0) rfl (by kernel_rfl) (by kernel_rfl) (by kernel_rfl) (fun _ _ _ h => h) (Or.inl ⟨by rfl, fun w' _ => ?ya0⟩) HH.out ?_
  case ya0 => (go_simp; try with_reducible rfl)
  refine wpAnyH_take (i := 1) (v := ?va1) rfl (by kernel_rfl) (by kernel_rfl) (by kernel_rfl) (fun _ _ _ h => h) (Or.inl ⟨by rfl, fun w' _ => ?ya1⟩) HH.out ?_
  case ya1 => (go_simp; try with_reducible rfl)
  try simp only [List.getElem_toArray, List.getElem_cons_succ, List.getElem_cons_zero, Act.put, List.setIfInBounds_toArray, List.set_cons_zero, List.set_cons_succ]
  refine wpAnyH_take (i := 2) (v := ?va2) rfl (by kernel_rfl) (by kernel_rfl) (by kernel_rfl) (fun _ _ _ h => h) (Or.inl ⟨by rfl, fun w' _ => ?ya2⟩) HH.out ?_
  case ya2 => (go_simp; try with_reducible rfl)
  refine wpAnyH_take (i := 3) (v := little) rfl (by kernel_rfl) (by kernel_rfl) (by kernel_rfl) (fun _ _ _ h => h) (Or.inl ⟨by rfl, fun w' hw' => ?ya3⟩) HH.out ?_
  case ya3 => (have cc := HC0.out w' hw'; go_simp; try with_reducible rfl)
  try simp only [List.getElem_toArray, List.getElem_cons_succ, List.getElem_cons_zero, Act.put, List.setIfInBounds_toArray, List.set_cons_zero, List.set_cons_succ]
  refine wpAnyH_take (i := 4) (v := ?va4) rfl (by kernel_rfl) (by kernel_rfl) (by kernel_rfl) (fun _ _ _ h => h) (Or.inl ⟨by rfl, fun w' _ => ?ya4⟩) HH.out ?_
  case ya4 => (go_simp; try with_reducible rfl)
  refine wpAnyH_take (i := 5) (v := ?va5) rfl (by kernel_rfl) (by kernel_rfl) (by kernel_rfl) (fun _ _ _ h => h) (Or.inl ⟨by rfl, fun w' _ => ?ya5⟩) HH.out ?_
  case ya5 => (go_simp; try with_reducible rfl)
  try simp only [List.getElem_toArray, List.getElem_cons_succ, List.getElem_cons_zero, Act.put, List.setIfInBounds_toArray, List.set_cons_zero, List.set_cons_succ]
  refine wpAnyH_take (i := 6) (v := ?va6) rfl (by kernel_rfl) (by kernel_rfl) (by kernel_rfl) (fun _ _ _ h => h) (Or.inl ⟨by rfl, fun w' _ => ?ya6⟩) HH.out ?_
  case ya6 => (go_simp; try with_reducible rfl)
  refine wpAnyH_take (i := 7) (v := .slice A n c) rfl (by kernel_rfl) (by kernel_rfl) (by kernel_rfl) (fun _ _ _ h => h) (Or.inl ⟨by rfl, fun w' hw' => ?ya7⟩) HH.out ?_
  case ya7 => (have cc := HC1.out w' hw'; go_simp; try with_reducible rfl)
  try simp only [List.getElem_toArray, List.getElem_cons_succ, List.getElem_cons_zero, Act.put, List.setIfInBounds_toArray, List.set_cons_zero, List.set_cons_succ]
  refine wpAnyH_ready (rs := [8]) (by kernel_rfl) (by simp) (AllReadyH.cons rfl (fun K hK => ?_) AllReadyH.nil)
  go_simp
  have hsd : w.drew.heap.size = w.heap.size := rfl
  refine (sclone_any A n c l _ HT.out.len HT.out.len3 (B := w.heap.size) (Nat.le_of_eq hsd.symm) (by exact (HT.out.below (Below.refl _ _).drew).rd) (by have := HT.out.few; omega)).mono ?_
  rintro e w2 ⟨A2, n2, c2, rfl, ho, bw⟩
  go_simp
  have hl2 : l.length = n2 := by
    have h1 := ho.1
    rw [nvs_length HT.out.len3] at h1; omega
  have HO := Lib.hid ho
  have HL2 := Lib.hid hl2
  refine hK.out _ _ (HH.out.trans bw) (fun hh => ?_)
  have hs2 := bw.size
  clear ho hl2 bw
  have HH' := Lib.hid hh
  clear hh hK K HH
  have HH := Lib.hid HH'.out
  clear HH'
  try simp only [List.getElem_toArray, List.getElem_cons_succ, List.getElem_cons_zero, Act.put, List.setIfInBounds_toArray, List.set_cons_zero, List.set_cons_succ]
  refine wpAnyH_take (i := 9) (v := .agg #[little, .slice A2 n2 c2]) rfl (by kernel_rfl) (by kernel_rfl) (by kernel_rfl) (fun _ _ _ h => h) (Or.inl ⟨by rfl, fun w' _ => ?ya9⟩) HH.out ?_
  case ya9 => (unfold little; go_simp; try with_reducible rfl)
  try simp only [List.getElem_toArray, List.getElem_cons_succ, List.getElem_cons_zero, Act.put, List.setIfInBounds_toArray, List.set_cons_zero, List.set_cons_succ]
  refine wpAnyH_ready (rs := [10]) (by kernel_rfl) (by simp) (AllReadyH.cons rfl (fun K hK => ?_) AllReadyH.nil)
  go_simp
  obtain ⟨G, hG, hlo⟩ := tr_new (W := w) (base := w.heap.size) HO.out HL2.out HT.out.ok HH.out rfl
  have HG := Lib.hid hG
  have HLO := Lib.hid hlo
  clear hG hlo
  refine hK.out _ _ (HH.out.alloc (by exact hs2) _) (fun hh => ?_)
  have HH' := Lib.hid hh
  clear hh hK K HH
  have HH := Lib.hid HH'.out
  clear HH'
  try simp only [List.getElem_toArray, List.getElem_cons_succ, List.getElem_cons_zero, Act.put, List.setIfInBounds_toArray, List.set_cons_zero, List.set_cons_succ]
  refine wpAnyH_take (i := 11) (v := ?vb11) rfl (by kernel_rfl) (by kernel_rfl) (by kernel_rfl) (fun _ _ _ h => h) (Or.inl ⟨by rfl, fun w' _ => ?yb11⟩) HH.out ?_
  case yb11 => (go_simp; try with_reducible rfl)
  try simp only [List.getElem_toArray, List.getElem_cons_succ, List.getElem_cons_zero, Act.put, List.setIfInBounds_toArray, List.set_cons_zero, List.set_cons_succ]
  refine wpAnyH_done (by kernel_rfl) ?_ _
  try simp only [List.getElem_toArray, List.getElem_cons_succ, List.getElem_cons_zero, Act.put, List.setIfInBounds_toArray, List.set_cons_zero, List.set_cons_succ]
  go_wp2_with fail
  go_ret
  exact ⟨⟨_, G, rfl, HG.out, HLO.out⟩, HH.out⟩
theorem tclone_nil (w : World) : Calls Try.prog 26 #[.pointer none] w (fun e w' => e = .returned (.pointer none) ∧ w' = w) := by
  go_enter Try.func26, Try.ntmps26
  go_wp2_with fail
  go_ret
  exact ⟨rfl, rfl⟩
end Go.Proofs.Ytkfcllcdkgnfbaa.Kt
