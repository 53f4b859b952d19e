/-
  The contract of slices.Delete at a tree's nodes: one node is taken out of a row of the call's own.
-/
import Derived.Test.YtkfcllcdkgnfbaaKtPunct
import Derived.Test.YtkfcllcdkgnfbaaKtArr
namespace Go.Proofs.Ytkfcllcdkgnfbaa.Kt
open Go.RowKit
attribute [local go_sem ↓] Go.wp_at_zero Go.wp_at_succ
theorem info_heldW : (Try.prog.info? 48).map (fun i => (i.zero, i.size, i.bytes)) = some (some (.agg (ndC zeroNd)), 34, 48) := by kernel_rfl
theorem heldsElt : EltN Try.prog 40 48 (.agg (ndC zeroNd)) 34 48 := ⟨Try.underlying40, info_heldW, ndC_size rfl, by omega, by omega⟩
theorem info_held : (Try.prog.info? 48).map (·.size) = some 34 := by kernel_rfl
theorem nvs_take {l : List Nd} (h : ∀ x ∈ l, x.s.length = 32) (k : Nat) : nvs (l.take k) = (nvs l).take (k * 34) := by
  induction l generalizing k with
  | nil => simp [nvs]
  | cons x l ih =>
    cases k with
    | zero => simp [nvs]
    | succ k =>
      have h34 := ndV_length (h x (by simp))
      rw [List.take_succ_cons, nvs, nvs, ih (fun y hy => h y (by simp [hy])), List.take_append, h34, List.take_of_length_le (l := ndV x) (by rw [h34]; omega), show (k + 1) * 34 - 34 = k * 34 by omega]
theorem nvs_drop {l : List Nd} (h : ∀ x ∈ l, x.s.length = 32) (k : Nat) : nvs (l.drop k) = (nvs l).drop (k * 34) := by
  induction l generalizing k with
  | nil => simp [nvs]
  | cons x l ih =>
    cases k with
    | zero => simp [nvs]
    | succ k =>
      have h34 := ndV_length (h x (by simp))
      rw [List.drop_succ_cons, nvs, ih (fun y hy => h y (by simp [hy])), List.drop_append, h34, List.drop_eq_nil_of_le (show (ndV x).length ≤ (k + 1) * 34 by rw [h34]; omega), List.nil_append, show (k + 1) * 34 - 34 = k * 34 by omega]
set_option maxRecDepth 100000 in
set_option maxHeartbeats 1600000 in
theorem delete_any (h n c i : Nat) (l : List Nd) (w : World) (hl : l.length = n) (h3 : ∀ x ∈ l, x.s.length = 32) (hi : i < n) (ho : w.ownsRow 0 48 34 (.slice (some ⟨h, 0, none⟩) n c) n (nvs l)) :
    Calls Try.prog 34 #[.slice (some ⟨h, 0, none⟩) n c, .int .i64 (i : Nat), .int .i64 ((i : Int) + 1)] w (fun e w' => e = .returned (.slice (some ⟨h, 0, none⟩) (n - 1) c) ∧
      w'.ownsRow 0 48 34 (.slice (some ⟨h, 0, none⟩) (n - 1) c) (n - 1) (nvs (l.take i ++ l.drop (i + 1))) ∧ But (· = h) w w') := by
  obtain ⟨hlen, h0 | ⟨g, cap, cur, hv, _, hg, hnc, hcm, hcs, htk⟩⟩ := ho
  · exact absurd h0.2 (by omega)
  injection hv with e1 _ e3
  injection e1 with e1
  injection e1 with e1
  subst e1
  subst e3
  unfold maxLen at hcm
  have i0 : (0 : Int) ≤ (i : Int) := by omega
  have i1 : (i : Int) ≤ (i : Int) + 1 := by omega
  have i2 : (i : Int) + 1 ≤ (n : Int) := by omega
  have i3 : (n : Int) ≤ (c : Int) := by omega
  have i4 : ((i : Int) == (i : Int) + 1) = false := by simp; omega
  have i5 : (i : Int) ≤ (c : Int) := by omega
  have i6 : (0 : Int) ≤ (i : Int) + 1 := by omega
  have HG := Lib.hid hg
  obtain ⟨news, hnw⟩ : ∃ x, x = nvs (l.drop (i + 1)) := ⟨_, rfl⟩
  have hnl : news.length = (n - (i + 1)) * 34 := by rw [hnw, nvs_length (fun x hx => h3 x (List.mem_of_mem_drop hx)), List.length_drop, hl]
  have hn1 : ∀ u ∈ news, u.oneCell' = true := by rw [hnw]; exact nvs_one _
  have hcell : ∀ j u, news[j]? = some u → cur.toList[(i + 1) * 34 + j]? = some u := by
    intro j u hu
    have hj := (List.getElem?_eq_some_iff.1 hu).1
    rw [hnw, nvs_drop h3, List.getElem?_drop, ← htk, List.getElem?_take] at hu
    split at hu
    · exact hu
    · cases hu
  obtain ⟨ie, hie, hz0, hz1, hz2⟩ := info_parts info_heldW
  obtain ⟨cur2, hc2⟩ : ∃ x, x = (cur.toList.take (i * 34) ++ news ++ cur.toList.drop (i * 34 + news.length)).toArray := ⟨_, rfl⟩
  have hrun : ∀ W, Blk W h cur 48 → ∀ ty m a cc, m = n - (i + 1) → (0 < m → a = ⟨h, (i + 1) * 34, none⟩) → (Builtin.append_ #[40, 40] ty #[.slice (some ⟨h, 0, none⟩) i c, .slice (some a) m cc]).run Try.prog W =
      .ok (.slice (some ⟨h, 0, none⟩) (n - 1) c) (W.setRow h cur2) := by
    intro W hW ty m a cc hm ha
    subst hm
    have hr := run_append_room (P := Try.prog) W 40 ty 48 ie Try.underlying40 hie h i c cur hW a (n - (i + 1)) cc news (by rw [hz1]; exact hnl) (fun j u hu => by
      have hj := (List.getElem?_eq_some_iff.1 hu).1
      rw [ha (by omega), Addr.add_mid, hW.cell, ← Array.getElem?_toList]
      exact hcell j u hu) hn1 (by omega) (by rw [hz1]; omega)
    rw [hz1, ← hc2, show i + (n - (i + 1)) = n - 1 by omega] at hr
    exact hr
  have HR := Lib.hid hrun
  have hs2 : cur2.size = c * 34 := by rw [hc2]; simp; omega
  have ht2 : cur2.toList.take ((n - 1) * 34) = nvs (l.take i ++ l.drop (i + 1)) := by
    rw [hc2, List.toList_toArray, List.take_left' (by simp; omega), nvs_append, ← hnw, nvs_take h3, ← htk, List.take_take]
    congr 2; omega
  obtain ⟨cur3, hc3⟩ : ∃ x, x = (splice cur2.toList ((n - 1) * 34) (Builtin.zeroCells (ndC zeroNd) 1).toList).toArray := ⟨_, rfl⟩
  have hz : ∀ W, (zeroValue 48).run Try.prog W = .ok (.agg (ndC zeroNd)) W := fun _ => by kernel_rfl
  have hclr : ∀ W, Blk W h cur2 48 → ∀ ty m cc, m = 1 → (Builtin.clear_ #[40] ty #[.slice (some ⟨h, (n - 1) * 34, none⟩) m cc]).run Try.prog W = .ok (.tuple #[]) (W.setRow h cur3) := fun W hW ty m cc hm => by
    subst hm
    rw [hc3]
    exact run_clearN W 40 48 ty (.agg (ndC zeroNd)) 34 Try.underlying40 hz (ndC_size rfl) (ndV_one zeroNd) h ((n - 1) * 34) 1 cc (by omega) (by omega) cur2 48 hW (by rw [hs2]; omega)
  have hown : ∀ W cc, Blk W h cur3 48 → cc = c → W.ownsRow 0 48 34 (.slice (some ⟨h, 0, none⟩) (n - 1) cc) (n - 1) (nvs (l.take i ++ l.drop (i + 1))) := fun W cc hW hcc => by
    subst hcc
    have hzl : (Builtin.zeroCells (ndC zeroNd) 1).toList.length = 34 := by rw [Array.length_toList, size_zeroCells, ndC_size rfl]
    refine ⟨by rw [nvs_length (fun x hx => by rcases List.mem_append.1 hx with hx | hx; exact h3 x (List.mem_of_mem_take hx); exact h3 x (List.mem_of_mem_drop hx)), List.length_append, List.length_take, List.length_drop, hl]; omega,
      .inr ⟨h, cc, cur3, rfl, Nat.zero_le _, hW, by omega, by unfold maxLen; omega, ?_, ?_⟩⟩
    · rw [hc3, List.size_toArray, length_splice _ _ _ (by rw [hzl, Array.length_toList, hs2]; omega), Array.length_toList, hs2]
    · rw [hc3, List.toList_toArray, splice, List.take_left' (by rw [List.length_take, Array.length_toList, hs2]; omega)]
      exact ht2
  have HC := Lib.hid hclr
  have HO := Lib.hid hown
  clear hclr hown hz hc3 ht2 hs2 hrun hnw hcell hz0 hz1 hz2 hie hg htk hn1 hc2
  go_enter Try.func34, Try.ntmps34
  go_wp2_with fail
  by_cases hend : i + 1 = c
  · have e0 : ((c : Int) == (i : Int) + 1) = true := by simp; omega
    refine wp_region_held_drew (S := fun w' => ∃ cs, Blk w' h cs 48) (by kernel_rfl) ⟨cur, HG.out⟩ (fun hh => ?_)
    have HH := Lib.hid hh
    clear hh
    refine wpAnyH_take (i := 0) (v := ?va0) rfl (by kernel_rfl) (by kernel_rfl) (by kernel_rfl) (fun _ _ _ h => h) (Or.inl ⟨by rfl, fun w' _ => ?ya0⟩) HH.out ?_
    case ya0 => (go_simp; try with_reducible rfl)
    refine wpAnyH_take (i := 1) (v := ?va1) rfl (by kernel_rfl) (by kernel_rfl) (by kernel_rfl) (fun _ _ _ h => h) (Or.inl ⟨by rfl, fun w' _ => ?ya1⟩) HH.out ?_
    case ya1 => (go_simp; try with_reducible rfl)
    try simp only [List.getElem_toArray, List.getElem_cons_succ, List.getElem_cons_zero, Act.put, List.setIfInBounds_toArray, List.set_cons_zero, List.set_cons_succ]
    refine wpAnyH_take (i := 2) (v := ?va2) rfl (by kernel_rfl) (by kernel_rfl) (by kernel_rfl) (fun _ _ _ h => h) (Or.inl ⟨by rfl, fun w' _ => ?ya2⟩) HH.out ?_
    case ya2 => (go_simp; try with_reducible rfl)
    refine wpAnyH_take (i := 3) (v := ?va3) rfl (by kernel_rfl) (by kernel_rfl) (by kernel_rfl) (fun _ _ _ h => h) (Or.inl ⟨by rfl, fun w' _ => ?ya3⟩) HH.out ?_
    case ya3 => (go_simp; try with_reducible rfl)
    refine wpAnyH_take (i := 4) (v := ?va4) rfl (by kernel_rfl) (by kernel_rfl) (by kernel_rfl) (fun _ _ _ h => h) (Or.inl ⟨by rfl, fun w' _ => ?ya4⟩) HH.out ?_
    case ya4 => (go_simp; try with_reducible rfl)
    try simp only [List.getElem_toArray, List.getElem_cons_succ, List.getElem_cons_zero, Act.put, List.setIfInBounds_toArray, List.set_cons_zero, List.set_cons_succ]
    refine wpAnyH_take (i := 5) (v := ?va5) rfl (by kernel_rfl) (by kernel_rfl) (by kernel_rfl) (fun _ _ _ h => h) (Or.inl ⟨by rfl, fun w' _ => ?ya5⟩) HH.out ?_
    case ya5 => (go_simp; try with_reducible rfl)
    try simp only [List.getElem_toArray, List.getElem_cons_succ, List.getElem_cons_zero, Act.put, List.setIfInBounds_toArray, List.set_cons_zero, List.set_cons_succ]
    refine wpAnyH_ready (rs := [6]) (by kernel_rfl) (by simp) (AllReadyH.cons rfl (fun K hK => ?_) AllReadyH.nil)
    refine step_appR rfl (.tmp 22) (.tmp 25) 40 40 rfl (.slice (some ⟨h, 0, none⟩) i c) (.slice (some ⟨h, 0, none⟩) 0 0) rfl rfl (HR.out w.drew HG.out _ 0 ⟨h, 0, none⟩ 0 (by omega) (by first | (intro; omega) | (intro; rfl))) ?_
    refine hK.out _ _ (⟨_, setRow_heap _ _ _ _ _ _ HG.out⟩) (fun hh => ?_)
    have HH' := Lib.hid hh
    clear hh hK K HH
    have HH := Lib.hid HH'.out
    clear HH'
    refine wpAnyH_take (i := 7) (v := ?vab7) rfl (by kernel_rfl) (by kernel_rfl) (by kernel_rfl) (fun _ _ _ h => h) (Or.inl ⟨by rfl, fun w' _ => ?yab7⟩) HH.out ?_
    case yab7 => (go_simp; try with_reducible rfl)
    try simp only [List.getElem_toArray, List.getElem_cons_succ, List.getElem_cons_zero, Act.put, List.setIfInBounds_toArray, List.set_cons_zero, List.set_cons_succ]
    refine wpAnyH_done (by kernel_rfl) ?_ _
    clear HH
    generalize hw1 : World.setRow _ _ _ = w1
    have G2 : Blk w1 h cur2 48 := by rw [← hw1]; exact setRow_heap _ _ _ _ _ _ HG.out
    have B2 : But (· = h) w w1 := by rw [← hw1]; exact But.setRow (S := (· = h)) (g := h) (But.refl w).drew (.inl rfl) _
    clear hw1
    have HG2 := Lib.hid G2
    have HB2 := Lib.hid B2
    clear G2 B2
    have hcc := HC.out _ HG2.out 0 (n - (n - 1)) (c - (n - 1)) (by omega)
    go_wp2
    clear hcc
    generalize hw3 : World.setRow _ _ _ = w3
    have O3 := HO.out _ c (show Blk w3 h cur3 48 by rw [← hw3]; exact setRow_heap _ _ _ _ _ _ HG2.out) rfl
    have B3 := show But (· = h) w w3 by rw [← hw3]; exact But.setRow (S := (· = h)) (g := h) HB2.out (.inl rfl) _
    clear hw3 HG2 HB2
    go_ret
    exact ⟨rfl, O3, B3⟩
  · have e0 : ¬ c = i + 1 := by omega
    refine wp_region_held_drew (S := fun w' => ∃ cs, Blk w' h cs 48) (by kernel_rfl) ⟨cur, HG.out⟩ (fun hh => ?_)
    have HH := Lib.hid hh
    clear hh
    refine wpAnyH_take (i := 0) (v := ?vc0) rfl (by kernel_rfl) (by kernel_rfl) (by kernel_rfl) (fun _ _ _ h => h) (Or.inl ⟨by rfl, fun w' _ => ?yc0⟩) HH.out ?_
    case yc0 => (go_simp; try with_reducible rfl)
    refine wpAnyH_take (i := 1) (v := ?vc1) rfl (by kernel_rfl) (by kernel_rfl) (by kernel_rfl) (fun _ _ _ h => h) (Or.inl ⟨by rfl, fun w' _ => ?yc1⟩) HH.out ?_
    case yc1 => (go_simp; try with_reducible rfl)
    try simp only [List.getElem_toArray, List.getElem_cons_succ, List.getElem_cons_zero, Act.put, List.setIfInBounds_toArray, List.set_cons_zero, List.set_cons_succ]
    refine wpAnyH_take (i := 2) (v := ?vc2) rfl (by kernel_rfl) (by kernel_rfl) (by kernel_rfl) (fun _ _ _ h => h) (Or.inl ⟨by rfl, fun w' _ => ?yc2⟩) HH.out ?_
    case yc2 => (go_simp; try with_reducible rfl)
    refine wpAnyH_take (i := 3) (v := ?vc3) rfl (by kernel_rfl) (by kernel_rfl) (by kernel_rfl) (fun _ _ _ h => h) (Or.inl ⟨by rfl, fun w' _ => ?yc3⟩) HH.out ?_
    case yc3 => (go_simp; try with_reducible rfl)
    refine wpAnyH_take (i := 4) (v := ?vc4) rfl (by kernel_rfl) (by kernel_rfl) (by kernel_rfl) (fun _ _ _ h => h) (Or.inl ⟨by rfl, fun w' _ => ?yc4⟩) HH.out ?_
    case yc4 => (go_simp; try with_reducible rfl)
    try simp only [List.getElem_toArray, List.getElem_cons_succ, List.getElem_cons_zero, Act.put, List.setIfInBounds_toArray, List.set_cons_zero, List.set_cons_succ]
    refine wpAnyH_take (i := 5) (v := ?vc5) rfl (by kernel_rfl) (by kernel_rfl) (by kernel_rfl) (fun _ _ _ h => h) (Or.inl ⟨by rfl, fun w' _ => ?yc5⟩) HH.out ?_
    case yc5 => (go_simp; try with_reducible rfl)
    try simp only [List.getElem_toArray, List.getElem_cons_succ, List.getElem_cons_zero, Act.put, List.setIfInBounds_toArray, List.set_cons_zero, List.set_cons_succ]
    refine wpAnyH_ready (rs := [6]) (by kernel_rfl) (by simp) (AllReadyH.cons rfl (fun K hK => ?_) AllReadyH.nil)
    refine step_appR rfl (.tmp 22) (.tmp 25) 40 40 rfl (.slice (some ⟨h, 0, none⟩) i c) (.slice (some ⟨h, (i + 1) * 34, none⟩) (n - (i + 1)) (c - (i + 1))) rfl rfl (HR.out w.drew HG.out _ (n - (i + 1)) ⟨h, (i + 1) * 34, none⟩ (c - (i + 1)) (by omega) (by first | (intro; omega) | (intro; rfl))) ?_
    refine hK.out _ _ (⟨_, setRow_heap _ _ _ _ _ _ HG.out⟩) (fun hh => ?_)
    have HH' := Lib.hid hh
    clear hh hK K HH
    have HH := Lib.hid HH'.out
    clear HH'
    refine wpAnyH_take (i := 7) (v := ?vcb7) rfl (by kernel_rfl) (by kernel_rfl) (by kernel_rfl) (fun _ _ _ h => h) (Or.inl ⟨by rfl, fun w' _ => ?ycb7⟩) HH.out ?_
    case ycb7 => (go_simp; try with_reducible rfl)
    try simp only [List.getElem_toArray, List.getElem_cons_succ, List.getElem_cons_zero, Act.put, List.setIfInBounds_toArray, List.set_cons_zero, List.set_cons_succ]
    refine wpAnyH_done (by kernel_rfl) ?_ _
    clear HH
    generalize hw1 : World.setRow _ _ _ = w1
    have G2 : Blk w1 h cur2 48 := by rw [← hw1]; exact setRow_heap _ _ _ _ _ _ HG.out
    have B2 : But (· = h) w w1 := by rw [← hw1]; exact But.setRow (S := (· = h)) (g := h) (But.refl w).drew (.inl rfl) _
    clear hw1
    have HG2 := Lib.hid G2
    have HB2 := Lib.hid B2
    clear G2 B2
    have hcc := HC.out _ HG2.out 0 (n - (n - 1)) (c - (n - 1)) (by omega)
    go_wp2
    clear hcc
    generalize hw3 : World.setRow _ _ _ = w3
    have O3 := HO.out _ c (show Blk w3 h cur3 48 by rw [← hw3]; exact setRow_heap _ _ _ _ _ _ HG2.out) rfl
    have B3 := show But (· = h) w w3 by rw [← hw3]; exact But.setRow (S := (· = h)) (g := h) HB2.out (.inl rfl) _
    clear hw3 HG2 HB2
    go_ret
    exact ⟨rfl, O3, B3⟩
end Go.Proofs.Ytkfcllcdkgnfbaa.Kt
