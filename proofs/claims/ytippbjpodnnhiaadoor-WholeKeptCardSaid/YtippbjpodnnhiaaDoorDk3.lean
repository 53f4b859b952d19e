/-
  Texts of this seat, one behind the other: KgDelete, KgTree, KgLeaves, KgFind, KgHas, KgLittle, KgBuildH.
-/
import Derived.Test.YtippbjpodnnhiaaDoorDk2
/-
  The contract of slices.Delete at a tree's nodes: one node is taken out of a row of the call's own.
-/
namespace Go.Proofs.YtippbjpodnnhiaaDoor.Kg
open Go.RowKit
variable {ci : Ciph}
attribute [local go_sem ↓] Go.wp_at_zero Go.wp_at_succ
theorem info_heldW : (Tryd.prog.info? 53).map (fun i => (i.zero, i.size, i.bytes)) = some (some (.agg (ndC zeroNd)), 34, 48) := by kernel_rfl
theorem heldsElt : EltN Tryd.prog 38 53 (.agg (ndC zeroNd)) 34 48 := ⟨Tryd.underlying38, info_heldW, ndC_size rfl, by omega, by omega⟩
theorem info_held : (Tryd.prog.info? 53).map (·.size) = some 34 := by kernel_rfl
theorem nvs_take {l : List Nd} (h : ∀ x ∈ l, x.s.length = 32) (k : Nat) : nvs (l.take k) = (nvs l).take (k * 34) := by
  induction l generalizing k with
  | nil => simp [nvs]
  | cons x l ih =>
    cases k with
    | zero => simp [nvs]
    | succ k =>
      have h34 := ndV_length (h x (by simp))
      rw [List.take_succ_cons, nvs, nvs, ih (fun y hy => h y (by simp [hy])), List.take_append, h34, List.take_of_length_le (l := ndV x) (by rw [h34]; omega), show (k + 1) * 34 - 34 = k * 34 by omega]
theorem nvs_drop {l : List Nd} (h : ∀ x ∈ l, x.s.length = 32) (k : Nat) : nvs (l.drop k) = (nvs l).drop (k * 34) := by
  induction l generalizing k with
  | nil => simp [nvs]
  | cons x l ih =>
    cases k with
    | zero => simp [nvs]
    | succ k =>
      have h34 := ndV_length (h x (by simp))
      rw [List.drop_succ_cons, nvs, ih (fun y hy => h y (by simp [hy])), List.drop_append, h34, List.drop_eq_nil_of_le (show (ndV x).length ≤ (k + 1) * 34 by rw [h34]; omega), List.nil_append, show (k + 1) * 34 - 34 = k * 34 by omega]
set_option maxRecDepth 100000 in
set_option maxHeartbeats 1600000 in
theorem delete_any (h n c i : Nat) (l : List Nd) (w : World) (hl : l.length = n) (h3 : ∀ x ∈ l, x.s.length = 32) (hi : i < n) (ho : w.ownsRow 0 53 34 (.slice (some ⟨h, 0, none⟩) n c) n (nvs l)) :
    Calls Tryd.prog 16 #[.slice (some ⟨h, 0, none⟩) n c, .int .i64 (i : Nat), .int .i64 ((i : Int) + 1)] w (fun e w' => e = .returned (.slice (some ⟨h, 0, none⟩) (n - 1) c) ∧
      w'.ownsRow 0 53 34 (.slice (some ⟨h, 0, none⟩) (n - 1) c) (n - 1) (nvs (l.take i ++ l.drop (i + 1))) ∧ But (· = h) w w') := by
  obtain ⟨hlen, h0 | ⟨g, cap, cur, hv, _, hg, hnc, hcm, hcs, htk⟩⟩ := ho
  · exact absurd h0.2 (by omega)
  injection hv with e1 _ e3
  injection e1 with e1
  injection e1 with e1
  subst e1
  subst e3
  unfold maxLen at hcm
  have i0 : (0 : Int) ≤ (i : Int) := by omega
  have i1 : (i : Int) ≤ (i : Int) + 1 := by omega
  have i2 : (i : Int) + 1 ≤ (n : Int) := by omega
  have i3 : (n : Int) ≤ (c : Int) := by omega
  have i4 : ((i : Int) == (i : Int) + 1) = false := by simp; omega
  have i5 : (i : Int) ≤ (c : Int) := by omega
  have i6 : (0 : Int) ≤ (i : Int) + 1 := by omega
  have HG := Lib.hid hg
  obtain ⟨news, hnw⟩ : ∃ x, x = nvs (l.drop (i + 1)) := ⟨_, rfl⟩
  have hnl : news.length = (n - (i + 1)) * 34 := by rw [hnw, nvs_length (fun x hx => h3 x (List.mem_of_mem_drop hx)), List.length_drop, hl]
  have hn1 : ∀ u ∈ news, u.oneCell' = true := by rw [hnw]; exact nvs_one _
  have hcell : ∀ j u, news[j]? = some u → cur.toList[(i + 1) * 34 + j]? = some u := by
    intro j u hu
    have hj := (List.getElem?_eq_some_iff.1 hu).1
    rw [hnw, nvs_drop h3, List.getElem?_drop, ← htk, List.getElem?_take] at hu
    split at hu
    · exact hu
    · cases hu
  obtain ⟨ie, hie, hz0, hz1, hz2⟩ := info_parts info_heldW
  obtain ⟨cur2, hc2⟩ : ∃ x, x = (cur.toList.take (i * 34) ++ news ++ cur.toList.drop (i * 34 + news.length)).toArray := ⟨_, rfl⟩
  have hrun : ∀ W, Blk W h cur 53 → ∀ ty m a cc, m = n - (i + 1) → (0 < m → a = ⟨h, (i + 1) * 34, none⟩) → (Builtin.append_ #[38, 38] ty #[.slice (some ⟨h, 0, none⟩) i c, .slice (some a) m cc]).run Tryd.prog W =
      .ok (.slice (some ⟨h, 0, none⟩) (n - 1) c) (W.setRow h cur2) := by
    intro W hW ty m a cc hm ha
    subst hm
    have hr := run_append_room (P := Tryd.prog) W 38 ty 53 ie Tryd.underlying38 hie h i c cur hW a (n - (i + 1)) cc news (by rw [hz1]; exact hnl) (fun j u hu => by
      have hj := (List.getElem?_eq_some_iff.1 hu).1
      rw [ha (by omega), Addr.add_mid, hW.cell, ← Array.getElem?_toList]
      exact hcell j u hu) hn1 (by omega) (by rw [hz1]; omega)
    rw [hz1, ← hc2, show i + (n - (i + 1)) = n - 1 by omega] at hr
    exact hr
  have HR := Lib.hid hrun
  have hs2 : cur2.size = c * 34 := by rw [hc2]; simp; omega
  have ht2 : cur2.toList.take ((n - 1) * 34) = nvs (l.take i ++ l.drop (i + 1)) := by
    rw [hc2, List.toList_toArray, List.take_left' (by simp; omega), nvs_append, ← hnw, nvs_take h3, ← htk, List.take_take]
    congr 2; omega
  obtain ⟨cur3, hc3⟩ : ∃ x, x = (splice cur2.toList ((n - 1) * 34) (Builtin.zeroCells (ndC zeroNd) 1).toList).toArray := ⟨_, rfl⟩
  have hz : ∀ W, (zeroValue 53).run Tryd.prog W = .ok (.agg (ndC zeroNd)) W := fun _ => by kernel_rfl
  have hclr : ∀ W, Blk W h cur2 53 → ∀ ty m cc, m = 1 → (Builtin.clear_ #[38] ty #[.slice (some ⟨h, (n - 1) * 34, none⟩) m cc]).run Tryd.prog W = .ok (.tuple #[]) (W.setRow h cur3) := fun W hW ty m cc hm => by
    subst hm
    rw [hc3]
    exact run_clearN W 38 53 ty (.agg (ndC zeroNd)) 34 Tryd.underlying38 hz (ndC_size rfl) (ndV_one zeroNd) h ((n - 1) * 34) 1 cc (by omega) (by omega) cur2 53 hW (by rw [hs2]; omega)
  have hown : ∀ W cc, Blk W h cur3 53 → cc = c → W.ownsRow 0 53 34 (.slice (some ⟨h, 0, none⟩) (n - 1) cc) (n - 1) (nvs (l.take i ++ l.drop (i + 1))) := fun W cc hW hcc => by
    subst hcc
    have hzl : (Builtin.zeroCells (ndC zeroNd) 1).toList.length = 34 := by rw [Array.length_toList, size_zeroCells, ndC_size rfl]
    refine ⟨by rw [nvs_length (fun x hx => by rcases List.mem_append.1 hx with hx | hx; exact h3 x (List.mem_of_mem_take hx); exact h3 x (List.mem_of_mem_drop hx)), List.length_append, List.length_take, List.length_drop, hl]; omega,
      .inr ⟨h, cc, cur3, rfl, Nat.zero_le _, hW, by omega, by unfold maxLen; omega, ?_, ?_⟩⟩
    · rw [hc3, List.size_toArray, length_splice _ _ _ (by rw [hzl, Array.length_toList, hs2]; omega), Array.length_toList, hs2]
    · rw [hc3, List.toList_toArray, splice, List.take_left' (by rw [List.length_take, Array.length_toList, hs2]; omega)]
      exact ht2
  have HC := Lib.hid hclr
  have HO := Lib.hid hown
  clear hclr hown hz hc3 ht2 hs2 hrun hnw hcell hz0 hz1 hz2 hie hg htk hn1 hc2
  go_enter Tryd.func16, Tryd.ntmps16
  go_wp2_with fail
  by_cases hend : i + 1 = c
  · have e0 : ((c : Int) == (i : Int) + 1) = true := by simp; omega
    refine wp_region_held_drew (S := fun w' => ∃ cs, Blk w' h cs 53) (by kernel_rfl) ⟨cur, HG.out⟩ (fun hh => ?_)
    have HH := Lib.hid hh
    clear hh
    refine wpAnyH_take (i := 0) (v := ?va0) rfl (by kernel_rfl) (by kernel_rfl) (by kernel_rfl) (fun _ _ _ h => h) (Or.inl ⟨by rfl, fun w' _ => ?ya0⟩) HH.out ?_
    case ya0 => (go_simp; try with_reducible rfl)
    refine wpAnyH_take (i := 1) (v := ?va1) rfl (by kernel_rfl) (by kernel_rfl) (by kernel_rfl) (fun _ _ _ h => h) (Or.inl ⟨by rfl, fun w' _ => ?ya1⟩) HH.out ?_
    case ya1 => (go_simp; try with_reducible rfl)
    try simp only [List.getElem_toArray, List.getElem_cons_succ, List.getElem_cons_zero, Act.put, List.setIfInBounds_toArray, List.set_cons_zero, List.set_cons_succ]
    refine wpAnyH_take (i := 2) (v := ?va2) rfl (by kernel_rfl) (by kernel_rfl) (by kernel_rfl) (fun _ _ _ h => h) (Or.inl ⟨by rfl, fun w' _ => ?ya2⟩) HH.out ?_
    case ya2 => (go_simp; try with_reducible rfl)
    refine wpAnyH_take (i := 3) (v := ?va3) rfl (by kernel_rfl) (by kernel_rfl) (by kernel_rfl) (fun _ _ _ h => h) (Or.inl ⟨by rfl, fun w' _ => ?ya3⟩) HH.out ?_
    case ya3 => (go_simp; try with_reducible rfl)
    refine wpAnyH_take (i := 4) (v := ?va4) rfl (by kernel_rfl) (by kernel_rfl) (by kernel_rfl) (fun _ _ _ h => h) (Or.inl ⟨by rfl, fun w' _ => ?ya4⟩) HH.out ?_
    case ya4 => (go_simp; try with_reducible rfl)
    try simp only [List.getElem_toArray, List.getElem_cons_succ, List.getElem_cons_zero, Act.put, List.setIfInBounds_toArray, List.set_cons_zero, List.set_cons_succ]
    refine wpAnyH_take (i := 5) (v := ?va5) rfl (by kernel_rfl) (by kernel_rfl) (by kernel_rfl) (fun _ _ _ h => h) (Or.inl ⟨by rfl, fun w' _ => ?ya5⟩) HH.out ?_
    case ya5 => (go_simp; try with_reducible rfl)
    try simp only [List.getElem_toArray, List.getElem_cons_succ, List.getElem_cons_zero, Act.put, List.setIfInBounds_toArray, List.set_cons_zero, List.set_cons_succ]
    refine wpAnyH_ready (rs := [6]) (by kernel_rfl) (by simp) (AllReadyH.cons rfl (fun K hK => ?_) AllReadyH.nil)
    refine step_appR rfl (.tmp 22) (.tmp 25) 38 38 rfl (.slice (some ⟨h, 0, none⟩) i c) (.slice (some ⟨h, 0, none⟩) 0 0) rfl rfl (HR.out w.drew HG.out _ 0 ⟨h, 0, none⟩ 0 (by omega) (by first | (intro; omega) | (intro; rfl))) ?_
    refine hK.out _ _ (⟨_, setRow_heap _ _ _ _ _ _ HG.out⟩) (fun hh => ?_)
    have HH' := Lib.hid hh
    clear hh hK K HH
    have HH := Lib.hid HH'.out
    clear HH'
    refine wpAnyH_take (i := 7) (v := ?vab7) rfl (by kernel_rfl) (by kernel_rfl) (by kernel_rfl) (fun _ _ _ h => h) (Or.inl ⟨by rfl, fun w' _ => ?yab7⟩) HH.out ?_
    case yab7 => (go_simp; try with_reducible rfl)
    try simp only [List.getElem_toArray, List.getElem_cons_succ, List.getElem_cons_zero, Act.put, List.setIfInBounds_toArray, List.set_cons_zero, List.set_cons_succ]
    refine wpAnyH_done (by kernel_rfl) ?_ _
    clear HH
    generalize hw1 : World.setRow _ _ _ = w1
    have G2 : Blk w1 h cur2 53 := by rw [← hw1]; exact setRow_heap _ _ _ _ _ _ HG.out
    have B2 : But (· = h) w w1 := by rw [← hw1]; exact But.setRow (S := (· = h)) (g := h) (But.refl w).drew (.inl rfl) _
    clear hw1
    have HG2 := Lib.hid G2
    have HB2 := Lib.hid B2
    clear G2 B2
    have hcc := HC.out _ HG2.out 0 (n - (n - 1)) (c - (n - 1)) (by omega)
    go_wp2
    clear hcc
    generalize hw3 : World.setRow _ _ _ = w3
    have O3 := HO.out _ c (show Blk w3 h cur3 53 by rw [← hw3]; exact setRow_heap _ _ _ _ _ _ HG2.out) rfl
    have B3 := show But (· = h) w w3 by rw [← hw3]; exact But.setRow (S := (· = h)) (g := h) HB2.out (.inl rfl) _
    clear hw3 HG2 HB2
    go_ret
    exact ⟨rfl, O3, B3⟩
  · have e0 : ¬ c = i + 1 := by omega
    refine wp_region_held_drew (S := fun w' => ∃ cs, Blk w' h cs 53) (by kernel_rfl) ⟨cur, HG.out⟩ (fun hh => ?_)
    have HH := Lib.hid hh
    clear hh
    refine wpAnyH_take (i := 0) (v := ?vc0) rfl (by kernel_rfl) (by kernel_rfl) (by kernel_rfl) (fun _ _ _ h => h) (Or.inl ⟨by rfl, fun w' _ => ?yc0⟩) HH.out ?_
    case yc0 => (go_simp; try with_reducible rfl)
    refine wpAnyH_take (i := 1) (v := ?vc1) rfl (by kernel_rfl) (by kernel_rfl) (by kernel_rfl) (fun _ _ _ h => h) (Or.inl ⟨by rfl, fun w' _ => ?yc1⟩) HH.out ?_
    case yc1 => (go_simp; try with_reducible rfl)
    try simp only [List.getElem_toArray, List.getElem_cons_succ, List.getElem_cons_zero, Act.put, List.setIfInBounds_toArray, List.set_cons_zero, List.set_cons_succ]
    refine wpAnyH_take (i := 2) (v := ?vc2) rfl (by kernel_rfl) (by kernel_rfl) (by kernel_rfl) (fun _ _ _ h => h) (Or.inl ⟨by rfl, fun w' _ => ?yc2⟩) HH.out ?_
    case yc2 => (go_simp; try with_reducible rfl)
    refine wpAnyH_take (i := 3) (v := ?vc3) rfl (by kernel_rfl) (by kernel_rfl) (by kernel_rfl) (fun _ _ _ h => h) (Or.inl ⟨by rfl, fun w' _ => ?yc3⟩) HH.out ?_
    case yc3 => (go_simp; try with_reducible rfl)
    refine wpAnyH_take (i := 4) (v := ?vc4) rfl (by kernel_rfl) (by kernel_rfl) (by kernel_rfl) (fun _ _ _ h => h) (Or.inl ⟨by rfl, fun w' _ => ?yc4⟩) HH.out ?_
    case yc4 => (go_simp; try with_reducible rfl)
    try simp only [List.getElem_toArray, List.getElem_cons_succ, List.getElem_cons_zero, Act.put, List.setIfInBounds_toArray, List.set_cons_zero, List.set_cons_succ]
    refine wpAnyH_take (i := 5) (v := ?vc5) rfl (by kernel_rfl) (by kernel_rfl) (by kernel_rfl) (fun _ _ _ h => h) (Or.inl ⟨by rfl, fun w' _ => ?yc5⟩) HH.out ?_
    case yc5 => (go_simp; try with_reducible rfl)
    try simp only [List.getElem_toArray, List.getElem_cons_succ, List.getElem_cons_zero, Act.put, List.setIfInBounds_toArray, List.set_cons_zero, List.set_cons_succ]
    refine wpAnyH_ready (rs := [6]) (by kernel_rfl) (by simp) (AllReadyH.cons rfl (fun K hK => ?_) AllReadyH.nil)
    refine step_appR rfl (.tmp 22) (.tmp 25) 38 38 rfl (.slice (some ⟨h, 0, none⟩) i c) (.slice (some ⟨h, (i + 1) * 34, none⟩) (n - (i + 1)) (c - (i + 1))) rfl rfl (HR.out w.drew HG.out _ (n - (i + 1)) ⟨h, (i + 1) * 34, none⟩ (c - (i + 1)) (by omega) (by first | (intro; omega) | (intro; rfl))) ?_
    refine hK.out _ _ (⟨_, setRow_heap _ _ _ _ _ _ HG.out⟩) (fun hh => ?_)
    have HH' := Lib.hid hh
    clear hh hK K HH
    have HH := Lib.hid HH'.out
    clear HH'
    refine wpAnyH_take (i := 7) (v := ?vcb7) rfl (by kernel_rfl) (by kernel_rfl) (by kernel_rfl) (fun _ _ _ h => h) (Or.inl ⟨by rfl, fun w' _ => ?ycb7⟩) HH.out ?_
    case ycb7 => (go_simp; try with_reducible rfl)
    try simp only [List.getElem_toArray, List.getElem_cons_succ, List.getElem_cons_zero, Act.put, List.setIfInBounds_toArray, List.set_cons_zero, List.set_cons_succ]
    refine wpAnyH_done (by kernel_rfl) ?_ _
    clear HH
    generalize hw1 : World.setRow _ _ _ = w1
    have G2 : Blk w1 h cur2 53 := by rw [← hw1]; exact setRow_heap _ _ _ _ _ _ HG.out
    have B2 : But (· = h) w w1 := by rw [← hw1]; exact But.setRow (S := (· = h)) (g := h) (But.refl w).drew (.inl rfl) _
    clear hw1
    have HG2 := Lib.hid G2
    have HB2 := Lib.hid B2
    clear G2 B2
    have hcc := HC.out _ HG2.out 0 (n - (n - 1)) (c - (n - 1)) (by omega)
    go_wp2
    clear hcc
    generalize hw3 : World.setRow _ _ _ = w3
    have O3 := HO.out _ c (show Blk w3 h cur3 53 by rw [← hw3]; exact setRow_heap _ _ _ _ _ _ HG2.out) rfl
    have B3 := show But (· = h) w w3 by rw [← hw3]; exact But.setRow (S := (· = h)) (g := h) HB2.out (.inl rfl) _
    clear hw3 HG2 HB2
    go_ret
    exact ⟨rfl, O3, B3⟩
end Go.Proofs.YtippbjpodnnhiaaDoor.Kg
/-
  A tree of keys: its held nodes as a list; what stands where; the plain facts about lists of nodes without a leaf.
-/
namespace Go.Proofs.YtippbjpodnnhiaaDoor.Kg
open Go.RowKit
variable {ci : Ciph}
/-- A node that may be held. -/
def okH (x : Nd) : Prop := 0 ≤ x.d ∧ x.d ≤ 17 ∧ 0 ≤ x.a ∧ x.a % manyI x.d = 0 ∧ x.a + manyI x.d ≤ 131072 ∧ x.s.length = 32
/-- Nodes that may be held, the first one not ahead of e. -/
def okS : Int → List Nd → Prop
  | _, [] => True
  | e, x :: l => okH x ∧ e ≤ x.a ∧ okS (x.a + manyI x.d) l
/-- Has one of the nodes the leaf? -/
def hasI (l : List Nd) (m : Int) : Bool := l.any (inI · m)
theorem many_cases {d : Int} (h0 : 0 ≤ d) (h1 : d ≤ 17) : (d = 17 ∧ manyI d = 1) ∨ (d < 17 ∧ manyI d = 2 * manyI (d + 1)) := by
  have h : d = 0 ∨ d = 1 ∨ d = 2 ∨ d = 3 ∨ d = 4 ∨ d = 5 ∨ d = 6 ∨ d = 7 ∨ d = 8 ∨ d = 9 ∨ d = 10 ∨ d = 11 ∨ d = 12 ∨ d = 13 ∨ d = 14 ∨ d = 15 ∨ d = 16 ∨ d = 17 := by omega
  rcases h with h | h | h | h | h | h | h | h | h | h | h | h | h | h | h | h | h | h <;> subst h <;> decide
theorem okH.many {x : Nd} (h : okH x) : 1 ≤ manyI x.d ∧ manyI x.d ≤ 131072 := (manyI_ok h.1 h.2.1).2
theorem okH.okN {x : Nd} (h : okH x) : okN x := ⟨h.1, h.2.1, h.2.2.1, h.2.2.2.2.2⟩
theorem wrap_small {z : Int} (h0 : 0 ≤ z) (h1 : z ≤ 131072) : IntKind.u64.wrap z = z := IntWalk.u64_in _ (by omega)
theorem inI_iff {x : Nd} {m : Int} : inI x m = true ↔ x.a ≤ m ∧ m < x.a + manyI x.d := by
  simp only [inI, Bool.and_eq_true, decide_eq_true_eq]; omega
theorem inI_not {x : Nd} {m : Int} : inI x m = false ↔ m < x.a ∨ x.a + manyI x.d ≤ m := by
  rw [← Bool.not_eq_true, inI_iff]; omega
theorem ndL_ok {x : Nd} (h : okH x) (hd : x.d < 17) : okH (ndL ci x) ∧ (ndL ci x).a = x.a ∧ manyI x.d = 2 * manyI (x.d + 1) := by
  obtain ⟨h0, h1, h2, h3, h4, h5⟩ := h
  have hm : manyI x.d = 2 * manyI (x.d + 1) := by rcases many_cases h0 h1 with h | h; omega; exact h.2
  have hp := (manyI_ok (d := x.d + 1) (by omega) (by omega)).2
  refine ⟨⟨by simp only [ndL]; omega, by simp only [ndL]; omega, h2, ?_, by simp only [ndL]; omega, ci.lenL _⟩, rfl, hm⟩
  simp only [ndL]
  rw [hm] at h3
  exact Int.emod_eq_zero_of_dvd (Int.dvd_trans ⟨2, by omega⟩ (Int.dvd_of_emod_eq_zero h3))
theorem ndR_ok {x : Nd} (h : okH x) (hd : x.d < 17) : okH (ndR ci x) ∧ (ndR ci x).a = x.a + manyI (x.d + 1) := by
  obtain ⟨h0, h1, h2, h3, h4, h5⟩ := h
  have hm : manyI x.d = 2 * manyI (x.d + 1) := by rcases many_cases h0 h1 with h | h; omega; exact h.2
  have hp := (manyI_ok (d := x.d + 1) (by omega) (by omega)).2
  have ha : (ndR ci x).a = x.a + manyI (x.d + 1) := by simp only [ndR]; exact wrap_small (by omega) (by omega)
  refine ⟨⟨by simp only [ndR]; omega, by simp only [ndR]; omega, by omega, ?_, by rw [ha]; simp only [ndR]; omega, ci.lenR _⟩, ha⟩
  rw [ha]
  simp only [ndR]
  rw [hm] at h3
  have : (manyI (x.d + 1)) ∣ x.a := Int.dvd_trans ⟨2, by omega⟩ (Int.dvd_of_emod_eq_zero h3)
  exact Int.emod_eq_zero_of_dvd (Int.dvd_add this (Int.dvd_refl _))
theorem woL_not {f : Nat} {x : Nd} {m : Int} (h : inI x m = false) : woL ci f x m = [x] := by
  cases f <;> (unfold woL; rw [if_neg (by simp [h])])
theorem okS_mono {e e' : Int} {l : List Nd} (h : okS e l) (he : e' ≤ e) : okS e' l := by
  cases l with
  | nil => trivial
  | cons x l => exact ⟨h.1, by have := h.2.1; omega, h.2.2⟩
theorem okS_mem : ∀ {e : Int} {l : List Nd}, okS e l → ∀ x ∈ l, okH x ∧ e ≤ x.a
  | _, [], _, x, hx => by simp at hx
  | e, y :: l, h, x, hx => by
    rcases List.mem_cons.1 hx with rfl | hx
    · exact ⟨h.1, h.2.1⟩
    · have := okS_mem h.2.2 x hx
      have h1 := h.1.many
      exact ⟨this.1, by have := h.2.1; omega⟩
/-- Two lists of nodes, the one behind the other. -/
theorem okS_append : ∀ {e E : Int} {a b : List Nd}, okS e a → (∀ x ∈ a, x.a + manyI x.d ≤ E) → okS E b → e ≤ E → okS e (a ++ b)
  | e, E, [], b, _, _, hb, he => okS_mono hb he
  | e, E, x :: a, b, ha, hE, hb, _ => ⟨ha.1, ha.2.1, okS_append ha.2.2 (fun y hy => hE y (by simp [hy])) hb (hE x (by simp))⟩
/-- What is left of a node lies in it. -/
theorem woL_ok : ∀ (f : Nat) (x : Nd) (m : Int), okH x → x.d = 17 - (f : Int) → okS x.a (woL ci f x m) ∧ ∀ y ∈ woL ci f x m, y.a + manyI y.d ≤ x.a + manyI x.d
  | 0, x, m, h, hd => by
    unfold woL; split
    · exact ⟨trivial, fun y hy => by simp at hy⟩
    · exact ⟨⟨h, Int.le_refl _, trivial⟩, fun y hy => by simp at hy; rw [hy]; exact Int.le_refl _⟩
  | f + 1, x, m, h, hd => by
    unfold woL; split
    · obtain ⟨h1, h2, h3⟩ := ndL_ok (ci := ci) h (by omega)
      obtain ⟨h4, h5⟩ := ndR_ok (ci := ci) h (by omega)
      obtain ⟨p1, p2⟩ := woL_ok f (ndL ci x) m h1 (by simp only [ndL]; omega)
      obtain ⟨q1, q2⟩ := woL_ok f (ndR ci x) m h4 (by simp only [ndR]; omega)
      have e1 : (ndL ci x).d = x.d + 1 := rfl
      have e2 : (ndR ci x).d = x.d + 1 := rfl
      have hp := (manyI_ok (d := x.d + 1) (by have := h.1; omega) (by omega)).2
      rw [e1, h2] at p2
      rw [e2, h5] at q2
      rw [h2] at p1
      rw [h5] at q1
      refine ⟨okS_append p1 p2 q1 (by omega), fun y hy => ?_⟩
      rcases List.mem_append.1 hy with hy | hy
      · have := p2 y hy; omega
      · have := q2 y hy; omega
    · exact ⟨⟨h, Int.le_refl _, trivial⟩, fun y hy => by simp at hy; rw [hy]; exact Int.le_refl _⟩
theorem punL_cons (x : Nd) (l : List Nd) (m : Int) : punL ci (x :: l) m = woL ci (17 - x.d).toNat x m ++ punL ci l m := by simp [punL]
theorem punL_append (a b : List Nd) (m : Int) : punL ci (a ++ b) m = punL ci a m ++ punL ci b m := by simp [punL]
theorem punL_ok : ∀ {e : Int} {l : List Nd} (m : Int), okS e l → okS e (punL ci l m)
  | _, [], _, _ => trivial
  | e, x :: l, m, h => by
    rw [punL_cons]
    have hf : x.d = 17 - ((17 - x.d).toNat : Int) := by have := h.1.2.1; omega
    obtain ⟨p1, p2⟩ := woL_ok (ci := ci) _ x m h.1 hf
    have := h.1.many
    exact okS_append (okS_mono p1 h.2.1) p2 (punL_ok m h.2.2) (by have := h.2.1; omega)
theorem punL_not : ∀ {l : List Nd} {m : Int}, (∀ x ∈ l, inI x m = false) → punL ci l m = l
  | [], _, _ => rfl
  | x :: l, m, h => by rw [punL_cons, woL_not (ci := ci) (h x (by simp)), punL_not (fun y hy => h y (by simp [hy]))]; rfl
theorem okS_above : ∀ {e : Int} {l : List Nd} {m : Int}, okS e l → m < e → ∀ x ∈ l, inI x m = false := fun h hm x hx => by
  have := (okS_mem h x hx).2
  rw [inI_not]; omega
theorem okS_split : ∀ {e : Int} {a b : List Nd}, okS e (a ++ b) → okS e a ∧ (∀ x ∈ a, ∀ y ∈ b, x.a + manyI x.d ≤ y.a)
  | _, [], _, _ => ⟨trivial, fun x hx => by simp at hx⟩
  | e, x :: a, b, h => by
    obtain ⟨p, q⟩ := okS_split h.2.2
    refine ⟨⟨h.1, h.2.1, p⟩, fun y hy z hz => ?_⟩
    rcases List.mem_cons.1 hy with rfl | hy
    · exact (okS_mem h.2.2 z (by simp [hz])).2
    · exact q y hy z hz
theorem okS_len {e : Int} {l : List Nd} (h : okS e l) : ∀ x ∈ l, x.s.length = 32 := fun x hx => (okS_mem h x hx).1.2.2.2.2.2
theorem okS_N {e : Int} {l : List Nd} (h : okS e l) : ∀ x ∈ l, okN x := fun x hx => (okS_mem h x hx).1.okN
/-- There are no more nodes than leaves. -/
theorem okS_count : ∀ {e : Int} {l : List Nd}, 0 ≤ e → e ≤ 131072 → okS e l → e + l.length ≤ 131072
  | e, [], h0, h1, _ => by simpa using h1
  | e, x :: l, h0, h1, h => by
    have hm := h.1.many
    have := okS_count (by have := h.2.1; omega) h.1.2.2.2.2.1 h.2.2
    have := h.2.1
    rw [List.length_cons]; omega
theorem okS_few {l : List Nd} (h : okS 0 l) : l.length ≤ 131072 := by have := okS_count (Int.le_refl 0) (by omega) h; omega
end Go.Proofs.YtippbjpodnnhiaaDoor.Kg
/-
  The contract of keytree's leaves: how many leaves a node of a depth has.
-/
namespace Go.Proofs.YtippbjpodnnhiaaDoor.Kg
open Go.RowKit
variable {ci : Ciph}
theorem leaves_any (d : Int) (h0 : 0 ≤ d) (h17 : d ≤ 17) (w : World) : Calls Tryd.prog 26 #[.int .i64 d] w (fun e w' => e = .returned (.int .u64 (manyI d)) ∧ w = w') := by
  have hw : IntKind.i64.wrap (17 - d) = 17 - d := IntWalk.i64_in _ (by omega)
  go_enter Tryd.func26, Tryd.ntmps26
  go_wp2
  go_ret
  refine ⟨congrArg (fun z => Ending.returned (Value.int .u64 z)) ?_, rfl⟩
  unfold manyI
  split
  · rename_i h; obtain rfl : d = 17 := by omega
    rfl
  · rfl
end Go.Proofs.YtippbjpodnnhiaaDoor.Kg
/-
  The contracts of the tree's find: which node has the leaf, by halving.
-/
namespace Go.Proofs.YtippbjpodnnhiaaDoor.Kg
open Go.RowKit
variable {ci : Ciph}
attribute [local go_sem ↓] Go.wp_at_zero Go.wp_at_succ
/-- Where a leaf lies, seen from a node: behind it, in it, ahead of it. -/
def cmpI (x : Nd) (m : Int) : Int := if m < x.a then 1 else if x.a + manyI x.d ≤ m then -1 else 0
section
variable {w : World} {g : Nat} {x : Nd} {t : TypeId}
theorem ndt_d (h : Blk w g (ndC x) t) : w.cell? ⟨g, 0, none⟩ = some (.int .i64 x.d) := by rw [h.cell]; rfl
theorem ndt_a (h : Blk w g (ndC x) t) : w.cell? ⟨g, 1, none⟩ = some (.int .u64 x.a) := by rw [h.cell]; rfl
theorem ndt_s (h : Blk w g (ndC x) t) : w.rangeAt g 2 (bv x.s) := fun j v hv => by
  rw [h.cell, ndC, List.getElem?_toArray, ndV, show 2 + j = j + 1 + 1 by omega, List.getElem?_cons_succ, List.getElem?_cons_succ]
  exact hv
end
theorem leaves_q (d : Int) (h0 : 0 ≤ d) (h17 : d ≤ 17) (w : World) : Calls Tryd.prog 26 #[.int .i64 d] w (RetQ (.int .u64 (manyI d)) w) :=
  (leaves_any d h0 h17 w).mono fun _ _ ⟨he, hw⟩ => ⟨he, 0, hw.symm⟩
set_option maxRecDepth 100000 in
set_option maxHeartbeats 800000 in
theorem cmp_any (x : Nd) (hx : okH x) (m : Int) (w : World) :
    Calls Tryd.prog 29 #[.agg (ndC x), .int .u64 m] w (RetB (.int .i64 (cmpI x m)) w) := by
  have b1 : Blk (w.alloc (.cells (ndC x) 53)) w.heap.size (ndC x) 53 := heap_alloc_new _ _
  have hb : Below w.heap.size w (w.alloc (.cells (ndC x) 53)) := (Below.refl _ _).alloc (Nat.le_refl _) _
  have c0 := ndt_d b1
  have c1 := ndt_a b1
  have BB := Lib.hid hb
  have hmm := hx.many
  obtain ⟨M, hM⟩ : ∃ M, M = manyI x.d := ⟨_, rfl⟩
  rw [← hM] at hmm
  have HQ := Lib.hid (show ∀ W, Calls Tryd.prog 26 #[.int .i64 x.d] W (RetQ (.int .u64 M) W) from fun W => by rw [hM]; exact leaves_q x.d hx.1 hx.2.1 W)
  have e0 : IntKind.u64.wrap (x.a + M) = x.a + M := IntWalk.u64_in _ (by have := hx.2.2.1; have := hx.2.2.2.2.1; omega)
  by_cases h1 : m < x.a
  · have e1 : decide (m < x.a) = true := decide_eq_true h1
    have ei : cmpI x m = 1 := by rw [cmpI, if_pos h1]
    clear h1 hx hb hM b1
    go_enter Tryd.func29, Tryd.ntmps29
    go_wp2
    go_ret
    rw [ei]
    exact ⟨rfl, BB.out⟩
  · have e1 : decide (m < x.a) = false := decide_eq_false h1
    by_cases h2 : x.a + M ≤ m
    · have e3 : decide (m ≥ x.a + M) = true := decide_eq_true h2
      have ei : cmpI x m = -1 := by rw [cmpI, if_neg h1, if_pos (by rw [← hM]; exact h2)]
      clear h1 h2 hx hb hM b1
      go_enter Tryd.func29, Tryd.ntmps29
      go_wp2_with fail
      go_quiet ((go_at_call 26; exact RetQ.quiet (HQ.out _)))
      go_wp2
      go_ret
      rw [ei]
      exact ⟨rfl, below_drewN' BB.out _⟩
    · have e3 : decide (m ≥ x.a + M) = false := decide_eq_false h2
      have ei : cmpI x m = 0 := by rw [cmpI, if_neg h1, if_neg (by rw [← hM]; exact h2)]
      clear h1 h2 hx hb hM b1
      go_enter Tryd.func29, Tryd.ntmps29
      go_wp2_with fail
      go_quiet ((go_at_call 26; exact RetQ.quiet (HQ.out _)))
      go_wp2
      go_ret
      rw [ei]
      exact ⟨rfl, below_drewN' BB.out _⟩
theorem wpList_load_at_if {P : Program} {ops : Array Oper} {rest : List Oper} {o : Oper} {a : Act} {w : World} {Q : Exit → Act → World → Prop} (hgd : Region.wanted o (yielded ops a.tmps) = true) (ty : TypeId) (x : Operand) (ho : o.op = .load ty x) (ad : Addr) {cs : List Value} {d : TypeDesc} (hx : a.eval x = .pointer (some ad)) (hc : ∀ j v, cs[j]? = some v → w.cell? (ad.add j) = some v)
    (hu : P.underlying ty = some d) (hd : (match d with | .struct _ | .array _ _ => true | _ => false) = true) (hi : (P.info? ty).map (·.size) = some cs.length)
    (h : wpList P ops Q rest (a.put o.dst (.agg cs.toArray)) w) : wpList P ops Q (o :: rest) a w := by
  unfold wpList
  rw [if_pos hgd]
  refine .inl ?_
  unfold Oper.wp
  rw [exec_load_at ty x ho ad hx hc hu hd hi]
  exact h
/-- Where the search ends: ahead of it lie the nodes whose leaves are all below m, from it on those that have a leaf that isn't. -/
def Found (l : List Nd) (m : Int) (i : Nat) (b : Bool) : Prop :=
  i ≤ l.length ∧ (∀ k x, k < i → l[k]? = some x → x.a + manyI x.d ≤ m) ∧ (∀ k x, i ≤ k → l[k]? = some x → m < x.a + manyI x.d) ∧ b = (match l[i]? with | some x => decide (x.a ≤ m) | none => false)
/-- Of two nodes the one that stands ahead lies ahead. -/
theorem okS_at : ∀ {e : Int} {l : List Nd}, okS e l → ∀ (i j : Nat) (x y : Nd), i < j → l[i]? = some x → l[j]? = some y → x.a + manyI x.d ≤ y.a
  | _, [], _, i, j, x, y, _, h, _ => by simp at h
  | e, z :: l, h, 0, j + 1, x, y, _, h1, h2 => by
    rw [List.getElem?_cons_zero] at h1
    injection h1 with h1; subst h1
    rw [List.getElem?_cons_succ] at h2
    exact (okS_mem h.2.2 y (List.mem_of_getElem? h2)).2
  | e, z :: l, h, i + 1, j + 1, x, y, hij, h1, h2 => by
    rw [List.getElem?_cons_succ] at h1 h2
    exact okS_at h.2.2 i j x y (by omega) h1 h2
set_option maxRecDepth 100000 in
set_option maxHeartbeats 1600000 in
theorem search_any {B : Nat} (A : Option Addr) (n c : Nat) (l : List Nd) (e : Int) (m : Int) (w : World) (hl : l.length = n) (hv : okS e l) (hB : B ≤ w.heap.size) (hr : Rd B w A (nvs l)) (hn : n ≤ 1000000) :
    Calls Tryd.prog 28 #[.slice A n c, .int .u64 m, .func (.func 29) #[] #[]] w (fun e w' => ∃ i b, e = .returned (.tuple #[.int .i64 (i : Nat), .bool b]) ∧ Found l m i b ∧ Below w.heap.size w w') := by
  have HL := Lib.hid hl
  have HV := Lib.hid hv
  have HR := Lib.hid (hr.more hB)
  clear hl hv hr hB
  go_enter Tryd.func28, Tryd.ntmps28
  go_wp2_with fail
  go_loopw [9, 10] (fun i j wr => ∃ p q, p ≤ q ∧ q ≤ n ∧ i = .int .i64 (p : Nat) ∧ j = .int .i64 (q : Nat) ∧ Below w.heap.size w wr ∧ Hid (∀ k x, k < p → l[k]? = some x → x.a + manyI x.d ≤ m) ∧ Hid (∀ k x, q ≤ k → l[k]? = some x → m < x.a + manyI x.d)) (fun i j _ => (intOf j - intOf i).toNat)
  case atStart => exact ⟨0, n, by omega, by omega, rfl, rfl, Below.refl _ _, fun k x h => by omega, fun k x h h' => by
    have := (List.getElem?_eq_some_iff.1 h').1
    rw [HL.out] at this; omega⟩
  case round =>
    obtain ⟨p, q, hpq, hqn, rfl, rfl, hbw, HP, HQ⟩ := hrel
    by_cases hlt : p < q
    · have e1 : IntKind.i64.wrap ((p : Int) + (q : Int)) = (p : Int) + (q : Int) := IntWalk.i64_in _ (by omega)
      obtain ⟨k, hk⟩ : ∃ k : Nat, k = (p + q) / 2 := ⟨_, rfl⟩
      have hkI : ((p : Int) + (q : Int)) / 2 = (k : Int) := by omega
      have hkn : k < n := by omega
      have hkl : k < l.length := by rw [HL.out]; exact hkn
      obtain ⟨ad, hA, hbl, hcell⟩ := rd_node (HR.out.below hbw) (okS_len HV.out) hkl
      subst hA
      obtain ⟨x, hxe⟩ : ∃ x, x = l[k] := ⟨_, rfl⟩
      have hxk : l[k]? = some x := by rw [hxe]; exact List.getElem?_eq_getElem hkl
      have hx : okH x := by rw [hxe]; exact (okS_mem HV.out _ (List.getElem_mem hkl)).1
      rw [← hxe] at hcell
      have HC := Lib.hid hcell
      have HI : Hid ((Tryd.prog.info? 53).map (·.size) = some (ndV x).length) := by rw [ndV_length hx.2.2.2.2.2]; exact info_held
      have HX := Lib.hid hx
      have HXK := Lib.hid hxk
      have HW := Lib.hid hbw
      have k0 : (0 : Int) ≤ (k : Int) := by omega
      have k1 : (k : Int) < (n : Int) := by omega
      have e4 : IntKind.i64.wrap ((k : Int) + 1) = ((k + 1 : Nat) : Int) := by rw [IntWalk.i64_in _ (by omega)]; omega
      have hpk : p ≤ k := by omega
      have hkq : k < q := by omega
      clear hcell hx hxk hxe hbw hk
      go_wp2_with (refine wpList_load_at rfl 53 (.tmp 27) rfl (ad.add (k * 34)) rfl HC.out Tryd.underlying53 rfl HI.out ?_
                   change wpList _ _ _ _ (Act.put _ _ (.agg (ndC x))) _)
      refine (cmp_any x HX.out m _).mono ?_
      rintro e w2 ⟨rfl, bw⟩
      have HB2 := Lib.hid (HW.out.trans (bw.mono HW.out.size))
      clear bw HW HC
      by_cases hc : x.a + manyI x.d ≤ m
      · have hz : cmpI x m = -1 := by
          have := HX.out.many
          rw [cmpI, if_neg (by omega), if_pos hc]
        rw [hz]
        have HCC := Lib.hid hc
        clear hc hz
        go_wp2_with fail
        go_roundw
        case rel => exact ⟨k + 1, q, by omega, hqn, by first | rfl | go_num, rfl, HB2.out, (fun k' x' h h' => by
          have := HX.out.many
          have h2 : okS e l := HV.out
          rcases Nat.lt_or_ge k' k with h3 | h3
          · have := (okS_at h2 k' k x' x h3 h' HXK.out)
            have := HCC.out
            omega
          · obtain rfl : k' = k := by omega
            rw [HXK.out] at h'; injection h' with h'; subst h'; exact HCC.out), HQ⟩
        case measure => simp [intOf]; omega
      · have hz : ∃ z, cmpI x m = z ∧ 0 ≤ z ∧ z ≤ 1 := ⟨_, rfl, by unfold cmpI; split <;> (try rw [if_neg hc]) <;> omega, by unfold cmpI; split <;> (try rw [if_neg hc]) <;> omega⟩
        obtain ⟨z, hz, hz0, _⟩ := hz
        have ez : decide (z < 0) = false := by simp; omega
        rw [hz]
        have HCC := Lib.hid (show m < x.a + manyI x.d by omega)
        clear hc hz
        go_wp2_with fail
        go_roundw
        case rel => exact ⟨p, k, hpk, by omega, rfl, rfl, HB2.out, HP, (fun k' x' h h' => by
          have := HX.out.many
          rcases Nat.lt_or_ge k k' with h3 | h3
          · have := (okS_at HV.out k k' x x' h3 HXK.out h')
            have := HCC.out
            have := (okS_mem HV.out x' (List.mem_of_getElem? h')).1.many
            omega
          · obtain rfl : k' = k := by omega
            rw [HXK.out] at h'; injection h' with h'; subst h'; exact HCC.out)⟩
        case measure => simp [intOf]; omega
    · obtain rfl : q = p := by omega
      by_cases hqn' : q < n
      · have hql : q < l.length := by rw [HL.out]; exact hqn'
        obtain ⟨ad, hA, hbl, hcell⟩ := rd_node (HR.out.below hbw) (okS_len HV.out) hql
        subst hA
        obtain ⟨x, hxe⟩ : ∃ x, x = l[q] := ⟨_, rfl⟩
        have hxk : l[q]? = some x := by rw [hxe]; exact List.getElem?_eq_getElem hql
        have hx : okH x := by rw [hxe]; exact (okS_mem HV.out _ (List.getElem_mem hql)).1
        rw [← hxe] at hcell
        have HC := Lib.hid hcell
        have HI : Hid ((Tryd.prog.info? 53).map (·.size) = some (ndV x).length) := by rw [ndV_length hx.2.2.2.2.2]; exact info_held
        have HX := Lib.hid hx
        have HXK := Lib.hid hxk
        have HW := Lib.hid hbw
        have k0 : (0 : Int) ≤ (q : Int) := by omega
        have k1 : (q : Int) < (n : Int) := by omega
        clear hcell hx hxk hxe hbw
        go_wp2_with (refine wpList_load_at_if rfl 53 (.tmp 43) rfl (ad.add (q * 34)) rfl HC.out Tryd.underlying53 rfl HI.out ?_
                     change wpList _ _ _ _ (Act.put _ _ (.agg (ndC x))) _)
        refine (cmp_any x HX.out m _).mono ?_
        rintro e w2 ⟨rfl, bw⟩
        have HB2 := Lib.hid (HW.out.trans (bw.mono HW.out.size))
        clear bw HW HC
        have hM := HX.out.many
        have hlow : m < x.a + manyI x.d := HQ.out q x (Nat.le_refl _) HXK.out
        have hz : (cmpI x m = 0 ∧ decide (x.a ≤ m) = true) ∨ (cmpI x m = 1 ∧ decide (x.a ≤ m) = false) := by
          unfold cmpI
          by_cases h : m < x.a
          · exact .inr ⟨if_pos h, by simp; omega⟩
          · exact .inl ⟨by rw [if_neg h, if_neg (by omega)], by simp; omega⟩
        have hb : ∀ b, decide (x.a ≤ m) = b → Found l m q b := fun b hb => ⟨by rw [HL.out]; omega, HP.out, HQ.out, by rw [HXK.out]; exact hb.symm⟩
        have HBB := Lib.hid hb
        clear hM hlow hb
        rcases hz with ⟨hz, hd⟩ | ⟨hz, hd⟩
        · rw [hz]
          have HD := Lib.hid hd
          clear hz hd
          go_wp2_with fail
          go_ret2
          exact ⟨q, true, rfl, HBB.out _ HD.out, HB2.out⟩
        · rw [hz]
          have HD := Lib.hid hd
          clear hz hd
          go_wp2_with fail
          go_ret2
          exact ⟨q, false, rfl, HBB.out _ HD.out, HB2.out⟩
      · go_wp2_with fail
        go_ret2
        exact ⟨q, false, rfl, ⟨by rw [HL.out]; omega, HP.out, HQ.out, by rw [List.getElem?_eq_none (by rw [HL.out]; omega)]⟩, hbw⟩
end Go.Proofs.YtippbjpodnnhiaaDoor.Kg
/-
  The contracts of the tree's find and Has, of a tree and of none.
-/
namespace Go.Proofs.YtippbjpodnnhiaaDoor.Kg
open Go.RowKit
variable {ci : Ciph}
attribute [local go_sem ↓] Go.wp_at_zero Go.wp_at_succ
/-- A tree at block g whose held nodes are l, in a row of their own. -/
structure TrA (ci : Ciph) (w : World) (g : Nat) (A : Option Addr) (n c : Nat) (l : List Nd) : Prop where
  blk : Blk w g #[ci.v, .slice A n c] 58
  own : w.ownsRow 0 53 34 (.slice A n c) n (nvs l)
  len : l.length = n
  ok : okS 0 l
  apart : (Value.slice A n c).ownBlock ≠ some g
section
variable {w w' : World} {g n c : Nat} {A : Option Addr} {l : List Nd} {S : Nat → Prop}
theorem TrA.few (h : TrA ci w g A n c l) : n ≤ 131072 := by rw [← h.len]; exact okS_few h.ok
theorem TrA.rd (h : TrA ci w g A n c l) : Rd w.heap.size w A (nvs l) := Rd.ownN h.own
theorem TrA.len3 (h : TrA ci w g A n c l) : ∀ x ∈ l, x.s.length = 32 := okS_len h.ok
theorem TrA.but (h : TrA ci w g A n c l) (hb : But S w w') (hg : ¬ S g) (hv : ∀ k, (Value.slice A n c).ownBlock = some k → ¬ S k) : TrA ci w' g A n c l :=
  ⟨h.blk.but hb hg, Own.but h.own hb hv, h.len, h.ok, h.apart⟩
theorem TrA.below (h : TrA ci w g A n c l) (hb : Below w.heap.size w w') : TrA ci w' g A n c l :=
  ⟨h.blk.below hb, own_belowN h.own hb, h.len, h.ok, h.apart⟩
theorem TrA.c0 (h : TrA ci w g A n c l) : w.cell? ⟨g, 0, none⟩ = some ci.v := by rw [h.blk.cell]; rfl
theorem TrA.c1 (h : TrA ci w g A n c l) : w.cell? ⟨g, 1, none⟩ = some (.slice A n c) := by rw [h.blk.cell]; rfl
end
set_option maxRecDepth 100000 in
set_option maxHeartbeats 800000 in
theorem find_any (g : Nat) (A : Option Addr) (n c : Nat) (l : List Nd) (m : Int) (w : World) (h : TrA ci w g A n c l) :
    Calls Tryd.prog 14 #[.pointer (some ⟨g, 0, none⟩), .int .u64 m] w (fun e w' => ∃ i b, e = .returned (.tuple #[.int .i64 (i : Nat), .bool b]) ∧ Found l m i b ∧ Below w.heap.size w w') := by
  have c1 := h.c1
  have H := Lib.hid h
  clear h
  go_enter Tryd.func14, Tryd.ntmps14
  go_wp2_with fail
  refine (search_any A n c l 0 m _ H.out.len H.out.ok (Nat.le_refl _) H.out.rd (by have := H.out.few; omega)).mono ?_
  rintro e w2 ⟨i, b, rfl, hf, bw⟩
  have HF := Lib.hid hf
  have HB := Lib.hid bw
  clear hf bw
  go_wp2_with fail
  go_ret2
  exact ⟨i, b, rfl, HF.out, HB.out⟩
theorem find_nil (m : Int) (w : World) :
    Calls Tryd.prog 14 #[.pointer none, .int .u64 m] w (fun e w' => e = .returned (.tuple #[.int .i64 0, .bool false]) ∧ w' = w) := by
  go_enter Tryd.func14, Tryd.ntmps14
  go_wp2_with fail
  go_ret2
  exact ⟨rfl, rfl⟩
theorem found_not {e : Int} {l : List Nd} {m : Int} {i : Nat} (hl : okS e l) (h : Found l m i false) : ∀ x ∈ l, inI x m = false := by
  intro x hx
  obtain ⟨k, hk⟩ := List.getElem?_of_mem hx
  rw [inI_not]
  rcases Nat.lt_or_ge k i with h1 | h1
  · exact .inr (h.2.1 k x h1 hk)
  · left
    have hi : i < l.length := Nat.lt_of_le_of_lt h1 (List.getElem?_eq_some_iff.1 hk).1
    have h4 := h.2.2.2
    rw [List.getElem?_eq_getElem hi] at h4
    have h5 : m < l[i].a := by have := h4.symm; simp at this; exact this
    rcases Nat.lt_or_ge i k with h6 | h6
    · have := okS_at hl i k _ x h6 (List.getElem?_eq_getElem hi) hk
      have := (okS_mem hl _ (List.getElem_mem hi)).1.many
      omega
    · obtain rfl : k = i := by omega
      rw [List.getElem?_eq_getElem hi] at hk
      injection hk with hk
      rw [← hk]; exact h5
theorem found_yes {e : Int} {l : List Nd} {m : Int} {i : Nat} (hl : okS e l) (h : Found l m i true) : ∃ x, l[i]? = some x ∧ inI x m = true ∧ (∀ y ∈ l.take i, inI y m = false) ∧ (∀ y ∈ l.drop (i + 1), inI y m = false) := by
  have h4 := h.2.2.2
  cases hx : l[i]? with
  | none => rw [hx] at h4; simp at h4
  | some x =>
    rw [hx] at h4
    have h5 : x.a ≤ m := by have := h4.symm; simpa using this
    have h6 := h.2.2.1 i x (Nat.le_refl _) hx
    refine ⟨x, rfl, inI_iff.2 ⟨h5, h6⟩, fun y hy => ?_, fun y hy => ?_⟩
    · obtain ⟨k, hk⟩ := List.getElem?_of_mem hy
      rw [List.getElem?_take] at hk
      split at hk
      · rename_i hki
        rw [inI_not]; exact .inr (h.2.1 k y hki hk)
      · cases hk
    · obtain ⟨k, hk⟩ := List.getElem?_of_mem hy
      rw [List.getElem?_drop] at hk
      have := okS_at hl i (i + 1 + k) x y (by omega) hx hk
      rw [inI_not]; left; omega
theorem hasI_found {e : Int} {l : List Nd} {m : Int} {i : Nat} {b : Bool} (hl : okS e l) (h : Found l m i b) : b = hasI l m := by
  cases b with
  | false =>
    have := found_not hl h
    symm
    rw [hasI, List.any_eq_false]
    intro x hx; rw [this x hx]; simp
  | true =>
    obtain ⟨x, hx, hi, _⟩ := found_yes hl h
    symm
    rw [hasI, List.any_eq_true]
    exact ⟨x, List.mem_of_getElem? hx, hi⟩
theorem punL_found {e : Int} {l : List Nd} {m : Int} {i : Nat} {x : Nd} (hl : okS e l) (h : Found l m i true) (hx : l[i]? = some x) : punL ci l m = l.take i ++ woL ci (17 - x.d).toNat x m ++ l.drop (i + 1) := by
  obtain ⟨y, hy, _, h1, h2⟩ := found_yes hl h
  rw [hx] at hy
  injection hy with hy
  subst hy
  have hi : i < l.length := (List.getElem?_eq_some_iff.1 hx).1
  have hxi : l[i] = x := (List.getElem?_eq_some_iff.1 hx).2
  have e1 : l = l.take i ++ (x :: l.drop (i + 1)) := by rw [← hxi, ← List.drop_eq_getElem_cons hi, List.take_append_drop]
  have e2 : punL ci l m = punL ci (l.take i ++ (x :: l.drop (i + 1))) m := by rw [← e1]
  rw [e2, punL_append, punL_not (ci := ci) h1, punL_cons, punL_not (ci := ci) h2, List.append_assoc]
set_option maxHeartbeats 800000 in
theorem has_any (g : Nat) (A : Option Addr) (n c : Nat) (l : List Nd) (m : Int) (w : World) (h : TrA ci w g A n c l) :
    Calls Tryd.prog 13 #[.pointer (some ⟨g, 0, none⟩), .int .u64 m] w (RetB (.bool (hasI l m)) w) := by
  have H := Lib.hid h
  clear h
  go_enter Tryd.func13, Tryd.ntmps13
  go_wp2_with fail
  refine (find_any g A n c l m _ H.out).mono ?_
  rintro e w2 ⟨i, b, rfl, hf, bw⟩
  have HBV := Lib.hid (hasI_found H.out.ok hf)
  have HB := Lib.hid bw
  clear hf bw
  go_wp2_with fail
  go_ret
  rw [← HBV.out]
  exact ⟨rfl, HB.out⟩
theorem has_nil (m : Int) (w : World) : Calls Tryd.prog 13 #[.pointer none, .int .u64 m] w (RetB (.bool false) w) := by
  go_enter Tryd.func13, Tryd.ntmps13
  go_wp2_with fail
  refine (find_nil m _).mono ?_
  rintro e w2 ⟨rfl, rfl⟩
  go_wp2_with fail
  go_ret
  exact ⟨rfl, Below.refl _ _⟩
end Go.Proofs.YtippbjpodnnhiaaDoor.Kg
/-
  The contract of the ci.v cipher's Split, as the laws hand it in.
-/
namespace Go.Proofs.YtippbjpodnnhiaaDoor.Kg
open Go.RowKit
attribute [local go_sem ↓] Go.wp_at_zero Go.wp_at_succ
theorem four_blocks (w : World) (A B C D : Obj) : ((((w.alloc A).alloc B).alloc C).alloc D).heap[w.heap.size]? = some A ∧ ((((w.alloc A).alloc B).alloc C).alloc D).heap[w.heap.size + 1]? = some B ∧ ((((w.alloc A).alloc B).alloc C).alloc D).heap[w.heap.size + 1 + 1]? = some C ∧ ((((w.alloc A).alloc B).alloc C).alloc D).heap[w.heap.size + 1 + 1 + 1]? = some D ∧ Below w.heap.size w ((((w.alloc A).alloc B).alloc C).alloc D) := by
  obtain ⟨h1, h2, h3, hb⟩ := three_blocks w A B C
  have hs : (((w.alloc A).alloc B).alloc C).heap.size = w.heap.size + 1 + 1 + 1 := by simp
  refine ⟨?_, ?_, ?_, ?_, hb.alloc (by rw [hs]; omega) _⟩
  · rw [heap_alloc_old _ _ (by rw [hs]; omega)]; exact h1
  · rw [heap_alloc_old _ _ (by rw [hs]; omega)]; exact h2
  · rw [heap_alloc_old _ _ (by rw [hs]; omega)]; exact h3
  · rw [← hs]; exact heap_alloc_new _ _
theorem info_keyL : (Tryd.prog.info? 23).map (·.size) = some 32 := by kernel_rfl
theorem blk_oldL {w : World} {g : Nat} {cs : Array Value} {t : TypeId} {A : Obj} (h : Blk w g cs t) : Blk (w.alloc A) g cs t := (heap_alloc_old _ _ h.lt).trans h
end Go.Proofs.YtippbjpodnnhiaaDoor.Kg
/-
  The held nodes that are built of their parts.
-/
namespace Go.Proofs.YtippbjpodnnhiaaDoor.Kg
open Go.RowKit
variable {ci : Ciph}
set_option maxRecDepth 100000 in
theorem build_held (x : Nd) (hs : x.s.length = 32) (W : World) :
    (Instr.build 53 #[(0, .int .i64 x.d), (1, .int .u64 x.a), (2, .agg (bva x.s))]).run Tryd.prog W = .ok (.agg (ndC x)) W := by
  have e : Tryd.prog.built 53 [(0, .int .i64 x.d), (1, .int .u64 x.a), (2, .agg (bva x.s))] = Instr.fill places3 (ndC zeroNd) [(0, .int .i64 x.d), (1, .int .u64 x.a), (2, .agg (bva x.s))] := by kernel_rfl
  refine run_build W 53 _ _ ?_
  show Tryd.prog.built 53 [(0, .int .i64 x.d), (1, .int .u64 x.a), (2, .agg (bva x.s))] = _
  rw [e]
  have s0 : (ndC zeroNd).size = 34 := ndC_size rfl
  have c1 : (Value.int .i64 x.d).cells = #[Value.int .i64 x.d] := rfl
  have c2 : (Value.int .u64 x.a).cells = #[Value.int .u64 x.a] := rfl
  have c3 : (Value.agg (bva x.s)).cells = bva x.s := rfl
  have l3 : (bva x.s).toList.length = 32 := by rw [Array.length_toList, bva_size, hs]
  obtain ⟨z1, f1⟩ := Great.foldl_set 0 [Value.int .i64 x.d] 0 (ndC zeroNd)
  generalize hA : ([Value.int .i64 x.d].zipIdx 0).foldl (fun cs (x : Value × Nat) => cs.setIfInBounds (0 + x.2) x.1) (ndC zeroNd) = A at z1 f1
  obtain ⟨z2, f2⟩ := Great.foldl_set 1 [Value.int .u64 x.a] 0 A
  generalize hB : ([Value.int .u64 x.a].zipIdx 0).foldl (fun cs (x : Value × Nat) => cs.setIfInBounds (1 + x.2) x.1) A = B at z2 f2
  obtain ⟨z3, f3⟩ := Great.foldl_set 2 (bva x.s).toList 0 B
  generalize hC : ((bva x.s).toList.zipIdx 0).foldl (fun cs (x : Value × Nat) => cs.setIfInBounds (2 + x.2) x.1) B = C at z3 f3
  rw [fill_step places3 (off := 0) (size := 1) rfl _ (by rw [c1]; rfl) _ (by rw [s0]; omega), c1, hA,
    fill_step places3 (off := 1) (size := 1) rfl _ (by rw [c2]; rfl) _ (by rw [z1, s0]; omega), c2, hB,
    fill_step places3 (off := 2) (size := 32) rfl _ (by rw [c3, bva_size, hs]) _ (by rw [z2, z1, s0]; omega), c3, hC, Instr.fill]
  congr 1
  have hL : ∀ i : Nat, (ndC x)[i]? = (Value.int .i64 x.d :: Value.int .u64 x.a :: bv x.s)[i]? := fun i => by rw [ndC, List.getElem?_toArray]; rfl
  apply Array.ext_getElem?
  intro j
  rw [f3 j, f2 j, f1 j, z2, z1, s0, l3, hL]
  match j with
  | 0 => simp
  | 1 => simp
  | j + 2 =>
    by_cases h3 : j < 32
    · rw [if_pos (by omega), List.getElem?_cons_succ, List.getElem?_cons_succ]
      simp [bva]
    · rw [if_neg (by omega), if_neg (by simp; omega), if_neg (by simp), List.getElem?_eq_none (by simp [bv_length, hs]; omega)]
      exact Array.getElem?_eq_none (by rw [s0]; omega)
theorem one_fillH (x : Nd) (hs : x.s.length = 32) : Instr.fill (fun i => some (i * 34, 34)) ((Array.range (1 * 34)).map ((Value.agg (ndC zeroNd)).cells[· % (Value.agg (ndC zeroNd)).cells.size]!)) [(0, .agg (ndC x))] = some (ndC x) := one_fill x hs
end Go.Proofs.YtippbjpodnnhiaaDoor.Kg
