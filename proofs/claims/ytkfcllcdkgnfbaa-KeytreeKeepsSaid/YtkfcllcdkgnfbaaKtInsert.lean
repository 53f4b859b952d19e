/-
  The contract of slices.Insert at a tree's nodes: a row of the call's own takes the nodes of another row.
-/
import Derived.Test.YtkfcllcdkgnfbaaKtDelete
namespace Go.Proofs.Ytkfcllcdkgnfbaa.Kt
open Go.RowKit
attribute [local go_sem ↓] Go.wp_at_zero Go.wp_at_succ
theorem own_maxN {w : World} {base n size : Nat} {e : TypeId} {v : Value} {xs : List Value} (h : w.ownsRow base e size v n xs) : n ≤ 9223372036854775807 := by
  rcases h.2 with ⟨_, h0⟩ | ⟨_, _, _, _, _, _, h1, h2, _⟩
  · omega
  · unfold maxLen at h2; omega
theorem own_addrN {w : World} {base n c size : Nat} {e : TypeId} {A : Option Addr} {xs : List Value} (h : w.ownsRow base e size (.slice A n c) n xs) : (A = none ∧ n = 0 ∧ c = 0) ∨ ∃ g, A = some ⟨g, 0, none⟩ := by
  rcases h.2 with ⟨h0, h1⟩ | ⟨g, _, _, h0, _⟩
  · injection h0 with e1 e2 e3; exact .inl ⟨e1, e2, e3⟩
  · injection h0 with e1 _ e3; exact .inr ⟨g, e1⟩
theorem own_capN {w : World} {base n c size : Nat} {e : TypeId} {A : Option Addr} {xs : List Value} (h : w.ownsRow base e size (.slice A n c) n xs) : n ≤ c ∧ c ≤ 9223372036854775807 := by
  rcases h.2 with ⟨h0, h1⟩ | ⟨_, _, _, h0, _, _, h1, h2, _⟩
  · injection h0 with _ _ h0; omega
  · injection h0 with _ _ h0
    unfold maxLen at h2; omega
/-- It returns a row in which what is asked stands; nothing else turns but the row that it came from. -/
def RetIns (v : Value) (n : Nat) (xs : List Value) (w : World) (e : Ending) (w' : World) : Prop :=
  ∃ A c, e = .returned (.slice A n c) ∧ w'.ownsRow 0 48 34 (.slice A n c) n xs ∧ But (fun k => v.ownBlock = some k) w w' ∧ ∀ k, (Value.slice A n c).ownBlock = some k → v.ownBlock = some k ∨ w.heap.size ≤ k
theorem run_overlaps (V H : Addr) (m vc lb cb : Nat) (W : World) (hne : V.block ≠ H.block) (cs cur : Array Value) (h1 : W.heap[V.block]? = some (.cells cs 48 (0, 0))) (h2 : W.heap[H.block]? = some (.cells cur 48 (0, 0))) (h0 : cur.size ≠ 0) :
    (callFunc 42 #[.slice (some V) m vc, .slice (some H) lb cb]).run Try.prog W = .ok (.value (.bool false)) W := by
  have hz : ∀ w, (Go.sizeOf 48).run Try.prog w = .ok 34 w := fun w => by kernel_rfl
  rw [run_callFunc_extern (P := Try.prog) (f := 42) (fn := Try.f42) (by kernel_rfl) (by kernel_rfl) (by kernel_rfl) (by kernel_rfl) (e := Extern.SlicesOverlaps.overlaps #[40, 40] #[4]) (by kernel_rfl),
    Lib.run_overlaps_apart W 40 4 48 Try.underlying40 34 hz V H m vc lb cb hne 48 48 cs.size cur.size (by simp [World.shape?, h1]) (by simp [World.shape?, h2]) h0 (by simp [World.frozen?, h1]) (by simp [World.frozen?, h1])]
  rfl
set_option maxRecDepth 100000 in
set_option maxHeartbeats 1600000 in
theorem ins_none (A V : Option Addr) (n c i vc : Nat) (l : List Nd) (w : World) (hi : i ≤ n) (ho : w.ownsRow 0 48 34 (.slice A n c) n (nvs l)) :
    Calls Try.prog 35 #[.slice A n c, .int .i64 (i : Nat), .slice V 0 vc] w (RetIns (.slice A n c) n (nvs l) w) := by
  have hm := own_maxN ho
  have hc := own_capN ho
  have i0 : (0 : Int) ≤ (i : Int) := by omega
  have i1 : (i : Int) ≤ (n : Int) := by omega
  have HO := Lib.hid ho
  clear ho
  by_cases hci : c = i
  · subst hci
    go_enter Try.func35, Try.ntmps35
    go_wp2
    go_ret
    exact ⟨A, c, rfl, HO.out, But.refl _, fun k hk => .inl hk⟩
  · go_enter Try.func35, Try.ntmps35
    go_wp2
    go_ret
    exact ⟨A, c, rfl, HO.out, But.refl _, fun k hk => .inl hk⟩
set_option maxRecDepth 100000 in
set_option maxHeartbeats 1600000 in
theorem ins_end {B : Nat} (A V : Option Addr) (n c m vc : Nat) (l vs : List Nd) (w : World) (ho : w.ownsRow 0 48 34 (.slice A n c) n (nvs l)) (hr : Rd B w V (nvs vs)) (hvl : vs.length = m) (h3 : ∀ x ∈ vs, x.s.length = 32) (hm0 : 0 < m) (hsz : n + m ≤ 1000000) :
    Calls Try.prog 35 #[.slice A n c, .int .i64 (n : Nat), .slice V m vc] w (RetIns (.slice A n c) (n + m) (nvs (l ++ vs)) w) := by
  have hm := own_maxN ho
  have hc := own_capN ho
  have i0 : (0 : Int) ≤ (n : Int) := by omega
  have i2 : ((m : Int) == 0) = false := by simp; omega
  have HO := Lib.hid ho
  have HR := Lib.hid hr
  have HV : Hid ((nvs vs).length = m * 34) := by show _ = _; rw [nvs_length h3, hvl]
  have hA := own_addrN ho
  clear ho hr
  rcases hA with ⟨rfl, rfl, rfl⟩ | ⟨h, rfl⟩
  · rw [Nat.zero_add]
    go_enter Try.func35, Try.ntmps35
    go_wp2_with (at_builtin
                 refine wpList_appN _ rfl (.tmp 23) (.tmp 24) 40 rfl heldsElt (base := 0) (v := .slice none 0 0) rfl HO.out (m := m) rfl HR.out HV.out (nvs_one _) (by omega) (by omega) ?_
                 intro A3 c3 w3 ho3 hg3 hw3
                 have O3 := Lib.hid ho3
                 have G3 := Lib.hid hg3
                 have W3 := Lib.hid hw3
                 clear ho3 hg3 hw3)
    go_ret
    exact ⟨A3, c3, rfl, by rw [nvs_append]; have h := O3.out; rwa [Nat.zero_add] at h, (But.refl w).grown G3.out (fun k hk => .inl hk), fun k hk => by
      have hW := W3.out; rw [Nat.zero_add] at hW; rcases hW with h | h
      · rw [h] at hk; exact .inl hk
      · rw [h] at hk; injection hk with hk; exact .inr (by omega)⟩
  by_cases hci : n = c
  · subst hci
    go_enter Try.func35, Try.ntmps35
    go_wp2_with (at_builtin
                 refine wpList_appN _ rfl (.tmp 23) (.tmp 24) 40 rfl heldsElt (base := 0) (v := .slice (some ⟨h, 0, none⟩) n n) rfl HO.out (m := m) rfl HR.out HV.out (nvs_one _) (by omega) (by omega) ?_
                 intro A3 c3 w3 ho3 hg3 hw3
                 have O3 := Lib.hid ho3
                 have G3 := Lib.hid hg3
                 have W3 := Lib.hid hw3
                 clear ho3 hg3 hw3)
    go_ret
    exact ⟨A3, c3, rfl, by rw [nvs_append]; exact O3.out, (But.refl w).grown G3.out (fun k hk => .inl hk), fun k hk => by
      rcases W3.out with h | h
      · rw [h] at hk; exact .inl hk
      · rw [h] at hk; injection hk with hk; exact .inr (by omega)⟩
  · skip
    go_enter Try.func35, Try.ntmps35
    go_wp2_with (at_builtin
                 refine wpList_appN _ rfl (.tmp 23) (.tmp 24) 40 rfl heldsElt (base := 0) (v := .slice (some ⟨h, 0, none⟩) n c) rfl HO.out (m := m) rfl HR.out HV.out (nvs_one _) (by omega) (by omega) ?_
                 intro A3 c3 w3 ho3 hg3 hw3
                 have O3 := Lib.hid ho3
                 have G3 := Lib.hid hg3
                 have W3 := Lib.hid hw3
                 clear ho3 hg3 hw3)
    go_ret
    exact ⟨A3, c3, rfl, by rw [nvs_append]; exact O3.out, (But.refl w).grown G3.out (fun k hk => .inl hk), fun k hk => by
      rcases W3.out with h | h
      · rw [h] at hk; exact .inl hk
      · rw [h] at hk; injection hk with hk; exact .inr (by omega)⟩
set_option maxRecDepth 100000 in
set_option maxHeartbeats 1600000 in
theorem ins_grow {B : Nat} (h : Nat) (V : Addr) (n c i m vc : Nat) (l vs : List Nd) (w : World) (hl : l.length = n) (h3 : ∀ x ∈ l, x.s.length = 32) (hi : i < n) (ho : w.ownsRow 0 48 34 (.slice (some ⟨h, 0, none⟩) n c) n (nvs l)) (hr : Rd B w (some V) (nvs vs)) (hV : V.block < w.heap.size) (hvl : vs.length = m) (h3v : ∀ x ∈ vs, x.s.length = 32) (hm0 : 0 < m) (hsz : n + m ≤ 1000000) (hap : V.block = h → False) (hroom : c < n + m) :
    Calls Try.prog 35 #[.slice (some ⟨h, 0, none⟩) n c, .int .i64 (i : Nat), .slice (some V) m vc] w (RetIns (.slice (some ⟨h, 0, none⟩) n c) (n + m) (nvs (l.take i ++ vs ++ l.drop i)) w) := by
  obtain ⟨hlen, h0 | ⟨g, cap, cur, hv, _, hg, hnc, hcm, hcs, htk⟩⟩ := ho
  · exact absurd h0.2 (by omega)
  injection hv with e1 _ e3
  injection e1 with e1
  injection e1 with e1
  subst e1
  subst e3
  unfold maxLen at hcm
  have hvn : (nvs vs).length = m * 34 := by rw [nvs_length h3v, hvl]
  have hvb : V.block < w.heap.size ∧ ∀ j u, (nvs vs)[j]? = some u → w.cell? (V.add j) = some u := by
    refine ⟨hV, fun j u hu => ?_⟩
    obtain ⟨ad, e, _, hc⟩ := hr j u hu
    injection e with e
    subst e
    exact hc
  obtain ⟨xs, hxs⟩ : ∃ x, x = nvs vs := ⟨_, rfl⟩
  obtain ⟨ys, hys⟩ : ∃ x, x = nvs (l.drop i) := ⟨_, rfl⟩
  obtain ⟨zs, hzs⟩ : ∃ x, x = nvs (l.take i) := ⟨_, rfl⟩
  have hxl : xs.length = m * 34 := by rw [hxs, hvn]
  have hyl : ys.length = (n - i) * 34 := by rw [hys, nvs_length (fun x hx => h3 x (List.mem_of_mem_drop hx)), List.length_drop, hl]
  have hzl : zs.length = i * 34 := by rw [hzs, nvs_length (fun x hx => h3 x (List.mem_of_mem_take hx)), List.length_take, hl]; omega
  have hx1 : ∀ u ∈ xs, u.oneCell' = true := by rw [hxs]; exact nvs_one _
  have hy1 : ∀ u ∈ ys, u.oneCell' = true := by rw [hys]; exact nvs_one _
  have hyc : ∀ j u, ys[j]? = some u → cur.toList[i * 34 + j]? = some u := by
    intro j u hu
    rw [hys, nvs_drop h3, List.getElem?_drop, ← htk, List.getElem?_take] at hu
    split at hu
    · exact hu
    · cases hu
  have hzc : cur.toList.take (i * 34) = zs := by
    rw [hzs, nvs_take h3, ← htk, List.take_take]; congr 1; omega
  have hall : nvs (l.take i ++ vs ++ l.drop i) = zs ++ (xs ++ ys) := by rw [nvs_append, nvs_append, ← hxs, ← hys, ← hzs, List.append_assoc]
  rw [← hxs] at hvb
  rw [hall]
  have hinf : (Try.prog.info? 48).map (·.size) = some 34 := info_held
  have hHV : V.block ≠ h := fun e => hap e
  have hhw : h < w.heap.size := (Array.getElem?_eq_some_iff.1 hg).1
  have i0 : (0 : Int) ≤ (i : Int) := by omega
  have i1 : (i : Int) ≤ (n : Int) := by omega
  have i2 : ((m : Int) == 0) = false := by simp; omega
  have i3 : ((i : Int) == (n : Int)) = false := by simp; omega
  have i4 : IntKind.i64.wrap ((n : Int) + (m : Int)) = (n : Int) + (m : Int) := IntWalk.i64_in _ (by omega)
  have i6 : IntKind.i64.wrap ((i : Int) + (m : Int)) = (i : Int) + (m : Int) := IntWalk.i64_in _ (by omega)
  have i7 : (0 : Int) ≤ (i : Int) + (m : Int) := by omega
  have i8 : (i : Int) + (m : Int) ≤ (n : Int) + (m : Int) := by omega
  have i9 : ((i : Int) + (m : Int)).toNat = i + m := by omega
  have ia : ¬ c = i := by omega
  have i5 : decide ((n : Int) + (m : Int) > (c : Int)) = true := by simp; omega
  have ib : IntKind.i64.wrap ((n : Int) + (m : Int) - (i : Int)) = (n : Int) + (m : Int) - (i : Int) := IntWalk.i64_in _ (by omega)
  have ic : (n : Int) + (m : Int) - (i : Int) = ((n + m - i : Nat) : Int) := by omega
  obtain ⟨ie, hie, hz0, hz1, hz2⟩ := info_parts info_heldW
  obtain ⟨G, hG⟩ : ∃ G, G = grownCap w (n + m) c 48 := ⟨_, rfl⟩
  have hGn : n + m ≤ G := by rw [hG]; exact grownCap_ge w _ _ _
  have hGm : G ≤ 9223372036854775807 := by
    have := grownCap_le_maxLen w (n + m) c 48 (by unfold maxLen; omega)
    rw [← hG] at this
    unfold maxLen at this
    omega
  obtain ⟨R0, hR0⟩ : ∃ R0 : Array Value, R0 = zs.toArray ++ Builtin.zeroCells (ndC zeroNd) (n + m - i) ++ Builtin.zeroCells (ndC zeroNd) (G - (n + m)) := ⟨_, rfl⟩
  have hR0s : R0.size = G * 34 := by
    rw [hR0]
    simp only [Array.size_append, size_zeroCells, List.size_toArray, hzl, ndC_size (x := zeroNd) rfl, ← Nat.add_mul]
    congr 1; omega
  have hR0t : R0.toList.take (i * 34) = zs := by
    rw [hR0]
    simp only [Array.toList_append, List.append_assoc]
    rw [List.take_left' hzl]
  obtain ⟨N, hN⟩ : ∃ N, N = w.heap.size := ⟨_, rfl⟩
  have hrz : ∀ ty, (Builtin.append_ #[40, 3] ty #[.slice (some ⟨h, 0, none⟩) i c, .int .i64 ((n + m - i : Nat) : Int)]).run Try.prog w = .ok (.slice (some ⟨N, 0, none⟩) (n + m) G) (w.drew.alloc (.cells R0 48)) := fun ty => by
    have hold : (Builtin.firstCells ie.size i (.slice (some ⟨h, 0, none⟩) i c)).run Try.prog w.drew = .ok zs.toArray w.drew := by
      rw [hz1]
      refine run_firstCells_some w.drew 34 i ⟨h, 0, none⟩ i c zs hzl (fun j v hj => ?_)
      rw [add_head]
      show w.cell? ⟨h, j, none⟩ = _
      rw [cell_of_row w h j cur _ _ hg, ← Array.getElem?_toList]
      rw [← hzc, List.getElem?_take] at hj
      split at hj
      · exact hj
      · cases hj
    have hh := Lib.run_append_grow_zeros (P := Try.prog) w 40 3 ty 48 ie _ .i64 .i64 Try.underlying40 Try.underlying3 hie hz0 (some ⟨h, 0, none⟩) i c zs hold (n + m - i) (by omega) (by rw [hz1]; omega) (by omega) (by omega) (by rw [hz2]; omega) (by rw [hz2, show i + (n + m - i) = n + m by omega]; exact growslice_fits hroom (by omega))
    rw [show i + (n + m - i) = n + m by omega, ← hG] at hh
    rw [hN, hR0]
    exact hh
  obtain ⟨W1, hW1⟩ : ∃ W1, W1 = w.drew.alloc (.cells R0 48) := ⟨_, rfl⟩
  have g1 : Blk W1 N R0 48 := by rw [hW1, hN]; exact heap_alloc_new w.drew _
  have b1 : But (fun k => (Value.slice (some ⟨h, 0, none⟩) n c).ownBlock = some k) w W1 := by rw [hW1]; exact (But.refl w).drew.alloc _
  rw [← hW1] at hrz
  obtain ⟨R1, hR1⟩ : ∃ R1, R1 = (splice R0.toList (i * 34) xs).toArray := ⟨_, rfl⟩
  obtain ⟨R2, hR2⟩ : ∃ R2, R2 = (splice R1.toList ((i + m) * 34) ys).toArray := ⟨_, rfl⟩
  have hR1s : R1.size = G * 34 := by rw [hR1, List.size_toArray, length_splice _ _ _ (by have := hR0s; rw [← Array.length_toList] at this; omega), Array.length_toList, hR0s]
  have hR2s : R2.size = G * 34 := by rw [hR2, List.size_toArray, length_splice _ _ _ (by have := hR1s; rw [← Array.length_toList] at this; omega), Array.length_toList, hR1s]
  have hR2t : R2.toList.take ((n + m) * 34) = zs ++ (xs ++ ys) := by
    have e1 : R1.toList.take ((i + m) * 34) = zs ++ xs := by
      rw [hR1, List.toList_toArray, splice, hR0t, ← List.append_assoc, List.take_left' (by rw [List.length_append, hzl, hxl]; omega)]
    rw [hR2, List.toList_toArray, splice, e1, ← List.append_assoc, List.take_left' (by rw [List.length_append, List.length_append, hzl, hxl, hyl]; omega), List.append_assoc]
  have hcp1 : ∀ ty dl dc, m ≤ dl → (Builtin.copy_ #[40, 40] ty #[.slice (some ⟨N, i * 34, none⟩) dl dc, .slice (some V) m vc]).run Try.prog W1 = .ok (goInt m) (W1.setRow N R1) := fun ty dl dc hd => by
    have hmin : Nat.min m dl = m := Nat.min_eq_left hd
    have := run_copyN (P := Try.prog) W1 40 40 ty 48 34 Try.underlying40 hinf N (i * 34) dl dc V m vc R0 48 xs g1 (by rw [hmin, hxl]) (fun j v hj => by
      have := hvb.2 j v hj
      rw [← this, hW1]
      have hlt : (V.add j).block < w.heap.size := by rw [add_block]; exact hvb.1
      exact World.cell?_of_block (heap_alloc_old w.drew _ hlt)) (by rw [hxl, hR0s]; omega) hx1
    rw [hmin, ← hR1] at this
    exact this
  obtain ⟨W2, hW2⟩ : ∃ W2, W2 = W1.setRow N R1 := ⟨_, rfl⟩
  have g2 : Blk W2 N R1 48 := by rw [hW2]; exact setRow_heap _ _ _ _ _ _ g1
  have b2 : But (fun k => (Value.slice (some ⟨h, 0, none⟩) n c).ownBlock = some k) w W2 := by rw [hW2]; exact b1.setRow (.inr (by omega)) _
  have hcur2 : Blk W2 h cur 48 := by
    unfold Blk
    rw [hW2, setRow_other _ _ _ _ (by omega), hW1]
    exact (heap_alloc_old w.drew _ hhw).trans hg
  rw [← hW2] at hcp1
  have hcp2 : ∀ k ty dl dc sl sc, Nat.min sl dl = n - i → (Builtin.copy_ #[40, 40] ty #[.slice (some ⟨N, (i + m) * 34, none⟩) dl dc, .slice (some ⟨h, i * 34, none⟩) sl sc]).run Try.prog (W2.drewN k) = .ok (goInt (n - i : Nat)) ((W2.drewN k).setRow N R2) := fun k ty dl dc sl sc hmin => by
    have := run_copyN (P := Try.prog) (W2.drewN k) 40 40 ty 48 34 Try.underlying40 hinf N ((i + m) * 34) dl dc ⟨h, i * 34, none⟩ sl sc R1 48 ys g2 (by rw [hmin, hyl]) (fun j v hj => by
      rw [Addr.add_mid]
      show W2.cell? _ = _
      rw [hcur2.cell, ← Array.getElem?_toList]
      exact hyc j v hj) (by rw [hyl, hR1s]; omega) hy1
    rw [hmin, ← hR2] at this
    exact this
  have hfin : ∀ W k, W = (W2.drewN k).setRow N R2 → RetIns (.slice (some ⟨h, 0, none⟩) n c) (n + m) (zs ++ (xs ++ ys)) w (.returned (.slice (some ⟨N, 0, none⟩) (n + m) G)) W := fun W k hW => by
    refine ⟨some ⟨N, 0, none⟩, G, rfl, ⟨by simp only [List.length_append, hzl, hxl, hyl]; omega, .inr ⟨N, G, R2, rfl, Nat.zero_le _, ?_, hGn, by unfold maxLen; omega, hR2s, hR2t⟩⟩, ?_, ?_⟩
    · rw [hW]; exact setRow_heap _ _ _ _ _ _ g2
    · rw [hW]; exact (b2.drewN k).setRow (.inr (by omega)) _
    · intro k' hk'
      injection hk' with hk'
      exact .inr (by rw [← hk', hN]; exact Nat.le_refl _)
  have HRZ := Lib.hid hrz
  have HC1 := Lib.hid hcp1
  have HC2 := Lib.hid hcp2
  have HF := Lib.hid hfin
  have hNh : h < N := by omega
  have hGi : ¬ G = i := by omega
  have hGim : ¬ G = i + m := by omega
  have hGb : (i : Int) + (m : Int) ≤ (G : Int) := by omega
  have hGb2 : (n : Int) + (m : Int) ≤ (G : Int) := by omega
  clear hN hrz hcp1 hcp2 hfin hW1 hW2 hR0 hR1 hR2 hR0s hR1s hR2s hR0t hR2t hzc hyc hall hx1 hy1 hxs hys hzs hvb hr hg hcs htk hinf hz0 hz1 hz2 hie hG g1 g2 b1 b2 hcur2
  have hc1 := HC1.out 3 (n + m - i) (G - i) (by omega)
  go_enter Try.func35, Try.ntmps35
  go_wp2_with (first
    | (at_builtin
       refine wpList_appR _ rfl (.tmp 34) (.tmp 39) 40 3 rfl (.slice (some ⟨h, 0, none⟩) i c) (.int .i64 ((n + m - i : Nat) : Int)) rfl rfl (HRZ.out _) ?_))
  clear hc1
  refine wp_region_held_drew (S := fun _ => True) (by kernel_rfl) trivial (fun hh => ?_)
  have HH := Lib.hid hh
  clear hh
  refine wpAnyH_take (i := 0) (v := ?va0) rfl (by kernel_rfl) (by kernel_rfl) (by kernel_rfl) (fun _ _ _ h => h) (Or.inl ⟨by rfl, fun w' _ => ?ya0⟩) HH.out ?_
  case ya0 => (go_simp; try with_reducible rfl)
  refine wpAnyH_take (i := 1) (v := ?va1) rfl (by kernel_rfl) (by kernel_rfl) (by kernel_rfl) (fun _ _ _ h => h) (Or.inl ⟨by rfl, fun w' _ => ?ya1⟩) HH.out ?_
  case ya1 => (go_simp; try with_reducible rfl)
  try simp only [List.getElem_toArray, List.getElem_cons_succ, List.getElem_cons_zero, Act.put, List.setIfInBounds_toArray, List.set_cons_zero, List.set_cons_succ]
  refine wpAnyH_take (i := 2) (v := ?va2) rfl (by kernel_rfl) (by kernel_rfl) (by kernel_rfl) (fun _ _ _ h => h) (Or.inl ⟨by rfl, fun w' _ => ?ya2⟩) HH.out ?_
  case ya2 => (go_simp; try with_reducible rfl)
  refine wpAnyH_take (i := 3) (v := ?va3) rfl (by kernel_rfl) (by kernel_rfl) (by kernel_rfl) (fun _ _ _ h => h) (Or.inl ⟨by rfl, fun w' _ => ?ya3⟩) HH.out ?_
  case ya3 => (go_simp; try with_reducible rfl)
  refine wpAnyH_take (i := 4) (v := ?va4) rfl (by kernel_rfl) (by kernel_rfl) (by kernel_rfl) (fun _ _ _ h => h) (Or.inl ⟨by rfl, fun w' _ => ?ya4⟩) HH.out ?_
  case ya4 => (go_simp; try with_reducible rfl)
  try simp only [List.getElem_toArray, List.getElem_cons_succ, List.getElem_cons_zero, Act.put, List.setIfInBounds_toArray, List.set_cons_zero, List.set_cons_succ]
  refine wpAnyH_take (i := 5) (v := ?va5) rfl (by kernel_rfl) (by kernel_rfl) (by kernel_rfl) (fun _ _ _ h => h) (Or.inl ⟨by rfl, fun w' _ => ?ya5⟩) HH.out ?_
  case ya5 => (go_simp; try with_reducible rfl)
  refine wpAnyH_take (i := 6) (v := ?va6) rfl (by kernel_rfl) (by kernel_rfl) (by kernel_rfl) (fun _ _ _ h => h) (Or.inl ⟨by rfl, fun w' _ => ?ya6⟩) HH.out ?_
  case ya6 => (go_simp; try with_reducible rfl)
  refine wpAnyH_take (i := 7) (v := ?va7) rfl (by kernel_rfl) (by kernel_rfl) (by kernel_rfl) (fun _ _ _ h => h) (Or.inl ⟨by rfl, fun w' _ => ?ya7⟩) HH.out ?_
  case ya7 => (go_simp; try with_reducible rfl)
  try simp only [List.getElem_toArray, List.getElem_cons_succ, List.getElem_cons_zero, Act.put, List.setIfInBounds_toArray, List.set_cons_zero, List.set_cons_succ]
  refine wpAnyH_ready (rs := [8]) (by kernel_rfl) (by simp) (AllReadyH.cons rfl (fun K hK => ?_) AllReadyH.nil)
  refine step_copyR rfl (.tmp 50) (.tmp 53) 40 40 rfl (.slice (some ⟨N, (i + m) * 34, none⟩) (n + m - (i + m)) (G - (i + m))) (.slice (some ⟨h, i * 34, none⟩) (n - i) (c - i)) rfl rfl (HC2.out 1 _ _ _ _ _ (by simp only [Nat.min_def]; split <;> omega)) ?_
  refine hK.out _ _ trivial (fun hh => ?_)
  clear hh hK K HH
  try simp only [List.getElem_toArray, List.getElem_cons_succ, List.getElem_cons_zero, Act.put, List.setIfInBounds_toArray, List.set_cons_zero, List.set_cons_succ]
  refine wpAnyH_done (by kernel_rfl) ?_ _
  have hw := HF.out _ 1 rfl
  generalize hWW : World.setRow _ _ _ = WW
  rw [hWW] at hw
  clear hWW
  go_wp2
  go_ret
  exact hw
set_option maxRecDepth 100000 in
set_option maxHeartbeats 1600000 in
theorem ins_room {B : Nat} (h : Nat) (V : Addr) (n c i m vc : Nat) (l vs : List Nd) (w : World) (hl : l.length = n) (h3 : ∀ x ∈ l, x.s.length = 32) (hi : i < n) (ho : w.ownsRow 0 48 34 (.slice (some ⟨h, 0, none⟩) n c) n (nvs l)) (hr : Rd B w (some V) (nvs vs)) (hV : V.block < w.heap.size) (hvl : vs.length = m) (h3v : ∀ x ∈ vs, x.s.length = 32) (hm0 : 0 < m) (hsz : n + m ≤ 1000000) (hap : V.block = h → False) (cv : Array Value) (hVb : w.heap[V.block]? = some (.cells cv 48 (0, 0))) (hroom : n + m ≤ c) :
    Calls Try.prog 35 #[.slice (some ⟨h, 0, none⟩) n c, .int .i64 (i : Nat), .slice (some V) m vc] w (RetIns (.slice (some ⟨h, 0, none⟩) n c) (n + m) (nvs (l.take i ++ vs ++ l.drop i)) w) := by
  obtain ⟨hlen, h0 | ⟨g, cap, cur, hv, _, hg, hnc, hcm, hcs, htk⟩⟩ := ho
  · exact absurd h0.2 (by omega)
  injection hv with e1 _ e3
  injection e1 with e1
  injection e1 with e1
  subst e1
  subst e3
  unfold maxLen at hcm
  have hvn : (nvs vs).length = m * 34 := by rw [nvs_length h3v, hvl]
  have hvb : V.block < w.heap.size ∧ ∀ j u, (nvs vs)[j]? = some u → w.cell? (V.add j) = some u := by
    refine ⟨hV, fun j u hu => ?_⟩
    obtain ⟨ad, e, _, hc⟩ := hr j u hu
    injection e with e
    subst e
    exact hc
  obtain ⟨xs, hxs⟩ : ∃ x, x = nvs vs := ⟨_, rfl⟩
  obtain ⟨ys, hys⟩ : ∃ x, x = nvs (l.drop i) := ⟨_, rfl⟩
  obtain ⟨zs, hzs⟩ : ∃ x, x = nvs (l.take i) := ⟨_, rfl⟩
  have hxl : xs.length = m * 34 := by rw [hxs, hvn]
  have hyl : ys.length = (n - i) * 34 := by rw [hys, nvs_length (fun x hx => h3 x (List.mem_of_mem_drop hx)), List.length_drop, hl]
  have hzl : zs.length = i * 34 := by rw [hzs, nvs_length (fun x hx => h3 x (List.mem_of_mem_take hx)), List.length_take, hl]; omega
  have hx1 : ∀ u ∈ xs, u.oneCell' = true := by rw [hxs]; exact nvs_one _
  have hy1 : ∀ u ∈ ys, u.oneCell' = true := by rw [hys]; exact nvs_one _
  have hyc : ∀ j u, ys[j]? = some u → cur.toList[i * 34 + j]? = some u := by
    intro j u hu
    rw [hys, nvs_drop h3, List.getElem?_drop, ← htk, List.getElem?_take] at hu
    split at hu
    · exact hu
    · cases hu
  have hzc : cur.toList.take (i * 34) = zs := by
    rw [hzs, nvs_take h3, ← htk, List.take_take]; congr 1; omega
  have hall : nvs (l.take i ++ vs ++ l.drop i) = zs ++ (xs ++ ys) := by rw [nvs_append, nvs_append, ← hxs, ← hys, ← hzs, List.append_assoc]
  rw [← hxs] at hvb
  rw [hall]
  have hinf : (Try.prog.info? 48).map (·.size) = some 34 := info_held
  have hHV : V.block ≠ h := fun e => hap e
  have hhw : h < w.heap.size := (Array.getElem?_eq_some_iff.1 hg).1
  have i0 : (0 : Int) ≤ (i : Int) := by omega
  have i1 : (i : Int) ≤ (n : Int) := by omega
  have i2 : ((m : Int) == 0) = false := by simp; omega
  have i3 : ((i : Int) == (n : Int)) = false := by simp; omega
  have i4 : IntKind.i64.wrap ((n : Int) + (m : Int)) = (n : Int) + (m : Int) := IntWalk.i64_in _ (by omega)
  have i6 : IntKind.i64.wrap ((i : Int) + (m : Int)) = (i : Int) + (m : Int) := IntWalk.i64_in _ (by omega)
  have i7 : (0 : Int) ≤ (i : Int) + (m : Int) := by omega
  have i8 : (i : Int) + (m : Int) ≤ (n : Int) + (m : Int) := by omega
  have i9 : ((i : Int) + (m : Int)).toNat = i + m := by omega
  have ia : ¬ c = i := by omega
  have i5 : decide ((n : Int) + (m : Int) > (c : Int)) = false := by simp; omega
  obtain ⟨C1, hC1⟩ : ∃ x, x = (splice cur.toList ((i + m) * 34) ys).toArray := ⟨_, rfl⟩
  obtain ⟨C2, hC2⟩ : ∃ x, x = (splice C1.toList (i * 34) xs).toArray := ⟨_, rfl⟩
  have hC1s : C1.size = c * 34 := by rw [hC1, List.size_toArray, length_splice _ _ _ (by have := hcs; rw [← Array.length_toList] at this; omega), Array.length_toList, hcs]
  have hC2s : C2.size = c * 34 := by rw [hC2, List.size_toArray, length_splice _ _ _ (by have := hC1s; rw [← Array.length_toList] at this; omega), Array.length_toList, hC1s]
  have hlc : cur.toList.length = c * 34 := by rw [Array.length_toList, hcs]
  have hC2t : C2.toList.take ((n + m) * 34) = zs ++ (xs ++ ys) := by
    have e1 : C1.toList.take (i * 34) = zs := by
      rw [hC1, List.toList_toArray, splice, List.take_append_of_le_length (by rw [List.length_take]; omega), List.take_take, ← hzc]
      congr 1; omega
    have e2 : C1.toList.drop (i * 34 + xs.length) = ys ++ cur.toList.drop ((i + m) * 34 + ys.length) := by
      rw [hC1, List.toList_toArray, splice, List.drop_left' (by rw [List.length_take, hlc, hxl]; omega)]
    rw [hC2, List.toList_toArray, splice, e1, e2, ← List.append_assoc xs, ← List.append_assoc zs, List.take_left' (by rw [List.length_append, List.length_append, hzl, hxl, hyl]; omega)]
  obtain ⟨W1, hW1⟩ : ∃ W1, W1 = w.drew.setRow h C1 := ⟨_, rfl⟩
  have g1 : Blk W1 h C1 48 := by rw [hW1]; exact setRow_heap _ _ _ _ _ _ hg
  have hcp1 : ∀ ty dl dc sl sc, Nat.min sl dl = n - i → (Builtin.copy_ #[40, 40] ty #[.slice (some ⟨h, (i + m) * 34, none⟩) dl dc, .slice (some ⟨h, i * 34, none⟩) sl sc]).run Try.prog w.drew = .ok (goInt (n - i : Nat)) (w.drew.setRow h C1) := fun ty dl dc sl sc hmin => by
    have := run_copyN (P := Try.prog) w.drew 40 40 ty 48 34 Try.underlying40 hinf h ((i + m) * 34) dl dc ⟨h, i * 34, none⟩ sl sc cur 48 ys hg (by rw [hmin, hyl]) (fun j v hj => by
      rw [Addr.add_mid]
      show w.cell? _ = _
      rw [cell_of_row w h _ cur _ _ hg, ← Array.getElem?_toList]
      exact hyc j v hj) (by rw [hyl, hcs]; omega) hy1
    rw [hmin, ← hC1] at this
    exact this
  have hcp2 : ∀ ty dl dc, m ≤ dl → (Builtin.copy_ #[40, 40] ty #[.slice (some ⟨h, i * 34, none⟩) dl dc, .slice (some V) m vc]).run Try.prog W1 = .ok (goInt m) (W1.setRow h C2) := fun ty dl dc hd => by
    have hmin : Nat.min m dl = m := Nat.min_eq_left hd
    have := run_copyN (P := Try.prog) W1 40 40 ty 48 34 Try.underlying40 hinf h (i * 34) dl dc V m vc C1 48 xs g1 (by rw [hmin, hxl]) (fun j v hj => by
      have := hvb.2 j v hj
      rw [← this, hW1]
      exact cell_setRow_other w.drew h C1 (V.add j) (by rw [add_block]; exact hHV)) (by rw [hxl, hC1s]; omega) hx1
    rw [hmin, ← hC2] at this
    exact this
  obtain ⟨W2, hW2⟩ : ∃ W2, W2 = W1.setRow h C2 := ⟨_, rfl⟩
  have hfin : RetIns (.slice (some ⟨h, 0, none⟩) n c) (n + m) (zs ++ (xs ++ ys)) w (.returned (.slice (some ⟨h, 0, none⟩) (n + m) c)) W2 := by
    refine ⟨some ⟨h, 0, none⟩, c, rfl, ⟨by simp only [List.length_append, hzl, hxl, hyl]; omega, .inr ⟨h, c, C2, rfl, Nat.zero_le _, ?_, hroom, by unfold maxLen; omega, hC2s, hC2t⟩⟩, ?_, fun k hk => .inl hk⟩
    · rw [hW2]; exact setRow_heap _ _ _ _ _ _ g1
    · rw [hW2, hW1]; exact ((But.refl w).drew.setRow (S := fun k => (Value.slice (some ⟨h, 0, none⟩) n c).ownBlock = some k) (g := h) (.inl rfl) _).setRow (g := h) (.inl rfl) _
  have hov : ∀ lb cb, (callFunc 42 #[.slice (some V) m vc, .slice (some ⟨h, (i + m) * 34, none⟩) lb cb]).run Try.prog w = .ok (.value (.bool false)) w := fun lb cb =>
    run_overlaps V ⟨h, (i + m) * 34, none⟩ m vc lb cb w hHV cv cur hVb hg (by rw [hcs]; omega)
  have HC1 := Lib.hid hcp1
  have HC2 := Lib.hid hcp2
  have HF := Lib.hid hfin
  have HW1 := Lib.hid hW1
  have HW2 := Lib.hid hW2
  have hci1 : ¬ c = i + m := by omega
  have hca : (n : Int) + (m : Int) ≤ (c : Int) := by omega
  have hcb : (i : Int) ≤ (n : Int) + (m : Int) := by omega
  have hcd : (0 : Int) ≤ (n : Int) + (m : Int) := by omega
  have hce : ((n : Int) + (m : Int)).toNat = n + m := by omega
  clear hcp1 hcp2 hfin hW1 hW2 hC1 hC2 hC1s hC2s hC2t hlc hzc hyc hall hx1 hy1 hxs hys hzs hvb hr hg hcs htk hinf g1 hVb
  go_enter Try.func35, Try.ntmps35
  go_wp2_with (simp only [hov])
  refine wp_region_held_drew (S := fun _ => True) (by kernel_rfl) trivial (fun hh => ?_)
  have HH := Lib.hid hh
  clear hh
  refine wpAnyH_take (i := 0) (v := ?vb0) rfl (by kernel_rfl) (by kernel_rfl) (by kernel_rfl) (fun _ _ _ h => h) (Or.inl ⟨by rfl, fun w' _ => ?yb0⟩) HH.out ?_
  case yb0 => (go_simp; try with_reducible rfl)
  refine wpAnyH_take (i := 1) (v := ?vb1) rfl (by kernel_rfl) (by kernel_rfl) (by kernel_rfl) (fun _ _ _ h => h) (Or.inl ⟨by rfl, fun w' _ => ?yb1⟩) HH.out ?_
  case yb1 => (go_simp; try with_reducible rfl)
  try simp only [List.getElem_toArray, List.getElem_cons_succ, List.getElem_cons_zero, Act.put, List.setIfInBounds_toArray, List.set_cons_zero, List.set_cons_succ]
  refine wpAnyH_take (i := 2) (v := ?vb2) rfl (by kernel_rfl) (by kernel_rfl) (by kernel_rfl) (fun _ _ _ h => h) (Or.inl ⟨by rfl, fun w' _ => ?yb2⟩) HH.out ?_
  case yb2 => (go_simp; try with_reducible rfl)
  refine wpAnyH_take (i := 3) (v := ?vb3) rfl (by kernel_rfl) (by kernel_rfl) (by kernel_rfl) (fun _ _ _ h => h) (Or.inl ⟨by rfl, fun w' _ => ?yb3⟩) HH.out ?_
  case yb3 => (go_simp; try with_reducible rfl)
  refine wpAnyH_take (i := 4) (v := ?vb4) rfl (by kernel_rfl) (by kernel_rfl) (by kernel_rfl) (fun _ _ _ h => h) (Or.inl ⟨by rfl, fun w' _ => ?yb4⟩) HH.out ?_
  case yb4 => (go_simp; try with_reducible rfl)
  try simp only [List.getElem_toArray, List.getElem_cons_succ, List.getElem_cons_zero, Act.put, List.setIfInBounds_toArray, List.set_cons_zero, List.set_cons_succ]
  refine wpAnyH_take (i := 5) (v := ?vb5) rfl (by kernel_rfl) (by kernel_rfl) (by kernel_rfl) (fun _ _ _ h => h) (Or.inl ⟨by rfl, fun w' _ => ?yb5⟩) HH.out ?_
  case yb5 => (go_simp; try with_reducible rfl)
  refine wpAnyH_take (i := 6) (v := ?vb6) rfl (by kernel_rfl) (by kernel_rfl) (by kernel_rfl) (fun _ _ _ h => h) (Or.inl ⟨by rfl, fun w' _ => ?yb6⟩) HH.out ?_
  case yb6 => (go_simp; try with_reducible rfl)
  refine wpAnyH_take (i := 7) (v := ?vb7) rfl (by kernel_rfl) (by kernel_rfl) (by kernel_rfl) (fun _ _ _ h => h) (Or.inl ⟨by rfl, fun w' _ => ?yb7⟩) HH.out ?_
  case yb7 => (go_simp; try with_reducible rfl)
  try simp only [List.getElem_toArray, List.getElem_cons_succ, List.getElem_cons_zero, Act.put, List.setIfInBounds_toArray, List.set_cons_zero, List.set_cons_succ]
  refine wpAnyH_ready (rs := [8]) (by kernel_rfl) (by simp) (AllReadyH.cons rfl (fun K hK => ?_) AllReadyH.nil)
  refine step_copyR rfl (.tmp 73) (.tmp 76) 40 40 rfl (.slice (some ⟨h, (i + m) * 34, none⟩) (n + m - (i + m)) (c - (i + m))) (.slice (some ⟨h, i * 34, none⟩) (n + m - i) (c - i)) rfl rfl (HC1.out _ _ _ _ _ (by simp only [Nat.min_def]; split <;> omega)) ?_
  refine hK.out _ _ trivial (fun hh => ?_)
  clear hh hK K HH
  try simp only [List.getElem_toArray, List.getElem_cons_succ, List.getElem_cons_zero, Act.put, List.setIfInBounds_toArray, List.set_cons_zero, List.set_cons_succ]
  refine wpAnyH_done (by kernel_rfl) ?_ _
  rw [← HW1.out]
  have hc2 := HC2.out 3 (n + m - i) (c - i) (by omega)
  go_wp2
  rw [← HW2.out]
  go_ret
  exact HF.out
theorem insert_any (A V : Option Addr) (n c i m vc : Nat) (l vs : List Nd) (w : World) (hl : l.length = n) (h3 : ∀ x ∈ l, x.s.length = 32) (hi : i ≤ n) (ho : w.ownsRow 0 48 34 (.slice A n c) n (nvs l))
    (hv : w.ownsRow 0 48 34 (.slice V m vc) m (nvs vs)) (hvl : vs.length = m) (h3v : ∀ x ∈ vs, x.s.length = 32) (hsz : n + m ≤ 1000000) (hap : ∀ k, (Value.slice A n c).ownBlock = some k → (Value.slice V m vc).ownBlock = some k → False) :
    Calls Try.prog 35 #[.slice A n c, .int .i64 (i : Nat), .slice V m vc] w (RetIns (.slice A n c) (n + m) (nvs (l.take i ++ vs ++ l.drop i)) w) := by
  by_cases hm : m = 0
  · subst hm
    obtain rfl : vs = [] := List.eq_nil_of_length_eq_zero hvl
    have h := ins_none A V n c i vc l w hi ho
    rw [List.append_nil, List.take_append_drop]
    exact h
  · by_cases hn : i = n
    · obtain rfl : n = i := hn.symm
      have h := ins_end A V n c m vc l vs w ho (Rd.ownN hv) hvl h3v (by omega) hsz
      rw [List.take_of_length_le (by omega), List.drop_eq_nil_of_le (by omega), List.append_nil]
      exact h
    · rcases own_addrN ho with ⟨_, h0, _⟩ | ⟨h, rfl⟩
      · omega
      · rcases own_addrN hv with ⟨_, h0, _⟩ | ⟨g, rfl⟩
        · omega
        · have hne : g = h → False := fun e => hap h rfl (by rw [e]; rfl)
          have hgw : ∃ cv, w.heap[g]? = some (.cells cv 48 (0, 0)) := by
            rcases hv.2 with ⟨_, h0⟩ | ⟨g', cap, cur, hvv, _, hg, _⟩
            · omega
            · injection hvv with e1 _ _
              injection e1 with e1
              injection e1 with e1
              subst e1
              exact ⟨cur, hg⟩
          obtain ⟨cv, hcv⟩ := hgw
          by_cases hr : c < n + m
          · exact ins_grow h ⟨g, 0, none⟩ n c i m vc l vs w hl h3 (by omega) ho (Rd.ownN hv) (Array.getElem?_eq_some_iff.1 hcv).1 hvl h3v (by omega) hsz hne hr
          · exact ins_room h ⟨g, 0, none⟩ n c i m vc l vs w hl h3 (by omega) ho (Rd.ownN hv) (Array.getElem?_eq_some_iff.1 hcv).1 hvl h3v (by omega) hsz hne cv hcv (by omega)
end Go.Proofs.Ytkfcllcdkgnfbaa.Kt
