/-
  Texts of this seat, one behind the other: KgInsert, KgBes.
-/
import Derived.Test.YtippbjpodnnhiaaDoorDk4
/-
  The contract of slices.Insert at a tree's nodes: a row of the call's own takes the nodes of another row.
-/
namespace Go.Proofs.YtippbjpodnnhiaaDoor.Kg
open Go.RowKit
variable {ci : Ciph}
attribute [local go_sem ↓] Go.wp_at_zero Go.wp_at_succ
theorem own_maxN {w : World} {base n size : Nat} {e : TypeId} {v : Value} {xs : List Value} (h : w.ownsRow base e size v n xs) : n ≤ 9223372036854775807 := by
  rcases h.2 with ⟨_, h0⟩ | ⟨_, _, _, _, _, _, h1, h2, _⟩
  · omega
  · unfold maxLen at h2; omega
theorem own_addrN {w : World} {base n c size : Nat} {e : TypeId} {A : Option Addr} {xs : List Value} (h : w.ownsRow base e size (.slice A n c) n xs) : (A = none ∧ n = 0 ∧ c = 0) ∨ ∃ g, A = some ⟨g, 0, none⟩ := by
  rcases h.2 with ⟨h0, h1⟩ | ⟨g, _, _, h0, _⟩
  · injection h0 with e1 e2 e3; exact .inl ⟨e1, e2, e3⟩
  · injection h0 with e1 _ e3; exact .inr ⟨g, e1⟩
theorem own_capN {w : World} {base n c size : Nat} {e : TypeId} {A : Option Addr} {xs : List Value} (h : w.ownsRow base e size (.slice A n c) n xs) : n ≤ c ∧ c ≤ 9223372036854775807 := by
  rcases h.2 with ⟨h0, h1⟩ | ⟨_, _, _, h0, _, _, h1, h2, _⟩
  · injection h0 with _ _ h0; omega
  · injection h0 with _ _ h0
    unfold maxLen at h2; omega
/-- It returns a row in which what is asked stands; nothing else turns but the row that it came from. -/
def RetIns (v : Value) (n : Nat) (xs : List Value) (w : World) (e : Ending) (w' : World) : Prop :=
  ∃ A c, e = .returned (.slice A n c) ∧ w'.ownsRow 0 53 34 (.slice A n c) n xs ∧ But (fun k => v.ownBlock = some k) w w' ∧ ∀ k, (Value.slice A n c).ownBlock = some k → v.ownBlock = some k ∨ w.heap.size ≤ k
theorem run_overlaps (V H : Addr) (m vc lb cb : Nat) (W : World) (hne : V.block ≠ H.block) (cs cur : Array Value) (h1 : W.heap[V.block]? = some (.cells cs 53 (0, 0))) (h2 : W.heap[H.block]? = some (.cells cur 53 (0, 0))) (h0 : cur.size ≠ 0) :
    (callFunc 30 #[.slice (some V) m vc, .slice (some H) lb cb]).run Tryd.prog W = .ok (.value (.bool false)) W := by
  have hz : ∀ w, (Go.sizeOf 53).run Tryd.prog w = .ok 34 w := fun w => by kernel_rfl
  rw [run_callFunc_extern (P := Tryd.prog) (f := 30) (fn := Tryd.f30) (by kernel_rfl) (by kernel_rfl) (by kernel_rfl) (by kernel_rfl) (e := Extern.SlicesOverlaps.overlaps #[38, 38] #[4]) (by kernel_rfl),
    Lib.run_overlaps_apart W 38 4 53 Tryd.underlying38 34 hz V H m vc lb cb hne 53 53 cs.size cur.size (by simp [World.shape?, h1]) (by simp [World.shape?, h2]) h0 (by simp [World.frozen?, h1]) (by simp [World.frozen?, h1])]
  rfl
set_option maxRecDepth 100000 in
set_option maxHeartbeats 1600000 in
theorem ins_none (A V : Option Addr) (n c i vc : Nat) (l : List Nd) (w : World) (hi : i ≤ n) (ho : w.ownsRow 0 53 34 (.slice A n c) n (nvs l)) :
    Calls Tryd.prog 17 #[.slice A n c, .int .i64 (i : Nat), .slice V 0 vc] w (RetIns (.slice A n c) n (nvs l) w) := by
  have hm := own_maxN ho
  have hc := own_capN ho
  have i0 : (0 : Int) ≤ (i : Int) := by omega
  have i1 : (i : Int) ≤ (n : Int) := by omega
  have HO := Lib.hid ho
  clear ho
  by_cases hci : c = i
  · subst hci
    go_enter Tryd.func17, Tryd.ntmps17
    go_wp2
    go_ret
    exact ⟨A, c, rfl, HO.out, But.refl _, fun k hk => .inl hk⟩
  · go_enter Tryd.func17, Tryd.ntmps17
    go_wp2
    go_ret
    exact ⟨A, c, rfl, HO.out, But.refl _, fun k hk => .inl hk⟩
set_option maxRecDepth 100000 in
set_option maxHeartbeats 1600000 in
theorem ins_end {B : Nat} (A V : Option Addr) (n c m vc : Nat) (l vs : List Nd) (w : World) (ho : w.ownsRow 0 53 34 (.slice A n c) n (nvs l)) (hr : Rd B w V (nvs vs)) (hvl : vs.length = m) (h3 : ∀ x ∈ vs, x.s.length = 32) (hm0 : 0 < m) (hsz : n + m ≤ 1000000) :
    Calls Tryd.prog 17 #[.slice A n c, .int .i64 (n : Nat), .slice V m vc] w (RetIns (.slice A n c) (n + m) (nvs (l ++ vs)) w) := by
  have hm := own_maxN ho
  have hc := own_capN ho
  have i0 : (0 : Int) ≤ (n : Int) := by omega
  have i2 : ((m : Int) == 0) = false := by simp; omega
  have HO := Lib.hid ho
  have HR := Lib.hid hr
  have HV : Hid ((nvs vs).length = m * 34) := by show _ = _; rw [nvs_length h3, hvl]
  have hA := own_addrN ho
  clear ho hr
  rcases hA with ⟨rfl, rfl, rfl⟩ | ⟨h, rfl⟩
  · rw [Nat.zero_add]
    go_enter Tryd.func17, Tryd.ntmps17
    go_wp2_with (at_builtin
                 refine wpList_appN _ rfl (.tmp 23) (.tmp 24) 38 rfl heldsElt (base := 0) (v := .slice none 0 0) rfl HO.out (m := m) rfl HR.out HV.out (nvs_one _) (by omega) (by omega) ?_
                 intro A3 c3 w3 ho3 hg3 hw3
                 have O3 := Lib.hid ho3
                 have G3 := Lib.hid hg3
                 have W3 := Lib.hid hw3
                 clear ho3 hg3 hw3)
    go_ret
    exact ⟨A3, c3, rfl, by rw [nvs_append]; have h := O3.out; rwa [Nat.zero_add] at h, (But.refl w).grown G3.out (fun k hk => .inl hk), fun k hk => by
      have hW := W3.out; rw [Nat.zero_add] at hW; rcases hW with h | h
      · rw [h] at hk; exact .inl hk
      · rw [h] at hk; injection hk with hk; exact .inr (by omega)⟩
  by_cases hci : n = c
  · subst hci
    go_enter Tryd.func17, Tryd.ntmps17
    go_wp2_with (at_builtin
                 refine wpList_appN _ rfl (.tmp 23) (.tmp 24) 38 rfl heldsElt (base := 0) (v := .slice (some ⟨h, 0, none⟩) n n) rfl HO.out (m := m) rfl HR.out HV.out (nvs_one _) (by omega) (by omega) ?_
                 intro A3 c3 w3 ho3 hg3 hw3
                 have O3 := Lib.hid ho3
                 have G3 := Lib.hid hg3
                 have W3 := Lib.hid hw3
                 clear ho3 hg3 hw3)
    go_ret
    exact ⟨A3, c3, rfl, by rw [nvs_append]; exact O3.out, (But.refl w).grown G3.out (fun k hk => .inl hk), fun k hk => by
      rcases W3.out with h | h
      · rw [h] at hk; exact .inl hk
      · rw [h] at hk; injection hk with hk; exact .inr (by omega)⟩
  · skip
    go_enter Tryd.func17, Tryd.ntmps17
    go_wp2_with (at_builtin
                 refine wpList_appN _ rfl (.tmp 23) (.tmp 24) 38 rfl heldsElt (base := 0) (v := .slice (some ⟨h, 0, none⟩) n c) rfl HO.out (m := m) rfl HR.out HV.out (nvs_one _) (by omega) (by omega) ?_
                 intro A3 c3 w3 ho3 hg3 hw3
                 have O3 := Lib.hid ho3
                 have G3 := Lib.hid hg3
                 have W3 := Lib.hid hw3
                 clear ho3 hg3 hw3)
    go_ret
    exact ⟨A3, c3, rfl, by rw [nvs_append]; exact O3.out, (But.refl w).grown G3.out (fun k hk => .inl hk), fun k hk => by
      rcases W3.out with h | h
      · rw [h] at hk; exact .inl hk
      · rw [h] at hk; injection hk with hk; exact .inr (by omega)⟩
set_option maxRecDepth 100000 in
set_option maxHeartbeats 1600000 in
theorem ins_grow {B : Nat} (h : Nat) (V : Addr) (n c i m vc : Nat) (l vs : List Nd) (w : World) (hl : l.length = n) (h3 : ∀ x ∈ l, x.s.length = 32) (hi : i < n) (ho : w.ownsRow 0 53 34 (.slice (some ⟨h, 0, none⟩) n c) n (nvs l)) (hr : Rd B w (some V) (nvs vs)) (hV : V.block < w.heap.size) (hvl : vs.length = m) (h3v : ∀ x ∈ vs, x.s.length = 32) (hm0 : 0 < m) (hsz : n + m ≤ 1000000) (hap : V.block = h → False) (hroom : c < n + m) :
    Calls Tryd.prog 17 #[.slice (some ⟨h, 0, none⟩) n c, .int .i64 (i : Nat), .slice (some V) m vc] w (RetIns (.slice (some ⟨h, 0, none⟩) n c) (n + m) (nvs (l.take i ++ vs ++ l.drop i)) w) := by
  obtain ⟨hlen, h0 | ⟨g, cap, cur, hv, _, hg, hnc, hcm, hcs, htk⟩⟩ := ho
  · exact absurd h0.2 (by omega)
  injection hv with e1 _ e3
  injection e1 with e1
  injection e1 with e1
  subst e1
  subst e3
  unfold maxLen at hcm
  have hvn : (nvs vs).length = m * 34 := by rw [nvs_length h3v, hvl]
  have hvb : V.block < w.heap.size ∧ ∀ j u, (nvs vs)[j]? = some u → w.cell? (V.add j) = some u := by
    refine ⟨hV, fun j u hu => ?_⟩
    obtain ⟨ad, e, _, hc⟩ := hr j u hu
    injection e with e
    subst e
    exact hc
  obtain ⟨xs, hxs⟩ : ∃ x, x = nvs vs := ⟨_, rfl⟩
  obtain ⟨ys, hys⟩ : ∃ x, x = nvs (l.drop i) := ⟨_, rfl⟩
  obtain ⟨zs, hzs⟩ : ∃ x, x = nvs (l.take i) := ⟨_, rfl⟩
  have hxl : xs.length = m * 34 := by rw [hxs, hvn]
  have hyl : ys.length = (n - i) * 34 := by rw [hys, nvs_length (fun x hx => h3 x (List.mem_of_mem_drop hx)), List.length_drop, hl]
  have hzl : zs.length = i * 34 := by rw [hzs, nvs_length (fun x hx => h3 x (List.mem_of_mem_take hx)), List.length_take, hl]; omega
  have hx1 : ∀ u ∈ xs, u.oneCell' = true := by rw [hxs]; exact nvs_one _
  have hy1 : ∀ u ∈ ys, u.oneCell' = true := by rw [hys]; exact nvs_one _
  have hyc : ∀ j u, ys[j]? = some u → cur.toList[i * 34 + j]? = some u := by
    intro j u hu
    rw [hys, nvs_drop h3, List.getElem?_drop, ← htk, List.getElem?_take] at hu
    split at hu
    · exact hu
    · cases hu
  have hzc : cur.toList.take (i * 34) = zs := by
    rw [hzs, nvs_take h3, ← htk, List.take_take]; congr 1; omega
  have hall : nvs (l.take i ++ vs ++ l.drop i) = zs ++ (xs ++ ys) := by rw [nvs_append, nvs_append, ← hxs, ← hys, ← hzs, List.append_assoc]
  rw [← hxs] at hvb
  rw [hall]
  have hinf : (Tryd.prog.info? 53).map (·.size) = some 34 := info_held
  have hHV : V.block ≠ h := fun e => hap e
  have hhw : h < w.heap.size := (Array.getElem?_eq_some_iff.1 hg).1
  have i0 : (0 : Int) ≤ (i : Int) := by omega
  have i1 : (i : Int) ≤ (n : Int) := by omega
  have i2 : ((m : Int) == 0) = false := by simp; omega
  have i3 : ((i : Int) == (n : Int)) = false := by simp; omega
  have i4 : IntKind.i64.wrap ((n : Int) + (m : Int)) = (n : Int) + (m : Int) := IntWalk.i64_in _ (by omega)
  have i6 : IntKind.i64.wrap ((i : Int) + (m : Int)) = (i : Int) + (m : Int) := IntWalk.i64_in _ (by omega)
  have i7 : (0 : Int) ≤ (i : Int) + (m : Int) := by omega
  have i8 : (i : Int) + (m : Int) ≤ (n : Int) + (m : Int) := by omega
  have i9 : ((i : Int) + (m : Int)).toNat = i + m := by omega
  have ia : ¬ c = i := by omega
  have i5 : decide ((n : Int) + (m : Int) > (c : Int)) = true := by simp; omega
  have ib : IntKind.i64.wrap ((n : Int) + (m : Int) - (i : Int)) = (n : Int) + (m : Int) - (i : Int) := IntWalk.i64_in _ (by omega)
  have ic : (n : Int) + (m : Int) - (i : Int) = ((n + m - i : Nat) : Int) := by omega
  obtain ⟨ie, hie, hz0, hz1, hz2⟩ := info_parts info_heldW
  obtain ⟨G, hG⟩ : ∃ G, G = grownCap w (n + m) c 53 := ⟨_, rfl⟩
  have hGn : n + m ≤ G := by rw [hG]; exact grownCap_ge w _ _ _
  have hGm : G ≤ 9223372036854775807 := by
    have := grownCap_le_maxLen w (n + m) c 53 (by unfold maxLen; omega)
    rw [← hG] at this
    unfold maxLen at this
    omega
  obtain ⟨R0, hR0⟩ : ∃ R0 : Array Value, R0 = zs.toArray ++ Builtin.zeroCells (ndC zeroNd) (n + m - i) ++ Builtin.zeroCells (ndC zeroNd) (G - (n + m)) := ⟨_, rfl⟩
  have hR0s : R0.size = G * 34 := by
    rw [hR0]
    simp only [Array.size_append, size_zeroCells, List.size_toArray, hzl, ndC_size (x := zeroNd) rfl, ← Nat.add_mul]
    congr 1; omega
  have hR0t : R0.toList.take (i * 34) = zs := by
    rw [hR0]
    simp only [Array.toList_append, List.append_assoc]
    rw [List.take_left' hzl]
  obtain ⟨N, hN⟩ : ∃ N, N = w.heap.size := ⟨_, rfl⟩
  have hrz : ∀ ty, (Builtin.append_ #[38, 3] ty #[.slice (some ⟨h, 0, none⟩) i c, .int .i64 ((n + m - i : Nat) : Int)]).run Tryd.prog w = .ok (.slice (some ⟨N, 0, none⟩) (n + m) G) (w.drew.alloc (.cells R0 53)) := fun ty => by
    have hold : (Builtin.firstCells ie.size i (.slice (some ⟨h, 0, none⟩) i c)).run Tryd.prog w.drew = .ok zs.toArray w.drew := by
      rw [hz1]
      refine run_firstCells_some w.drew 34 i ⟨h, 0, none⟩ i c zs hzl (fun j v hj => ?_)
      rw [add_head]
      show w.cell? ⟨h, j, none⟩ = _
      rw [cell_of_row w h j cur _ _ hg, ← Array.getElem?_toList]
      rw [← hzc, List.getElem?_take] at hj
      split at hj
      · exact hj
      · cases hj
    have hh := Lib.run_append_grow_zeros (P := Tryd.prog) w 38 3 ty 53 ie _ .i64 .i64 Tryd.underlying38 Tryd.underlying3 hie hz0 (some ⟨h, 0, none⟩) i c zs hold (n + m - i) (by omega) (by rw [hz1]; omega) (by omega) (by omega) (by rw [hz2]; omega) (by rw [hz2, show i + (n + m - i) = n + m by omega]; exact growslice_fits hroom (by omega))
    rw [show i + (n + m - i) = n + m by omega, ← hG] at hh
    rw [hN, hR0]
    exact hh
  obtain ⟨W1, hW1⟩ : ∃ W1, W1 = w.drew.alloc (.cells R0 53) := ⟨_, rfl⟩
  have g1 : Blk W1 N R0 53 := by rw [hW1, hN]; exact heap_alloc_new w.drew _
  have b1 : But (fun k => (Value.slice (some ⟨h, 0, none⟩) n c).ownBlock = some k) w W1 := by rw [hW1]; exact (But.refl w).drew.alloc _
  rw [← hW1] at hrz
  obtain ⟨R1, hR1⟩ : ∃ R1, R1 = (splice R0.toList (i * 34) xs).toArray := ⟨_, rfl⟩
  obtain ⟨R2, hR2⟩ : ∃ R2, R2 = (splice R1.toList ((i + m) * 34) ys).toArray := ⟨_, rfl⟩
  have hR1s : R1.size = G * 34 := by rw [hR1, List.size_toArray, length_splice _ _ _ (by have := hR0s; rw [← Array.length_toList] at this; omega), Array.length_toList, hR0s]
  have hR2s : R2.size = G * 34 := by rw [hR2, List.size_toArray, length_splice _ _ _ (by have := hR1s; rw [← Array.length_toList] at this; omega), Array.length_toList, hR1s]
  have hR2t : R2.toList.take ((n + m) * 34) = zs ++ (xs ++ ys) := by
    have e1 : R1.toList.take ((i + m) * 34) = zs ++ xs := by
      rw [hR1, List.toList_toArray, splice, hR0t, ← List.append_assoc, List.take_left' (by rw [List.length_append, hzl, hxl]; omega)]
    rw [hR2, List.toList_toArray, splice, e1, ← List.append_assoc, List.take_left' (by rw [List.length_append, List.length_append, hzl, hxl, hyl]; omega), List.append_assoc]
  have hcp1 : ∀ ty dl dc, m ≤ dl → (Builtin.copy_ #[38, 38] ty #[.slice (some ⟨N, i * 34, none⟩) dl dc, .slice (some V) m vc]).run Tryd.prog W1 = .ok (goInt m) (W1.setRow N R1) := fun ty dl dc hd => by
    have hmin : Nat.min m dl = m := Nat.min_eq_left hd
    have := run_copyN (P := Tryd.prog) W1 38 38 ty 53 34 Tryd.underlying38 hinf N (i * 34) dl dc V m vc R0 53 xs g1 (by rw [hmin, hxl]) (fun j v hj => by
      have := hvb.2 j v hj
      rw [← this, hW1]
      have hlt : (V.add j).block < w.heap.size := by rw [add_block]; exact hvb.1
      exact World.cell?_of_block (heap_alloc_old w.drew _ hlt)) (by rw [hxl, hR0s]; omega) hx1
    rw [hmin, ← hR1] at this
    exact this
  obtain ⟨W2, hW2⟩ : ∃ W2, W2 = W1.setRow N R1 := ⟨_, rfl⟩
  have g2 : Blk W2 N R1 53 := by rw [hW2]; exact setRow_heap _ _ _ _ _ _ g1
  have b2 : But (fun k => (Value.slice (some ⟨h, 0, none⟩) n c).ownBlock = some k) w W2 := by rw [hW2]; exact b1.setRow (.inr (by omega)) _
  have hcur2 : Blk W2 h cur 53 := by
    unfold Blk
    rw [hW2, setRow_other _ _ _ _ (by omega), hW1]
    exact (heap_alloc_old w.drew _ hhw).trans hg
  rw [← hW2] at hcp1
  have hcp2 : ∀ k ty dl dc sl sc, Nat.min sl dl = n - i → (Builtin.copy_ #[38, 38] ty #[.slice (some ⟨N, (i + m) * 34, none⟩) dl dc, .slice (some ⟨h, i * 34, none⟩) sl sc]).run Tryd.prog (W2.drewN k) = .ok (goInt (n - i : Nat)) ((W2.drewN k).setRow N R2) := fun k ty dl dc sl sc hmin => by
    have := run_copyN (P := Tryd.prog) (W2.drewN k) 38 38 ty 53 34 Tryd.underlying38 hinf N ((i + m) * 34) dl dc ⟨h, i * 34, none⟩ sl sc R1 53 ys g2 (by rw [hmin, hyl]) (fun j v hj => by
      rw [Addr.add_mid]
      show W2.cell? _ = _
      rw [hcur2.cell, ← Array.getElem?_toList]
      exact hyc j v hj) (by rw [hyl, hR1s]; omega) hy1
    rw [hmin, ← hR2] at this
    exact this
  have hfin : ∀ W k, W = (W2.drewN k).setRow N R2 → RetIns (.slice (some ⟨h, 0, none⟩) n c) (n + m) (zs ++ (xs ++ ys)) w (.returned (.slice (some ⟨N, 0, none⟩) (n + m) G)) W := fun W k hW => by
    refine ⟨some ⟨N, 0, none⟩, G, rfl, ⟨by simp only [List.length_append, hzl, hxl, hyl]; omega, .inr ⟨N, G, R2, rfl, Nat.zero_le _, ?_, hGn, by unfold maxLen; omega, hR2s, hR2t⟩⟩, ?_, ?_⟩
    · rw [hW]; exact setRow_heap _ _ _ _ _ _ g2
    · rw [hW]; exact (b2.drewN k).setRow (.inr (by omega)) _
    · intro k' hk'
      injection hk' with hk'
      exact .inr (by rw [← hk', hN]; exact Nat.le_refl _)
  have HRZ := Lib.hid hrz
  have HC1 := Lib.hid hcp1
  have HC2 := Lib.hid hcp2
  have HF := Lib.hid hfin
  have hNh : h < N := by omega
  have hGi : ¬ G = i := by omega
  have hGim : ¬ G = i + m := by omega
  have hGb : (i : Int) + (m : Int) ≤ (G : Int) := by omega
  have hGb2 : (n : Int) + (m : Int) ≤ (G : Int) := by omega
  clear hN hrz hcp1 hcp2 hfin hW1 hW2 hR0 hR1 hR2 hR0s hR1s hR2s hR0t hR2t hzc hyc hall hx1 hy1 hxs hys hzs hvb hr hg hcs htk hinf hz0 hz1 hz2 hie hG g1 g2 b1 b2 hcur2
  have hc1 := HC1.out 3 (n + m - i) (G - i) (by omega)
  go_enter Tryd.func17, Tryd.ntmps17
  go_wp2_with (first
    | (at_builtin
       refine wpList_appR _ rfl (.tmp 34) (.tmp 39) 38 3 rfl (.slice (some ⟨h, 0, none⟩) i c) (.int .i64 ((n + m - i : Nat) : Int)) rfl rfl (HRZ.out _) ?_))
  clear hc1
  refine wp_region_held_drew (S := fun _ => True) (by kernel_rfl) trivial (fun hh => ?_)
  have HH := Lib.hid hh
  clear hh
  refine wpAnyH_take (i := 0) (v := ?va0) rfl (by kernel_rfl) (by kernel_rfl) (by kernel_rfl) (fun _ _ _ h => h) (Or.inl ⟨by rfl, fun w' _ => ?ya0⟩) HH.out ?_
  case ya0 => (go_simp; try with_reducible rfl)
  refine wpAnyH_take (i := 1) (v := ?va1) rfl (by kernel_rfl) (by kernel_rfl) (by kernel_rfl) (fun _ _ _ h => h) (Or.inl ⟨by rfl, fun w' _ => ?ya1⟩) HH.out ?_
  case ya1 => (go_simp; try with_reducible rfl)
  try simp only [List.getElem_toArray, List.getElem_cons_succ, List.getElem_cons_zero, Act.put, List.setIfInBounds_toArray, List.set_cons_zero, List.set_cons_succ]
  refine wpAnyH_take (i := 2) (v := ?va2) rfl (by kernel_rfl) (by kernel_rfl) (by kernel_rfl) (fun _ _ _ h => h) (Or.inl ⟨by rfl, fun w' _ => ?ya2⟩) HH.out ?_
  case ya2 => (go_simp; try with_reducible rfl)
  refine wpAnyH_take (i := 3) (v := ?va3) rfl (by kernel_rfl) (by kernel_rfl) (by kernel_rfl) (fun _ _ _ h => h) (Or.inl ⟨by rfl, fun w' _ => ?ya3⟩) HH.out ?_
  case ya3 => (go_simp; try with_reducible rfl)
  refine wpAnyH_take (i := 4) (v := ?va4) rfl (by kernel_rfl) (by kernel_rfl) (by kernel_rfl) (fun _ _ _ h => h) (Or.inl ⟨by rfl, fun w' _ => ?ya4⟩) HH.out ?_
  case ya4 => (go_simp; try with_reducible rfl)
  try simp only [List.getElem_toArray, List.getElem_cons_succ, List.getElem_cons_zero, Act.put, List.setIfInBounds_toArray, List.set_cons_zero, List.set_cons_succ]
  refine wpAnyH_take (i := 5) (v := ?va5) rfl (by kernel_rfl) (by kernel_rfl) (by kernel_rfl) (fun _ _ _ h => h) (Or.inl ⟨by rfl, fun w' _ => ?ya5⟩) HH.out ?_
  case ya5 => (go_simp; try with_reducible rfl)
  refine wpAnyH_take (i := 6) (v := ?va6) rfl (by kernel_rfl) (by kernel_rfl) (by kernel_rfl) (fun _ _ _ h => h) (Or.inl ⟨by rfl, fun w' _ => ?ya6⟩) HH.out ?_
  case ya6 => (go_simp; try with_reducible rfl)
  refine wpAnyH_take (i := 7) (v := ?va7) rfl (by kernel_rfl) (by kernel_rfl) (by kernel_rfl) (fun _ _ _ h => h) (Or.inl ⟨by rfl, fun w' _ => ?ya7⟩) HH.out ?_
  case ya7 => (go_simp; try with_reducible rfl)
  try simp only [List.getElem_toArray, List.getElem_cons_succ, List.getElem_cons_zero, Act.put, List.setIfInBounds_toArray, List.set_cons_zero, List.set_cons_succ]
  refine wpAnyH_ready (rs := [8]) (by kernel_rfl) (by simp) (AllReadyH.cons rfl (fun K hK => ?_) AllReadyH.nil)
  refine step_copyR rfl (.tmp 50) (.tmp 53) 38 38 rfl (.slice (some ⟨N, (i + m) * 34, none⟩) (n + m - (i + m)) (G - (i + m))) (.slice (some ⟨h, i * 34, none⟩) (n - i) (c - i)) rfl rfl (HC2.out 1 _ _ _ _ _ (by simp only [Nat.min_def]; split <;> omega)) ?_
  refine hK.out _ _ trivial (fun hh => ?_)
  clear hh hK K HH
  try simp only [List.getElem_toArray, List.getElem_cons_succ, List.getElem_cons_zero, Act.put, List.setIfInBounds_toArray, List.set_cons_zero, List.set_cons_succ]
  refine wpAnyH_done (by kernel_rfl) ?_ _
  have hw := HF.out _ 1 rfl
  generalize hWW : World.setRow _ _ _ = WW
  rw [hWW] at hw
  clear hWW
  go_wp2
  go_ret
  exact hw
set_option maxRecDepth 100000 in
set_option maxHeartbeats 1600000 in
theorem ins_room {B : Nat} (h : Nat) (V : Addr) (n c i m vc : Nat) (l vs : List Nd) (w : World) (hl : l.length = n) (h3 : ∀ x ∈ l, x.s.length = 32) (hi : i < n) (ho : w.ownsRow 0 53 34 (.slice (some ⟨h, 0, none⟩) n c) n (nvs l)) (hr : Rd B w (some V) (nvs vs)) (hV : V.block < w.heap.size) (hvl : vs.length = m) (h3v : ∀ x ∈ vs, x.s.length = 32) (hm0 : 0 < m) (hsz : n + m ≤ 1000000) (hap : V.block = h → False) (cv : Array Value) (hVb : w.heap[V.block]? = some (.cells cv 53 (0, 0))) (hroom : n + m ≤ c) :
    Calls Tryd.prog 17 #[.slice (some ⟨h, 0, none⟩) n c, .int .i64 (i : Nat), .slice (some V) m vc] w (RetIns (.slice (some ⟨h, 0, none⟩) n c) (n + m) (nvs (l.take i ++ vs ++ l.drop i)) w) := by
  obtain ⟨hlen, h0 | ⟨g, cap, cur, hv, _, hg, hnc, hcm, hcs, htk⟩⟩ := ho
  · exact absurd h0.2 (by omega)
  injection hv with e1 _ e3
  injection e1 with e1
  injection e1 with e1
  subst e1
  subst e3
  unfold maxLen at hcm
  have hvn : (nvs vs).length = m * 34 := by rw [nvs_length h3v, hvl]
  have hvb : V.block < w.heap.size ∧ ∀ j u, (nvs vs)[j]? = some u → w.cell? (V.add j) = some u := by
    refine ⟨hV, fun j u hu => ?_⟩
    obtain ⟨ad, e, _, hc⟩ := hr j u hu
    injection e with e
    subst e
    exact hc
  obtain ⟨xs, hxs⟩ : ∃ x, x = nvs vs := ⟨_, rfl⟩
  obtain ⟨ys, hys⟩ : ∃ x, x = nvs (l.drop i) := ⟨_, rfl⟩
  obtain ⟨zs, hzs⟩ : ∃ x, x = nvs (l.take i) := ⟨_, rfl⟩
  have hxl : xs.length = m * 34 := by rw [hxs, hvn]
  have hyl : ys.length = (n - i) * 34 := by rw [hys, nvs_length (fun x hx => h3 x (List.mem_of_mem_drop hx)), List.length_drop, hl]
  have hzl : zs.length = i * 34 := by rw [hzs, nvs_length (fun x hx => h3 x (List.mem_of_mem_take hx)), List.length_take, hl]; omega
  have hx1 : ∀ u ∈ xs, u.oneCell' = true := by rw [hxs]; exact nvs_one _
  have hy1 : ∀ u ∈ ys, u.oneCell' = true := by rw [hys]; exact nvs_one _
  have hyc : ∀ j u, ys[j]? = some u → cur.toList[i * 34 + j]? = some u := by
    intro j u hu
    rw [hys, nvs_drop h3, List.getElem?_drop, ← htk, List.getElem?_take] at hu
    split at hu
    · exact hu
    · cases hu
  have hzc : cur.toList.take (i * 34) = zs := by
    rw [hzs, nvs_take h3, ← htk, List.take_take]; congr 1; omega
  have hall : nvs (l.take i ++ vs ++ l.drop i) = zs ++ (xs ++ ys) := by rw [nvs_append, nvs_append, ← hxs, ← hys, ← hzs, List.append_assoc]
  rw [← hxs] at hvb
  rw [hall]
  have hinf : (Tryd.prog.info? 53).map (·.size) = some 34 := info_held
  have hHV : V.block ≠ h := fun e => hap e
  have hhw : h < w.heap.size := (Array.getElem?_eq_some_iff.1 hg).1
  have i0 : (0 : Int) ≤ (i : Int) := by omega
  have i1 : (i : Int) ≤ (n : Int) := by omega
  have i2 : ((m : Int) == 0) = false := by simp; omega
  have i3 : ((i : Int) == (n : Int)) = false := by simp; omega
  have i4 : IntKind.i64.wrap ((n : Int) + (m : Int)) = (n : Int) + (m : Int) := IntWalk.i64_in _ (by omega)
  have i6 : IntKind.i64.wrap ((i : Int) + (m : Int)) = (i : Int) + (m : Int) := IntWalk.i64_in _ (by omega)
  have i7 : (0 : Int) ≤ (i : Int) + (m : Int) := by omega
  have i8 : (i : Int) + (m : Int) ≤ (n : Int) + (m : Int) := by omega
  have i9 : ((i : Int) + (m : Int)).toNat = i + m := by omega
  have ia : ¬ c = i := by omega
  have i5 : decide ((n : Int) + (m : Int) > (c : Int)) = false := by simp; omega
  obtain ⟨C1, hC1⟩ : ∃ x, x = (splice cur.toList ((i + m) * 34) ys).toArray := ⟨_, rfl⟩
  obtain ⟨C2, hC2⟩ : ∃ x, x = (splice C1.toList (i * 34) xs).toArray := ⟨_, rfl⟩
  have hC1s : C1.size = c * 34 := by rw [hC1, List.size_toArray, length_splice _ _ _ (by have := hcs; rw [← Array.length_toList] at this; omega), Array.length_toList, hcs]
  have hC2s : C2.size = c * 34 := by rw [hC2, List.size_toArray, length_splice _ _ _ (by have := hC1s; rw [← Array.length_toList] at this; omega), Array.length_toList, hC1s]
  have hlc : cur.toList.length = c * 34 := by rw [Array.length_toList, hcs]
  have hC2t : C2.toList.take ((n + m) * 34) = zs ++ (xs ++ ys) := by
    have e1 : C1.toList.take (i * 34) = zs := by
      rw [hC1, List.toList_toArray, splice, List.take_append_of_le_length (by rw [List.length_take]; omega), List.take_take, ← hzc]
      congr 1; omega
    have e2 : C1.toList.drop (i * 34 + xs.length) = ys ++ cur.toList.drop ((i + m) * 34 + ys.length) := by
      rw [hC1, List.toList_toArray, splice, List.drop_left' (by rw [List.length_take, hlc, hxl]; omega)]
    rw [hC2, List.toList_toArray, splice, e1, e2, ← List.append_assoc xs, ← List.append_assoc zs, List.take_left' (by rw [List.length_append, List.length_append, hzl, hxl, hyl]; omega)]
  obtain ⟨W1, hW1⟩ : ∃ W1, W1 = w.drew.setRow h C1 := ⟨_, rfl⟩
  have g1 : Blk W1 h C1 53 := by rw [hW1]; exact setRow_heap _ _ _ _ _ _ hg
  have hcp1 : ∀ ty dl dc sl sc, Nat.min sl dl = n - i → (Builtin.copy_ #[38, 38] ty #[.slice (some ⟨h, (i + m) * 34, none⟩) dl dc, .slice (some ⟨h, i * 34, none⟩) sl sc]).run Tryd.prog w.drew = .ok (goInt (n - i : Nat)) (w.drew.setRow h C1) := fun ty dl dc sl sc hmin => by
    have := run_copyN (P := Tryd.prog) w.drew 38 38 ty 53 34 Tryd.underlying38 hinf h ((i + m) * 34) dl dc ⟨h, i * 34, none⟩ sl sc cur 53 ys hg (by rw [hmin, hyl]) (fun j v hj => by
      rw [Addr.add_mid]
      show w.cell? _ = _
      rw [cell_of_row w h _ cur _ _ hg, ← Array.getElem?_toList]
      exact hyc j v hj) (by rw [hyl, hcs]; omega) hy1
    rw [hmin, ← hC1] at this
    exact this
  have hcp2 : ∀ ty dl dc, m ≤ dl → (Builtin.copy_ #[38, 38] ty #[.slice (some ⟨h, i * 34, none⟩) dl dc, .slice (some V) m vc]).run Tryd.prog W1 = .ok (goInt m) (W1.setRow h C2) := fun ty dl dc hd => by
    have hmin : Nat.min m dl = m := Nat.min_eq_left hd
    have := run_copyN (P := Tryd.prog) W1 38 38 ty 53 34 Tryd.underlying38 hinf h (i * 34) dl dc V m vc C1 53 xs g1 (by rw [hmin, hxl]) (fun j v hj => by
      have := hvb.2 j v hj
      rw [← this, hW1]
      exact cell_setRow_other w.drew h C1 (V.add j) (by rw [add_block]; exact hHV)) (by rw [hxl, hC1s]; omega) hx1
    rw [hmin, ← hC2] at this
    exact this
  obtain ⟨W2, hW2⟩ : ∃ W2, W2 = W1.setRow h C2 := ⟨_, rfl⟩
  have hfin : RetIns (.slice (some ⟨h, 0, none⟩) n c) (n + m) (zs ++ (xs ++ ys)) w (.returned (.slice (some ⟨h, 0, none⟩) (n + m) c)) W2 := by
    refine ⟨some ⟨h, 0, none⟩, c, rfl, ⟨by simp only [List.length_append, hzl, hxl, hyl]; omega, .inr ⟨h, c, C2, rfl, Nat.zero_le _, ?_, hroom, by unfold maxLen; omega, hC2s, hC2t⟩⟩, ?_, fun k hk => .inl hk⟩
    · rw [hW2]; exact setRow_heap _ _ _ _ _ _ g1
    · rw [hW2, hW1]; exact ((But.refl w).drew.setRow (S := fun k => (Value.slice (some ⟨h, 0, none⟩) n c).ownBlock = some k) (g := h) (.inl rfl) _).setRow (g := h) (.inl rfl) _
  have hov : ∀ lb cb, (callFunc 30 #[.slice (some V) m vc, .slice (some ⟨h, (i + m) * 34, none⟩) lb cb]).run Tryd.prog w = .ok (.value (.bool false)) w := fun lb cb =>
    run_overlaps V ⟨h, (i + m) * 34, none⟩ m vc lb cb w hHV cv cur hVb hg (by rw [hcs]; omega)
  have HC1 := Lib.hid hcp1
  have HC2 := Lib.hid hcp2
  have HF := Lib.hid hfin
  have HW1 := Lib.hid hW1
  have HW2 := Lib.hid hW2
  have hci1 : ¬ c = i + m := by omega
  have hca : (n : Int) + (m : Int) ≤ (c : Int) := by omega
  have hcb : (i : Int) ≤ (n : Int) + (m : Int) := by omega
  have hcd : (0 : Int) ≤ (n : Int) + (m : Int) := by omega
  have hce : ((n : Int) + (m : Int)).toNat = n + m := by omega
  clear hcp1 hcp2 hfin hW1 hW2 hC1 hC2 hC1s hC2s hC2t hlc hzc hyc hall hx1 hy1 hxs hys hzs hvb hr hg hcs htk hinf g1 hVb
  go_enter Tryd.func17, Tryd.ntmps17
  go_wp2_with (simp only [hov])
  refine wp_region_held_drew (S := fun _ => True) (by kernel_rfl) trivial (fun hh => ?_)
  have HH := Lib.hid hh
  clear hh
  refine wpAnyH_take (i := 0) (v := ?vb0) rfl (by kernel_rfl) (by kernel_rfl) (by kernel_rfl) (fun _ _ _ h => h) (Or.inl ⟨by rfl, fun w' _ => ?yb0⟩) HH.out ?_
  case yb0 => (go_simp; try with_reducible rfl)
  refine wpAnyH_take (i := 1) (v := ?vb1) rfl (by kernel_rfl) (by kernel_rfl) (by kernel_rfl) (fun _ _ _ h => h) (Or.inl ⟨by rfl, fun w' _ => ?yb1⟩) HH.out ?_
  case yb1 => (go_simp; try with_reducible rfl)
  try simp only [List.getElem_toArray, List.getElem_cons_succ, List.getElem_cons_zero, Act.put, List.setIfInBounds_toArray, List.set_cons_zero, List.set_cons_succ]
  refine wpAnyH_take (i := 2) (v := ?vb2) rfl (by kernel_rfl) (by kernel_rfl) (by kernel_rfl) (fun _ _ _ h => h) (Or.inl ⟨by rfl, fun w' _ => ?yb2⟩) HH.out ?_
  case yb2 => (go_simp; try with_reducible rfl)
  refine wpAnyH_take (i := 3) (v := ?vb3) rfl (by kernel_rfl) (by kernel_rfl) (by kernel_rfl) (fun _ _ _ h => h) (Or.inl ⟨by rfl, fun w' _ => ?yb3⟩) HH.out ?_
  case yb3 => (go_simp; try with_reducible rfl)
  refine wpAnyH_take (i := 4) (v := ?vb4) rfl (by kernel_rfl) (by kernel_rfl) (by kernel_rfl) (fun _ _ _ h => h) (Or.inl ⟨by rfl, fun w' _ => ?yb4⟩) HH.out ?_
  case yb4 => (go_simp; try with_reducible rfl)
  try simp only [List.getElem_toArray, List.getElem_cons_succ, List.getElem_cons_zero, Act.put, List.setIfInBounds_toArray, List.set_cons_zero, List.set_cons_succ]
  refine wpAnyH_take (i := 5) (v := ?vb5) rfl (by kernel_rfl) (by kernel_rfl) (by kernel_rfl) (fun _ _ _ h => h) (Or.inl ⟨by rfl, fun w' _ => ?yb5⟩) HH.out ?_
  case yb5 => (go_simp; try with_reducible rfl)
  refine wpAnyH_take (i := 6) (v := ?vb6) rfl (by kernel_rfl) (by kernel_rfl) (by kernel_rfl) (fun _ _ _ h => h) (Or.inl ⟨by rfl, fun w' _ => ?yb6⟩) HH.out ?_
  case yb6 => (go_simp; try with_reducible rfl)
  refine wpAnyH_take (i := 7) (v := ?vb7) rfl (by kernel_rfl) (by kernel_rfl) (by kernel_rfl) (fun _ _ _ h => h) (Or.inl ⟨by rfl, fun w' _ => ?yb7⟩) HH.out ?_
  case yb7 => (go_simp; try with_reducible rfl)
  try simp only [List.getElem_toArray, List.getElem_cons_succ, List.getElem_cons_zero, Act.put, List.setIfInBounds_toArray, List.set_cons_zero, List.set_cons_succ]
  refine wpAnyH_ready (rs := [8]) (by kernel_rfl) (by simp) (AllReadyH.cons rfl (fun K hK => ?_) AllReadyH.nil)
  refine step_copyR rfl (.tmp 73) (.tmp 76) 38 38 rfl (.slice (some ⟨h, (i + m) * 34, none⟩) (n + m - (i + m)) (c - (i + m))) (.slice (some ⟨h, i * 34, none⟩) (n + m - i) (c - i)) rfl rfl (HC1.out _ _ _ _ _ (by simp only [Nat.min_def]; split <;> omega)) ?_
  refine hK.out _ _ trivial (fun hh => ?_)
  clear hh hK K HH
  try simp only [List.getElem_toArray, List.getElem_cons_succ, List.getElem_cons_zero, Act.put, List.setIfInBounds_toArray, List.set_cons_zero, List.set_cons_succ]
  refine wpAnyH_done (by kernel_rfl) ?_ _
  rw [← HW1.out]
  have hc2 := HC2.out 3 (n + m - i) (c - i) (by omega)
  go_wp2
  rw [← HW2.out]
  go_ret
  exact HF.out
theorem insert_any (A V : Option Addr) (n c i m vc : Nat) (l vs : List Nd) (w : World) (hl : l.length = n) (h3 : ∀ x ∈ l, x.s.length = 32) (hi : i ≤ n) (ho : w.ownsRow 0 53 34 (.slice A n c) n (nvs l))
    (hv : w.ownsRow 0 53 34 (.slice V m vc) m (nvs vs)) (hvl : vs.length = m) (h3v : ∀ x ∈ vs, x.s.length = 32) (hsz : n + m ≤ 1000000) (hap : ∀ k, (Value.slice A n c).ownBlock = some k → (Value.slice V m vc).ownBlock = some k → False) :
    Calls Tryd.prog 17 #[.slice A n c, .int .i64 (i : Nat), .slice V m vc] w (RetIns (.slice A n c) (n + m) (nvs (l.take i ++ vs ++ l.drop i)) w) := by
  by_cases hm : m = 0
  · subst hm
    obtain rfl : vs = [] := List.eq_nil_of_length_eq_zero hvl
    have h := ins_none A V n c i vc l w hi ho
    rw [List.append_nil, List.take_append_drop]
    exact h
  · by_cases hn : i = n
    · obtain rfl : n = i := hn.symm
      have h := ins_end A V n c m vc l vs w ho (Rd.ownN hv) hvl h3v (by omega) hsz
      rw [List.take_of_length_le (by omega), List.drop_eq_nil_of_le (by omega), List.append_nil]
      exact h
    · rcases own_addrN ho with ⟨_, h0, _⟩ | ⟨h, rfl⟩
      · omega
      · rcases own_addrN hv with ⟨_, h0, _⟩ | ⟨g, rfl⟩
        · omega
        · have hne : g = h → False := fun e => hap h rfl (by rw [e]; rfl)
          have hgw : ∃ cv, w.heap[g]? = some (.cells cv 53 (0, 0)) := by
            rcases hv.2 with ⟨_, h0⟩ | ⟨g', cap, cur, hvv, _, hg, _⟩
            · omega
            · injection hvv with e1 _ _
              injection e1 with e1
              injection e1 with e1
              subst e1
              exact ⟨cur, hg⟩
          obtain ⟨cv, hcv⟩ := hgw
          by_cases hr : c < n + m
          · exact ins_grow h ⟨g, 0, none⟩ n c i m vc l vs w hl h3 (by omega) ho (Rd.ownN hv) (Array.getElem?_eq_some_iff.1 hcv).1 hvl h3v (by omega) hsz hne hr
          · exact ins_room h ⟨g, 0, none⟩ n c i m vc l vs w hl h3 (by omega) ho (Rd.ownN hv) (Array.getElem?_eq_some_iff.1 hcv).1 hvl h3v (by omega) hsz hne cv hcv (by omega)
end Go.Proofs.YtippbjpodnnhiaaDoor.Kg
/-
  The contract of besides: what is held of a node without one of its leaves.
-/
namespace Go.Proofs.YtippbjpodnnhiaaDoor.Kg
open Go.RowKit
variable {ci : Ciph}
attribute [local go_sem ↓] Go.wp_at_zero Go.wp_at_succ
theorem own_upN {w : World} {base base' n size : Nat} {e : TypeId} {v : Value} {xs : List Value} (h : w.ownsRow base e size v n xs) (hb : ∀ k, v.ownBlock = some k → base' ≤ k) : w.ownsRow base' e size v n xs := by
  refine ⟨h.1, ?_⟩
  rcases h.2 with h0 | ⟨g, cap, cur, h1, h2, h3⟩
  · exact .inl h0
  · exact .inr ⟨g, cap, cur, h1, hb g (by rw [h1]; rfl), h3⟩
theorem own_loN {w : World} {base n size : Nat} {e : TypeId} {v : Value} {xs : List Value} (h : w.ownsRow base e size v n xs) : ∀ k, v.ownBlock = some k → base ≤ k ∧ k < w.heap.size := fun k hk => h.lt k hk
theorem mid_take {α : Type} (a b : List α) (z : α) {k : Nat} (h : a.length = k) : (a ++ [z] ++ b).take k = a ∧ (a ++ [z] ++ b).drop k = z :: b ∧ (a ++ [z] ++ b).take (k + 1) = a ++ [z] ∧ (a ++ [z] ++ b).drop (k + 1) = b := by
  subst h
  refine ⟨?_, ?_, ?_, ?_⟩
  · rw [List.append_assoc, List.take_left']; rfl
  · rw [List.append_assoc, List.drop_left']; rfl; rfl
  · exact List.take_left' (by simp)
  · exact List.drop_left' (by simp)
/-- Where the way down stands: at y, with r aside, k of them left of it. -/
structure BesI (ci : Ciph) (x : Nd) (m : Int) (y : Nd) (r : List Nd) (k : Nat) : Prop where
  ok : okH y
  isIn : inI y m = true
  le : k ≤ r.length
  eq : woL ci (17 - x.d).toNat x m = r.take k ++ woL ci (17 - y.d).toNat y m ++ r.drop k
  len3 : ∀ z ∈ r, z.s.length = 32
  few : (r.length : Int) ≤ y.d
theorem BesI.start {x : Nd} {m : Int} (hx : okH x) (hi : inI x m = true) : BesI ci x m x [] 0 :=
  ⟨hx, hi, Nat.le_refl _, by simp, fun z hz => by simp at hz, hx.1⟩
theorem BesI.stop {x y : Nd} {m : Int} {r : List Nd} {k : Nat} (h : BesI ci x m y r k) (hd : ¬ y.d < 17) : woL ci (17 - x.d).toNat x m = r := by
  have h17 : (17 - y.d).toNat = 0 := by omega
  have h0 : woL ci 0 y m = [] := by unfold woL; rw [if_pos h.isIn]
  rw [h.eq, h17, h0, List.append_nil, List.take_append_drop]
def nearN (ci : Ciph) (y : Nd) (m : Int) : Nd := if m < (ndR ci y).a then ndL ci y else ndR ci y
def asideN (ci : Ciph) (y : Nd) (m : Int) : Nd := if m < (ndR ci y).a then ndR ci y else ndL ci y
theorem bes_split {y : Nd} {m : Int} (hy : okH y) (hi : inI y m = true) (hd : y.d < 17) :
    (m < (ndR ci y).a ∧ inI (ndL ci y) m = true ∧ woL ci (17 - y.d).toNat y m = woL ci (17 - (y.d + 1)).toNat (ndL ci y) m ++ [ndR ci y]) ∨
    (¬ m < (ndR ci y).a ∧ (ndL ci y).a < m ∧ inI (ndR ci y) m = true ∧ woL ci (17 - y.d).toNat y m = [ndL ci y] ++ woL ci (17 - (y.d + 1)).toNat (ndR ci y) m) := by
  obtain ⟨hl, hla, hm2⟩ := ndL_ok (ci := ci) hy hd
  obtain ⟨hr, hra⟩ := ndR_ok (ci := ci) hy hd
  have hf : (17 - y.d).toNat = (17 - (y.d + 1)).toNat + 1 := by omega
  have e1 : (ndL ci y).d = y.d + 1 := rfl
  have e2 : (ndR ci y).d = y.d + 1 := rfl
  have hp := (manyI_ok (d := y.d + 1) (by have := hy.1; omega) (by omega)).2
  have hyi := inI_iff.1 hi
  have hw : woL ci (17 - y.d).toNat y m = woL ci (17 - (y.d + 1)).toNat (ndL ci y) m ++ woL ci (17 - (y.d + 1)).toNat (ndR ci y) m := by
    rw [hf]; conv => lhs; unfold woL
    rw [if_pos hi]
  by_cases h : m < (ndR ci y).a
  · have hin : inI (ndL ci y) m = true := inI_iff.2 ⟨by rw [hla]; exact hyi.1, by rw [hla, e1]; omega⟩
    have hno : inI (ndR ci y) m = false := inI_not.2 (.inl h)
    exact .inl ⟨h, hin, by rw [hw, woL_not (ci := ci) hno]⟩
  · have hin : inI (ndR ci y) m = true := inI_iff.2 ⟨by omega, by rw [e2]; omega⟩
    have hno : inI (ndL ci y) m = false := inI_not.2 (.inr (by rw [hla, e1]; omega))
    exact .inr ⟨h, by rw [hla]; omega, hin, by rw [hw, woL_not (ci := ci) hno]⟩
theorem BesI.step {x y : Nd} {m : Int} {r : List Nd} {k : Nat} (h : BesI ci x m y r k) (hd : y.d < 17) :
    ((asideN ci y m).a < m ∧ BesI ci x m (nearN ci y m) (r.take k ++ [asideN ci y m] ++ r.drop k) (k + 1)) ∨ (¬ (asideN ci y m).a < m ∧ BesI ci x m (nearN ci y m) (r.take k ++ [asideN ci y m] ++ r.drop k) k) := by
  have hlen : (r.take k ++ [asideN ci y m] ++ r.drop k).length = r.length + 1 := by
    have := h.le
    simp only [List.length_append, List.length_take, List.length_drop, List.length_cons, List.length_nil]; omega
  have hk : (r.take k).length = k := by rw [List.length_take]; have := h.le; omega
  have l3 : ∀ z ∈ r.take k ++ [asideN ci y m] ++ r.drop k, z.s.length = 32 := by
    intro z hz
    simp only [List.mem_append, List.mem_cons, List.not_mem_nil, or_false] at hz
    rcases hz with (hz | rfl) | hz
    · exact h.len3 z (List.mem_of_mem_take hz)
    · unfold asideN; split; exact ci.lenR _; exact ci.lenL _
    · exact h.len3 z (List.mem_of_mem_drop hz)
  rcases bes_split (ci := ci) h.ok h.isIn hd with ⟨h1, h2, h3⟩ | ⟨h1, h1', h2, h3⟩
  · have ea : asideN ci y m = ndR ci y := by unfold asideN; rw [if_pos h1]
    have en : nearN ci y m = ndL ci y := by unfold nearN; rw [if_pos h1]
    right
    rw [ea] at hlen l3 ⊢
    rw [en]
    refine ⟨by omega, (ndL_ok (ci := ci) h.ok hd).1, h2, by rw [hlen]; have := h.le; omega, ?_, l3, by rw [hlen]; have := h.few; show _ ≤ y.d + 1; omega⟩
    obtain ⟨t1, t2, _, _⟩ := mid_take (r.take k) (r.drop k) (ndR ci y) hk
    rw [h.eq, h3, t1, t2]
    simp [ndL]
  · have ea : asideN ci y m = ndL ci y := by unfold asideN; rw [if_neg h1]
    have en : nearN ci y m = ndR ci y := by unfold nearN; rw [if_neg h1]
    left
    rw [ea] at hlen l3 ⊢
    rw [en]
    refine ⟨h1', (ndR_ok (ci := ci) h.ok hd).1, h2, by rw [hlen]; have := h.le; omega, ?_, l3, by rw [hlen]; have := h.few; show _ ≤ y.d + 1; omega⟩
    obtain ⟨_, _, t3, t4⟩ := mid_take (r.take k) (r.drop k) (ndL ci y) hk
    rw [h.eq, h3, t3, t4]
    simp [ndR]
theorem depthAt_eqH {w : World} {X : Nat} {x : Nd} {t : TypeId} (h : Blk w X (ndC x) t) : depthAt w X = (17 - x.d).toNat := by
  unfold depthAt; rw [ndt_d h]; rfl
set_option maxRecDepth 100000 in
set_option maxHeartbeats 3200000 in
theorem besides_any (g : Nat) (x : Nd) (m : Int) (w : World) (hx : okH x) (hi : inI x m = true) (c0 : w.cell? ⟨g, 0, none⟩ = some ci.v) :
    Calls Tryd.prog 15 #[.pointer (some ⟨g, 0, none⟩), .agg (ndC x), .int .u64 m] w (RetRowN 53 34 (nvs (woL ci (17 - x.d).toNat x m)) w) := by
  obtain ⟨cz, hcz⟩ : ∃ cz, cz = ndC zeroNd := ⟨_, rfl⟩
  have hzh : ∀ W, (zeroValue 53).run Tryd.prog W = .ok (.agg cz) W := fun _ => by rw [hcz]; kernel_rfl
  have ZH : Hid (cz.size = 34) := by show _ = _; rw [hcz]; exact ndC_size rfl
  have hgw : g < w.heap.size := block_lt_of_cell c0
  have b1 : Blk (w.alloc (.cells (ndC x) 53)) w.heap.size (ndC x) 53 := heap_alloc_new _ _
  have hb : Below w.heap.size w (w.alloc (.cells (ndC x) 53)) := (Below.refl _ _).alloc (Nat.le_refl _) _
  have B1 := Lib.hid b1
  have BB := Lib.hid hb
  have HX := Lib.hid hx
  have HI := Lib.hid hi
  have HC0 := Lib.hid c0
  clear b1 hb hx hi c0 hcz
  go_enter Tryd.func15, Tryd.ntmps15
  go_wp2_with fail
  refine (toward_any g m _).mono ?_
  rintro e w2 ⟨p1, p2, rfl, h1, h2, l1, l2, bw⟩
  have hs1 : (w.alloc (.cells (ndC x) 53)).heap.size = w.heap.size + 1 := by simp
  have f1 : Blk w2 w.heap.size (ndC x) 53 := B1.out.below bw
  have fb : Below w.heap.size w w2 := BB.out.trans (bw.mono (by omega))
  rw [hs1] at l1 l2
  have q1 := h1.lt
  have q2 := h2.lt
  have F1 := Lib.hid f1
  have FB := Lib.hid fb
  have H1 := Lib.hid h1
  have H2 := Lib.hid h2
  clear h1 h2 bw f1 fb B1 BB hs1
  go_wp2_with fail
  go_loopw [7, 9, 10, 11] (fun o i _ _ wr => ∃ y r k A1 n1 c1, o = .slice A1 n1 c1 ∧ i = .int .i64 (k : Nat) ∧ Hid (BesI ci x m y r k) ∧ Hid (r.length = n1) ∧ Blk wr w.heap.size (ndC y) 53 ∧ Blk wr p1 #[.pointer (some ⟨g, 0, none⟩)] 27 ∧ Blk wr p2 #[.int .u64 m] 25 ∧ wr.ownsRow w2.heap.size 53 34 (.slice A1 n1 c1) n1 (nvs r) ∧ Below w.heap.size w wr ∧ w2.heap.size ≤ wr.heap.size) (fun _ _ _ _ wr => depthAt wr w.heap.size)
  case atStart => exact ⟨x, [], 0, none, 0, 0, rfl, rfl, BesI.start HX.out HI.out, rfl, F1.out, H1.out, H2.out, World.ownsRow_nil _ _ _ _, FB.out, Nat.le_refl _⟩
  case round =>
    clear F1 FB H1 H2
    obtain ⟨y, r, k, A1, n1, c1, rfl, rfl, HBI, HRL, f1, h1, h2, ho, fb, hsz⟩ := hrel
    by_cases h17 : y.d < 17
    · have c0 := ndt_d f1
      have hy := HBI.out.ok
      obtain ⟨y', hy'⟩ : ∃ y', y' = nearN ci y m := ⟨_, rfl⟩
      obtain ⟨z, hz⟩ : ∃ z, z = asideN ci y m := ⟨_, rfl⟩
      have HIY : Hid ((Tryd.prog.info? 53).map (·.size) = some (ndC y).size) := by rw [ndC_size hy.2.2.2.2.2]; exact info_held
      have HY := Lib.hid hy
      have HN := Lib.hid hy'
      have HZ := Lib.hid hz
      have HC := Lib.hid ((fb.cell hgw).trans HC0.out)
      have F1 := Lib.hid f1
      have H1 := Lib.hid h1
      have H2 := Lib.hid h2
      have HO := Lib.hid ho
      have FB := Lib.hid fb
      clear hy hy' hz f1 h1 h2 ho fb
      go_wp2_with (refine wpList_load_row rfl 53 (.tmp 4) rfl w.heap.size rfl 53 (ndC y) (0, 0) _ F1.out Tryd.underlying53 rfl HIY.out ?_)
      refine (spl_any g p1 p2 y m _ HY.out h17 HC.out H1.out H2.out y' z HN.out HZ.out).mono ?_
      rintro e w3 ⟨rfl, bw⟩
      have hy'ok : okH y' := by
        rw [HN.out]; unfold nearN; split
        · exact (ndL_ok (ci := ci) HY.out h17).1
        · exact (ndR_ok (ci := ci) HY.out h17).1
      have hz3 : z.s.length = 32 := by rw [HZ.out]; unfold asideN; split; exact ci.lenR _; exact ci.lenL _
      have HY3 : Hid (y'.s.length = 32) := hy'ok.2.2.2.2.2
      have HZ3 := Lib.hid hz3
      have HIN : Hid ((Tryd.prog.info? 53).map (·.size) = some (ndC y').size) := by rw [ndC_size HY3.out]; exact info_held
      have HIZ : Hid ((Tryd.prog.info? 53).map (·.size) = some (ndC z).size) := by rw [ndC_size HZ3.out]; exact info_held
      obtain ⟨ie, hie, hz0, hz1, hz2⟩ := info_parts info_heldW
      have D1 := Lib.hid (F1.out.below bw)
      have D2 := Lib.hid (H1.out.below bw)
      have D3 := Lib.hid (H2.out.below bw)
      have DO := Lib.hid (own_belowN HO.out bw)
      have DB := Lib.hid (FB.out.trans (bw.mono FB.out.size))
      have hs3 : w2.heap.size ≤ w3.heap.size := Nat.le_trans hsz bw.size
      have hf3 : w.heap.size < w3.heap.size := D1.out.lt
      have hdd := depthAt_eqH F1.out
      have HDD := Lib.hid hdd
      have HBS := Lib.hid (HBI.out.step h17)
      have HFW := Lib.hid HBI.out.few
      have HLE := Lib.hid HBI.out.le
      have HL3 := Lib.hid HBI.out.len3
      rw [← HN.out, ← HZ.out] at HBS
      clear bw F1 H1 H2 HO FB c0 hy'ok hz3 hdd HC
      go_wp2_with (first
        | (refine wpList_store_row rfl 53 (.tmp 10) (.tmp 22) rfl w3.heap.size (ndC y') rfl rfl 53 cz (heap_alloc2_old _ _ _) HIN.out (by rw [ndC_size HY3.out, ZH.out]) (ndC_one _) ?_
           generalize hwx : World.setRow _ _ _ = wx
           have e1 : Blk wx w3.heap.size (ndC y') 53 := by rw [← hwx]; exact setRow_heap _ _ _ _ _ _ (heap_alloc2_old _ _ _)
           have e2 : Blk wx (w3.heap.size + 1) cz 53 := by rw [← hwx]; exact blk_row (heap_alloc2_new _ _ _) (by omega)
           have eb : Below w3.heap.size w3 wx := by rw [← hwx]; exact below_setRow (((Below.refl _ _).alloc (Nat.le_refl _) _).alloc (by simp) _) (Nat.le_refl _) _
           have E1 := Lib.hid e1
           have E2 := Lib.hid e2
           have EB := Lib.hid eb
           clear hwx e1 e2 eb)
        | (refine wpList_store_row rfl 53 (.tmp 11) (.tmp 23) rfl (w3.heap.size + 1) (ndC z) rfl rfl 53 cz E2.out HIZ.out (by rw [ndC_size HZ3.out, ZH.out]) (ndC_one _) ?_
           generalize hwy : World.setRow _ _ _ = wy
           have e1 : Blk wy w3.heap.size (ndC y') 53 := by rw [← hwy]; exact blk_row E1.out (by omega)
           have e2 : Blk wy (w3.heap.size + 1) (ndC z) 53 := by rw [← hwy]; exact setRow_heap _ _ _ _ _ _ E2.out
           have eb : Below w3.heap.size w3 wy := by rw [← hwy]; exact below_setRow EB.out (by omega) _
           have G1 := Lib.hid e1
           have G2 := Lib.hid e2
           have GB := Lib.hid eb
           have gs : w3.heap.size + 1 < wy.heap.size := e2.lt
           clear hwy e1 e2 eb E1 E2 EB)
        | (refine wpList_load_row rfl 53 (.tmp 11) rfl (w3.heap.size + 1) rfl 53 (ndC z) (0, 0) _ G2.out Tryd.underlying53 rfl HIZ.out ?_)
        | (refine wpList_buildSlice rfl 38 53 1 #[(0, .tmp 26)] rfl (ndC z) ie _ Tryd.underlying38 hie hz0 (by rw [hz1]; omega) (by rw [hz1]; omega) (by rw [hz1]; simp only [List.map_toArray, List.map_cons, List.map_nil]; exact one_fill z HZ3.out) ?_
           have ho1 := World.ownsRow_lit (base := wy.heap.size) (size := 34) (e := 53) wy (ndC z) 1 (Nat.le_refl _) (by unfold maxLen; omega) (by rw [ndC_size HZ3.out])
           have ho2 := own_belowN (own_belowN DO.out GB.out) ((Below.refl wy.heap.size wy).alloc (Nat.le_refl _) (.cells (ndC z) 53))
           have O1 := Lib.hid ho1
           have O2 := Lib.hid ho2
           clear ho1 ho2))
      have hown := own_loN DO.out
      have HLO := Lib.hid hown
      have hzo : (wy.alloc (.cells (ndC z) 53)).ownsRow 0 53 34 (.slice (some ⟨wy.heap.size, 0, none⟩) 1 1) 1 (nvs [z]) := by
        have := own_moreN O1.out (Nat.zero_le _)
        rw [nvs, nvs, List.append_nil]; exact this
      have HZO := Lib.hid hzo
      clear hown hzo
      refine (insert_any A1 (some ⟨wy.heap.size, 0, none⟩) n1 c1 k 1 1 r [z] _ HRL.out HL3.out (by have := HLE.out; have := HRL.out; omega) (own_moreN O2.out (Nat.zero_le _)) HZO.out rfl (fun u hu => by rw [List.mem_singleton] at hu; rw [hu]; exact HZ3.out) (by have := HFW.out; have := HRL.out; omega)
        (fun q hq hq' => by have := (HLO.out q hq).2; injection hq' with hq'; have hq'' : wy.heap.size = q := hq'; omega)).mono ?_
      rintro e w5 ⟨A3, c3, rfl, ho5, hbut, hblk⟩
      have hws : (wy.alloc (.cells (ndC z) 53)).heap.size = wy.heap.size + 1 := by simp
      have P0 := Lib.hid (own_upN (base' := w2.heap.size) ho5 (fun q hq => by
        rcases hblk q hq with h | h
        · exact (HLO.out q h).1
        · omega))
      have BW : Below w3.heap.size w3 (wy.alloc (.cells (ndC z) 53)) := GB.out.alloc (by omega) _
      have P1 := Lib.hid ((D1.out.below BW).but hbut (fun h => by have := (HLO.out _ h).1; omega))
      have P2 := Lib.hid ((D2.out.below BW).but hbut (fun h => by have := (HLO.out _ h).1; omega))
      have P3 := Lib.hid ((D3.out.below BW).but hbut (fun h => by have := (HLO.out _ h).1; omega))
      have P4 := Lib.hid ((show Blk (wy.alloc (.cells (ndC z) 53)) w3.heap.size (ndC y') 53 from blk_old1 G1.out).but hbut (fun h => by have := (HLO.out _ h).2; omega))
      have p5 := (show Blk (wy.alloc (.cells (ndC z) 53)) (w3.heap.size + 1) (ndC z) 53 from blk_old1 G2.out).but hbut (fun h => by have := (HLO.out _ h).2; omega)
      have P5 := Lib.hid p5
      have PB := Lib.hid ((DB.out.trans (BW.mono DB.out.size)).trans (hbut.below (B := w.heap.size) (fun q hq h => by have := (HLO.out q h).1; omega) (by omega)))
      have hs5 : w2.heap.size ≤ w5.heap.size := by have := hbut.size; omega
      have c1 := ndt_a p5
      have hX5 := P1.out.lt
      clear ho5 hbut hblk BW p5 O1 O2 HZO G1 G2 GB D1 D2 D3 DO DB
      have hlen : (r.take k ++ [z] ++ r.drop k).length = n1 + 1 := by
        have := HLE.out
        rw [← HRL.out]
        simp only [List.length_append, List.length_take, List.length_drop, List.length_cons, List.length_nil]; omega
      have HLN := Lib.hid hlen
      have hs0 : Below w.heap.size w (w5.setRow w.heap.size (ndC y')) := below_setRow PB.out (Nat.le_refl _) _
      have hs2 : Blk (w5.setRow w.heap.size (ndC y')) w.heap.size (ndC y') 53 := setRow_heap _ _ _ _ _ _ P1.out
      have hs3' : (w5.setRow w.heap.size (ndC y')).ownsRow w2.heap.size 53 34 (.slice A3 (n1 + 1) c3) (n1 + 1) (nvs (r.take k ++ [z] ++ r.drop k)) :=
        Own.but (S := (· = w.heap.size)) P0.out (But.setRow (S := (· = w.heap.size)) (But.refl w5) (.inl rfl) (ndC y')) (fun q hq h => by have := (own_loN P0.out q hq).1; omega)
      have hsz5 : (w5.setRow w.heap.size (ndC y')).heap.size = w5.heap.size := by simp [World.setRow]
      have R0 := Lib.hid hs0
      have R1 := Lib.hid hs2
      have R2 := Lib.hid (show Blk (w5.setRow w.heap.size (ndC y')) p1 _ _ from blk_row P2.out (by omega))
      have R3 := Lib.hid (show Blk (w5.setRow w.heap.size (ndC y')) p2 _ _ from blk_row P3.out (by omega))
      have R4 := Lib.hid hs3'
      have R5 := Lib.hid (show w2.heap.size ≤ (w5.setRow w.heap.size (ndC y')).heap.size by omega)
      have hdy := depthAt_eqH hs2
      have hydn : y'.d = y.d + 1 := by rw [HN.out]; unfold nearN; split <;> rfl
      have HDY := Lib.hid hdy
      have HYD := Lib.hid hydn
      clear hlen hs0 hs2 hs3' hsz5 hdy hydn
      rcases HBS.out with ⟨hlt, hbi⟩ | ⟨hlt, hbi⟩
      · have hd : decide (z.a < m) = true := decide_eq_true hlt
        have HBN := Lib.hid hbi
        have ek : IntKind.i64.wrap ((k : Int) + 1) = ((k + 1 : Nat) : Int) := by rw [IntWalk.i64_in _ (by have := hbi.ok.2.1; have := hbi.few; have := hbi.le; omega)]; omega
        clear hlt hbi HBS
        go_wp2_with (first
          | (refine wpList_load_row rfl 53 (.tmp 10) rfl w3.heap.size rfl 53 (ndC y') (0, 0) _ P4.out Tryd.underlying53 rfl HIN.out ?_)
          | (refine wpList_store_row rfl 53 (.tmp 4) (.tmp 35) rfl w.heap.size (ndC y') rfl rfl 53 (ndC y) P1.out HIN.out (by rw [ndC_size HY3.out, ndC_size HY.out.2.2.2.2.2]) (ndC_one _) ?_))
        try simp only [Act.put, List.setIfInBounds_toArray, List.set_cons_zero, List.set_cons_succ]
        go_roundw
        case rel => exact ⟨y', r.take k ++ [z] ++ r.drop k, k + 1, A3, n1 + 1, c3, rfl, by go_num, HBN, HLN, R1.out, R2.out, R3.out, R4.out, R0.out, R5.out⟩
        case measure => rw [HDY.out, HDD.out, HYD.out]; omega
      · have hd : decide (z.a < m) = false := decide_eq_false (by omega)
        have HBN := Lib.hid hbi
        clear hlt hbi HBS
        go_wp2_with (first
          | (refine wpList_load_row rfl 53 (.tmp 10) rfl w3.heap.size rfl 53 (ndC y') (0, 0) _ P4.out Tryd.underlying53 rfl HIN.out ?_)
          | (refine wpList_store_row rfl 53 (.tmp 4) (.tmp 35) rfl w.heap.size (ndC y') rfl rfl 53 (ndC y) P1.out HIN.out (by rw [ndC_size HY3.out, ndC_size HY.out.2.2.2.2.2]) (ndC_one _) ?_))
        try simp only [Act.put, List.setIfInBounds_toArray, List.set_cons_zero, List.set_cons_succ]
        go_roundw
        case rel => exact ⟨y', r.take k ++ [z] ++ r.drop k, k, A3, n1 + 1, c3, rfl, rfl, HBN, HLN, R1.out, R2.out, R3.out, R4.out, R0.out, R5.out⟩
        case measure => rw [HDY.out, HDD.out, HYD.out]; omega
    · have c0 := ndt_d f1
      go_wp2
      go_ret
      have := HBI.out.stop (by omega)
      exact ⟨A1, n1, c1, rfl, by rw [this]; exact own_moreN ho (by omega), fb⟩
end Go.Proofs.YtippbjpodnnhiaaDoor.Kg
