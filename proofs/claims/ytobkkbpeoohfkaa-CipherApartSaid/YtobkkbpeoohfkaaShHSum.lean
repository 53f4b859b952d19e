/-
  The contract of a hash's Sum: the sum of all that was written.
-/
import Derived.Test.YtobkkbpeoohfkaaShHash
import Derived.Test.YtobkkbpeoohfkaaShSum
namespace Go.Proofs.Ytobkkbpeoohfkaa
open Go.RowKit
attribute [local go_sem ↓] Go.wp_at_zero Go.wp_at_succ
theorem rd_rest {w : World} {g s r : Nat} {ws : List UInt32} {rs : List UInt8} (h : Blk w g (hC ws rs s).toArray 87) (hw : ws.length = 8) : Rd w.heap.size w (some ⟨g, 8, none⟩) (bv (rs.take r)) := fun k u hu => by
  rw [bv_take, List.getElem?_take] at hu
  split at hu
  · exact ⟨_, rfl, h.lt, by rw [Addr.add_mid]; exact hC_rest hw h k u hu⟩
  · cases hu
theorem hsum_nil (w : World) : Calls Try.prog 52 #[.pointer none] w (RetB (.agg (bva (shaL []))) w) := by
  have b1 : Blk (w.alloc (.cells (bva (List.replicate 32 0)) 23)) w.heap.size (bva (List.replicate 32 0)) 23 := heap_alloc_new _ _
  have b2 : Below w.heap.size w (w.alloc (.cells (bva (List.replicate 32 0)) 23)) := (Below.refl _ _).alloc (Nat.le_refl _) _
  have B1 := Lib.hid b1
  have B2 := Lib.hid b2
  clear b1 b2
  go_enter Try.func52, Try.ntmps52
  go_wp2_with fail
  refine (sum_any none 0 0 [] _ rfl (Nat.le_refl _) Rd.none (by omega)).mono ?_
  rintro e w1 ⟨rfl, bw1⟩
  have D1 := Lib.hid (B1.out.below bw1)
  have D2 := Lib.hid (B2.out.trans (bw1.mono B2.out.size))
  have HI : Hid ((Try.prog.info? 23).map (·.size) = some (bva (shaL [])).size) := by rw [bva_size, shaL_length]; exact info33
  clear B1 B2 bw1
  go_wp2_with (refine wpList_store_row rfl 23 (.tmp 2) (.tmp 12) rfl w.heap.size (bva (shaL [])) rfl rfl 23 (bva (List.replicate 32 0)) D1.out HI.out (by rw [bva_size, bva_size, shaL_length]; rfl) (bva_one _) ?_)
  exact bodyPost_ret (v := .agg (bva (shaL []))) (results_cell_row Try.results52 _ _ w.heap.size 23 (bva (shaL [])) (0, 0) _ rfl (setRow_heap _ _ _ _ _ _ D1.out) Try.underlying23 rfl HI.out) rfl ⟨rfl, below_setRow D2.out (Nat.le_refl _) _⟩
set_option maxHeartbeats 3200000 in
theorem hsum_any (g : Nat) (t : List UInt8) (w : World) (hH : HashIs w g t) (hsz : t.length ≤ 1099511627776) :
    Calls Try.prog 52 #[.pointer (some ⟨g, 0, none⟩)] w (RetB (.agg (bva (shaL t))) w) := by
  obtain ⟨ws, rs, h8, h64, hk, hB⟩ := hH
  have hgl := hB.lt
  obtain ⟨s, hs⟩ : ∃ s, s = t.length := ⟨_, rfl⟩
  rw [← hs] at hB hsz
  have b0 : Blk (w.alloc (.cells (bva (List.replicate 32 0)) 23)) g (hC ws rs s).toArray 87 := hB.below ((Below.refl _ _).alloc (Nat.le_refl _) _)
  have b1 : Blk (w.alloc (.cells (bva (List.replicate 32 0)) 23)) w.heap.size (bva (List.replicate 32 0)) 23 := heap_alloc_new _ _
  have b2 : Below w.heap.size w (w.alloc (.cells (bva (List.replicate 32 0)) 23)) := (Below.refl _ _).alloc (Nat.le_refl _) _
  have c72 := hC_size h8 h64 hB
  have hgn : ¬ g = w.heap.size := by omega
  have B1 := Lib.hid b0
  have B2 := Lib.hid b1
  have B3 := Lib.hid b2
  have H8 := Lib.hid h8
  have H64 := Lib.hid h64
  clear b0 b1 b2 h8 h64 hB
  by_cases ht : s = 0
  · have e : t = [] := List.eq_nil_of_length_eq_zero (by rw [← hs]; exact ht)
    subst e
    subst ht
    clear hs hk
    go_enter Try.func52, Try.ntmps52
    go_wp2_with fail
    refine (sum_any none 0 0 [] _ rfl (Nat.le_refl _) Rd.none (by omega)).mono ?_
    rintro e w1 ⟨rfl, bw1⟩
    have D1 := Lib.hid (B2.out.below bw1)
    have D2 := Lib.hid (B3.out.trans (bw1.mono B3.out.size))
    have HI : Hid ((Try.prog.info? 23).map (·.size) = some (bva (shaL [])).size) := by rw [bva_size, shaL_length]; exact info33
    clear B1 B2 B3 bw1 c72
    go_wp2_with (refine wpList_store_row rfl 23 (.tmp 2) (.tmp 12) rfl w.heap.size (bva (shaL [])) rfl rfl 23 (bva (List.replicate 32 0)) D1.out HI.out (by rw [bva_size, bva_size, shaL_length]; rfl) (bva_one _) ?_)
    exact bodyPost_ret (v := .agg (bva (shaL []))) (results_cell_row Try.results52 _ _ w.heap.size 23 (bva (shaL [])) (0, 0) _ rfl (setRow_heap _ _ _ _ _ _ D1.out) Try.underlying23 rfl HI.out) rfl ⟨rfl, below_setRow D2.out (Nat.le_refl _) _⟩
  · have hz : ((s : Int) == 0) = false := by simp; omega
    obtain ⟨r, hr⟩ : ∃ r, r = s % 64 := ⟨_, rfl⟩
    have et : (s : Int).tmod 64 = (r : Int) := by rw [Int.tmod_eq_emod_of_nonneg (by omega)]; omega
    have er : (s : Int) % 64 = (r : Int) := by omega
    have r0 : (0 : Int) ≤ (r : Int) := by omega
    have r1 : (r : Int) ≤ 64 := by omega
    have hr64 : r ≤ 64 := by omega
    have HR : Hid ((rs.take r).length = r) := by show _ = _; rw [List.length_take, H64.out]; omega
    have HV : Hid (shaL t = toldB (overL ws (padP (rs.take r) s))) := by
      have h := hk (by intro e; rw [e] at hs; exact ht hs)
      show _ = _
      rw [← h.sum, hr, hs]
    clear hs hk hr
    go_enter Try.func52, Try.ntmps52
    go_wp2_with fail
    refine wp_region_held_drew (S := fun w' => Blk w' g (hC ws rs s).toArray 87 ∧ (∃ l : List UInt8, l.length = 32 ∧ Blk w' w.heap.size (bva l) 23) ∧ Below w.heap.size w w') (by kernel_rfl) ⟨B1.out, ⟨_, by simp, B2.out⟩, B3.out.drew⟩ (fun hh => ?_)
    have HH := Lib.hid hh
    clear hh
    refine wpAnyH_take (i := 0) (v := ?v0) rfl (by kernel_rfl) (by kernel_rfl) (by kernel_rfl) (fun _ _ _ h => h) (Or.inl ⟨by rfl, fun w' _ => ?y0⟩) HH.out ?_
    case y0 => (go_simp; try with_reducible rfl)
    refine wpAnyH_take (i := 1) (v := ?v1) rfl (by kernel_rfl) (by kernel_rfl) (by kernel_rfl) (fun _ _ _ h => h) (Or.inl ⟨by rfl, fun w' _ => ?y1⟩) HH.out ?_
    case y1 => (go_simp; try with_reducible rfl)
    refine wpAnyH_take (i := 2) (v := ?v2) rfl (by kernel_rfl) (by kernel_rfl) (by kernel_rfl) (fun _ _ _ h => h) (Or.inl ⟨by rfl, fun w' _ => ?y2⟩) HH.out ?_
    case y2 => (go_simp; try with_reducible rfl)
    refine wpAnyH_take (i := 3) (v := .agg (uv ws)) rfl (by kernel_rfl) (by kernel_rfl) (by kernel_rfl) (fun _ _ _ h => h) (Or.inl ⟨by rfl, fun w' hw' => ?y3⟩) HH.out ?_
    case y3 => (exact exec_load_mid 60 (.tmp 15) rfl g 0 rfl (uvl ws) _ (hC_words hw'.1) Try.underlying60 rfl (by rw [uvl_length, H8.out]; exact info28))
    refine wpAnyH_take (i := 4) (v := ?v4) rfl (by kernel_rfl) (by kernel_rfl) (by kernel_rfl) (fun _ _ _ h => h) (Or.inl ⟨by rfl, fun w' _ => ?y4⟩) HH.out ?_
    case y4 => (go_simp; try with_reducible rfl)
    refine wpAnyH_take (i := 5) (v := ?v5) rfl (by kernel_rfl) (by kernel_rfl) (by kernel_rfl) (fun _ _ _ h => h) (Or.inl ⟨by rfl, fun w' _ => ?y5⟩) HH.out ?_
    case y5 => (go_simp; try with_reducible rfl)
    refine wpAnyH_take (i := 6) (v := ?v6) rfl (by kernel_rfl) (by kernel_rfl) (by kernel_rfl) (fun _ _ _ h => h) (Or.inl ⟨by rfl, fun w' _ => ?y6⟩) HH.out ?_
    case y6 => (go_simp; try with_reducible rfl)
    refine wpAnyH_take (i := 7) (v := ?v7) rfl (by kernel_rfl) (by kernel_rfl) (by kernel_rfl) (fun _ _ _ h => h) (Or.inl ⟨by rfl, fun w' _ => ?y7⟩) HH.out ?_
    case y7 => (go_simp; try with_reducible rfl)
    refine wpAnyH_take (i := 8) (v := ?v8) rfl (by kernel_rfl) (by kernel_rfl) (by kernel_rfl) (fun _ _ _ h => h) (Or.inl ⟨by rfl, fun w' _ => ?y8⟩) HH.out ?_
    case y8 => (go_simp; try with_reducible rfl)
    refine wpAnyH_take (i := 9) (v := ?v9) rfl (by kernel_rfl) (by kernel_rfl) (by kernel_rfl) (fun _ _ _ h => h) (Or.inl ⟨by rfl, fun w' _ => ?y9⟩) HH.out ?_
    case y9 => (go_simp; try with_reducible rfl)
    refine wpAnyH_take (i := 10) (v := ?v10) rfl (by kernel_rfl) (by kernel_rfl) (by kernel_rfl) (fun _ _ _ h => h) (Or.inl ⟨by rfl, fun w' hw' => ?y10⟩) HH.out ?_
    case y10 => ((have c72 := hC_size H8.out H64.out hw'.1; go_simp; try with_reducible rfl))
    refine wpAnyH_take (i := 11) (v := ?v11) rfl (by kernel_rfl) (by kernel_rfl) (by kernel_rfl) (fun _ _ _ h => h) (Or.inl ⟨by rfl, fun w' _ => ?y11⟩) HH.out ?_
    case y11 => (go_simp; try with_reducible rfl)
    simp only [List.getElem_toArray, List.getElem_cons_succ, List.getElem_cons_zero, Act.put, List.setIfInBounds_toArray, List.set_cons_zero, List.set_cons_succ]
    refine wpAnyH_take (i := 12) (v := ?v12) rfl (by kernel_rfl) (by kernel_rfl) (by kernel_rfl) (fun _ _ _ h => h) (Or.inl ⟨by rfl, fun w' _ => ?y12⟩) HH.out ?_
    case y12 => (go_simp; try with_reducible rfl)
    refine wpAnyH_take (i := 13) (v := ?v13) rfl (by kernel_rfl) (by kernel_rfl) (by kernel_rfl) (fun _ _ _ h => h) (Or.inl ⟨by rfl, fun w' _ => ?y13⟩) HH.out ?_
    case y13 => (go_simp; try with_reducible rfl)
    refine wpAnyH_take (i := 14) (v := ?v14) rfl (by kernel_rfl) (by kernel_rfl) (by kernel_rfl) (fun _ _ _ h => h) (Or.inl ⟨by rfl, fun w' _ => ?y14⟩) HH.out ?_
    case y14 => (go_simp; try with_reducible rfl)
    refine wpAnyH_take (i := 15) (v := ?v15) rfl (by kernel_rfl) (by kernel_rfl) (by kernel_rfl) (fun _ _ _ h => h) (Or.inl ⟨by rfl, fun w' _ => ?y15⟩) HH.out ?_
    case y15 => (go_simp; try with_reducible rfl)
    refine wpAnyH_take (i := 16) (v := ?v16) rfl (by kernel_rfl) (by kernel_rfl) (by kernel_rfl) (fun _ _ _ h => h) (Or.inl ⟨by rfl, fun w' hw' => ?y16⟩) HH.out ?_
    case y16 => ((have c72 := hC_size H8.out H64.out hw'.1; go_simp; try with_reducible rfl))
    simp only [List.getElem_toArray, List.getElem_cons_succ, List.getElem_cons_zero, Act.put, List.setIfInBounds_toArray, List.set_cons_zero, List.set_cons_succ]
    refine wpAnyH_ready (rs := [17]) (by kernel_rfl) (by simp) (AllReadyH.cons rfl (fun K hK => ?_) AllReadyH.nil)
    go_simp
    refine (padded_any (some ⟨g, 8, none⟩) r 64 (rs.take r) s _ HR.out (Nat.le_refl _) (rd_rest HH.out.1 H8.out) (by omega) (by omega)).mono ?_
    rintro e w2 ⟨A2, n2, c2, rfl, ho2, bw2⟩
    have hl2 : (padP (rs.take r) s).length = n2 := own_blen ho2
    have hpad : n2 = padN r := by rw [← hl2, padP_length, HR.out]
    have hp64 : n2 % 64 = 0 := by rw [hpad]; exact padN_mod _
    have hpos : 0 < n2 := by rw [hpad]; have := padN_le r; omega
    obtain ⟨g2, rfl, _, hnc2, hcm2⟩ := own_addr ho2 hpos
    have HL2 := Lib.hid hl2
    have O2 := Lib.hid ho2
    clear hl2 hpad ho2
    go_simp
    refine hK.out _ _ ⟨HH.out.1.below bw2, (HH.out.2.1.imp fun l hl => ⟨hl.1, hl.2.below bw2⟩), HH.out.2.2.trans (bw2.mono HH.out.2.2.size)⟩ (fun hh => ?_)
    have HH' := Lib.hid hh
    clear hh hK K HH bw2
    have HH := Lib.hid HH'.out
    clear HH'
    refine wpAnyH_ready (rs := [18]) (by kernel_rfl) (by simp) (AllReadyH.cons rfl (fun K hK => ?_) AllReadyH.nil)
    go_simp
    refine (over_any ws H8.out g2 n2 c2 (padP (rs.take r) s) _ HL2.out hnc2 hcm2 hp64 (Rd.own O2.out)).mono ?_
    rintro e w3 ⟨rfl, bw3⟩
    go_simp
    refine hK.out _ _ ⟨HH.out.1.below bw3, (HH.out.2.1.imp fun l hl => ⟨hl.1, hl.2.below bw3⟩), HH.out.2.2.trans (bw3.mono HH.out.2.2.size)⟩ (fun hh => ?_)
    have HH' := Lib.hid hh
    clear hh hK K HH bw3 O2
    have HH := Lib.hid HH'.out
    clear HH'
    refine wpAnyH_ready (rs := [19]) (by kernel_rfl) (by simp) (AllReadyH.cons rfl (fun K hK => ?_) AllReadyH.nil)
    go_simp
    refine (told_any (overL ws (padP (rs.take r) s)) (by rw [overL_length, H8.out]) _).mono ?_
    rintro e w4 ⟨rfl, bw4⟩
    go_simp
    refine hK.out _ _ ⟨HH.out.1.below bw4, (HH.out.2.1.imp fun l hl => ⟨hl.1, hl.2.below bw4⟩), HH.out.2.2.trans (bw4.mono HH.out.2.2.size)⟩ (fun hh => ?_)
    have HH' := Lib.hid hh
    clear hh hK K HH bw4
    have HH := Lib.hid HH'.out
    clear HH'
    obtain ⟨r0, ⟨l, hl, r1⟩, r2⟩ := HH.out
    have R1 := Lib.hid r1
    have R2 := Lib.hid r2
    have Rl := Lib.hid hl
    clear r0 r1 r2 hl
    refine wpAnyH_ready (rs := [20]) (by kernel_rfl) (by simp) (AllReadyH.cons rfl (fun K hK => ?_) AllReadyH.nil)
    rw [if_pos (by rfl)]
    refine wp_store_row 23 (.tmp 2) (.tmp 32) rfl w.heap.size (bva (toldB (overL ws (padP (rs.take r) s)))) rfl rfl 23 (bva l) R1.out (by rw [bva_size, toldB_length]; exact info33) (by rw [bva_size, bva_size, Rl.out, toldB_length]) (bva_one _) ?_
    refine hK.out _ _ ⟨?_, ⟨_, toldB_length _, setRow_heap _ _ _ _ _ _ R1.out⟩, below_setRow R2.out (Nat.le_refl _) _⟩ (fun _ => ?_)
    · unfold Blk; rw [setRow_other _ _ _ _ (by omega)]; exact HH.out.1
    clear hK K
    refine wpAnyH_done (by kernel_rfl) ?_ _
    go_wp2
    exact bodyPost_ret (v := .agg (bva (toldB (overL ws (padP (rs.take r) s))))) (results_cell_row Try.results52 _ _ w.heap.size 23 (bva (toldB (overL ws (padP (rs.take r) s)))) (0, 0) _ rfl (setRow_heap _ _ _ _ _ _ R1.out) Try.underlying23 rfl (by rw [bva_size, toldB_length]; exact info33)) rfl ⟨by rw [HV.out], below_setRow R2.out (Nat.le_refl _) _⟩
end Go.Proofs.Ytobkkbpeoohfkaa
