/-
  SealApart holds: of every key, bytes and byte the law returns true, and its arguments read as they did.
-/
import Derived.Test.YtdemfaolkmillaaSeRef
import Derived.Test.YtdemfaolkmillaaConvB
import Derived.Test.YtdemfaolkmillaaOpen
import Derived.Test.YtdemfaolkmillaaOpenA
import Derived.ProofKit
import Derived.OpenShut
import Derived.ShutString
import Derived.ChangeOld
namespace Go.Proofs.Ytdemfaolkmillaa
open Go.RowKit Go.ChangeShapes Go.WideShapes Go.ChangeAt
attribute [local go_sem ↓] Go.wp_at_zero Go.wp_at_succ
theorem own_cap' {w : World} {base n c : Nat} {e : TypeId} {A : Option Addr} {xs : List Value} (h : w.ownsRow base e 1 (.slice A n c) n xs) : n ≤ c ∧ c ≤ maxLen := by
  rcases h.2 with ⟨h0, h1⟩ | ⟨g, cap, cur, hv, _, _, hc, hm, _⟩
  · injection h0 with _ _ e
    subst e; subst h1
    exact ⟨Nat.le_refl _, Nat.zero_le _⟩
  · injection hv with _ _ e
    subst e
    exact ⟨hc, hm⟩
set_option maxHeartbeats 3200000 in
theorem sealApart_any (w : World) (k : List UInt8) (hk : k.length = 32) (A : Option Addr) (n c : Nat) (l : List UInt8) (hl : l.length = n) (hc : n ≤ c) (hm : c ≤ maxLen) (hr : Rd w.heap.size w A (bv l)) (a : Int) (ha : 0 ≤ a ∧ a ≤ 255) :
    Calls Try.prog 9 #[.agg (bva k), .slice A n c, .int .u8 a] w (RetB (.bool true) w) := by
  obtain ⟨b, rfl⟩ : ∃ b : UInt8, a = (b.toNat : Int) := ⟨UInt8.ofNat a.toNat, by rw [UInt8.toNat_ofNat']; omega⟩
  have HL := Lib.hid hl
  have HR := Lib.hid hr
  have HK := Lib.hid hk
  have HI : Hid ((Try.prog.info? 30).map (·.size) = some (bva k).size) := by rw [bva_size, hk]; exact info33
  have b1 : Blk (w.alloc (.cells (bva k) 30)) w.heap.size (bva k) 30 := heap_alloc_new _ _
  have bb : Below w.heap.size w (w.alloc (.cells (bva k) 30)) := (Below.refl _ _).alloc (Nat.le_refl _) _
  have B1 := Lib.hid b1
  have BB := Lib.hid bb
  clear hl hr hk b1 bb ha
  have hz : ∀ W, (zeroValue 34).run Try.prog W = .ok (.agg (bva zeroSum)) W := fun _ => by kernel_rfl
  obtain ⟨s0, hs0⟩ : ∃ s0, s0 = zeroSum.set 0 b := ⟨_, rfl⟩
  have HS0 : Hid (s0.length = 16) := by show _ = _; rw [hs0]; rfl
  have hb0 : (bva zeroSum).setIfInBounds 0 (.int .u8 (b.toNat : Int)) = bva s0 := by rw [hs0]; exact bva_set zeroSum 0 b
  have HB0 := Lib.hid hb0
  obtain ⟨x, hx⟩ : ∃ x, x = sealL k l := ⟨_, rfl⟩
  have hx16 : x.length = 16 := by rw [hx]; exact sealL_length k l
  have heq := eq_sum x hx16
  have HX16 := Lib.hid hx16
  have HXI : Hid ((Try.prog.info? 34).map (·.size) = some (bva x).size) := by rw [bva_size, hx16]; exact info_sum
  have HX := Lib.hid hx
  obtain ⟨y, hy⟩ : ∃ y, y = chainL s0 l := ⟨_, rfl⟩
  have hy16 : y.length = 16 := by rw [hy]; exact chainL_length s0 l
  have heqy := eq_sum y hy16
  have HY16 := Lib.hid hy16
  have HYI : Hid ((Try.prog.info? 34).map (·.size) = some (bva y).size) := by rw [bva_size, hy16]; exact info_sum
  have HY := Lib.hid hy
  clear hx hx16 hy hy16 hs0
  by_cases hn : n ≤ 200
  · have hn' : decide (200 < (n : Int)) = false := by simp; omega
    go_enter Try.func9, Try.ntmps9
    go_wp2_with fail
    refine (seAwake_any _).mono ?_
    rintro e w1 ⟨rfl, bw⟩
    have C1 := Lib.hid (B1.out.below bw)
    have CB := Lib.hid (BB.out.trans (bw.mono BB.out.size))
    clear bw B1 BB
    go_wp2_with (first
      | (at_builtin
         refine wpList_app _ (by rfl) (.tmp 16) (.tmp 17) _ rfl bytesElt (base := w1.heap.size) (v := .slice (some ⟨w1.heap.size, 0, none⟩) 0 0) rfl (World.ownsRow_lit w1 #[] 0 (Nat.le_refl _) (Nat.zero_le _) rfl) (m := n) rfl ((HR.out.below CB.out).below ((Below.refl _ _).alloc CB.out.size _)) ((bv_length l).trans HL.out) (bv_one _) ?_ ?_ ?_
         · omega
         · simp
         intro A2 c2 wa ho2 hg2 _
         have hsw := CB.out.size
         have hb2 := app_below (CB.out.alloc hsw _) (World.ownsRow_lit w1 #[] 0 (Nat.le_refl _) (Nat.zero_le _) rfl) hg2 hsw (by simp; omega)
         have hbk := blk_apart (C1.out.below ((Below.refl _ _).alloc (Nat.le_refl _) _)) hg2 (by have := C1.out.lt; simp [Value.ownBlock]; omega)
         have ho3 := own_eq ho2 (n' := n) (by omega) (xs' := bv l) rfl
         have D1 := Lib.hid hbk
         have DB := Lib.hid hb2
         have DO := Lib.hid ho3
         have hkl := C1.out.lt
         have HWA : Hid (w1.heap.size ≤ wa.heap.size) := by show _ ≤ _; have := hg2.size; simp at this; omega
         clear ho2 ho3 hg2 hb2 hbk C1 CB)
      | (refine wpList_load_row rfl 30 (.tmp 3) rfl w.heap.size rfl 30 (bva k) (0, 0) _ D1.out Try.underlying30 rfl HI.out ?_))
    obtain ⟨hc2, hm2⟩ := own_cap' DO.out
    refine (seal_any k HK.out A2 n c2 l _ HL.out hc2 hm2 (Rd.own DO.out) (by omega)).mono ?_
    rintro e wb ⟨rfl, bw⟩
    rw [← HX.out]
    have E1 := Lib.hid (D1.out.below bw)
    have EO := Lib.hid (own_below DO.out bw)
    have EB := Lib.hid (DB.out.trans (bw.mono DB.out.size))
    clear bw D1 DO DB
    go_wp2_with fail
    refine (chain_any s0 HS0.out A2 n c2 l _ HL.out hc2 hm2 (Rd.own EO.out) (by omega)).mono ?_
    rintro e wc ⟨rfl, bw⟩
    rw [← HY.out]
    have F1 := Lib.hid (E1.out.below bw)
    have FO := Lib.hid (own_below EO.out bw)
    have FB := Lib.hid (EB.out.trans (bw.mono EB.out.size))
    clear bw E1 EO EB
    go_wp2_with (first
      | (refine wpList_store_row rfl 34 (.tmp 8) (.tmp 21) rfl wc.heap.size (bva x) rfl rfl 34 (bva zeroSum) (heap_alloc2_old _ _ _) HXI.out (by rw [bva_size, bva_size, HX16.out]; rfl) (bva_one _) ?_)
      | (refine wpList_store_row rfl 34 (.tmp 9) (.tmp 25) rfl (wc.heap.size + 1) (bva y) rfl rfl 34 (bva zeroSum) (by rw [setRow_other _ _ _ _ (by omega)]; exact heap_alloc2_new _ _ _) HYI.out (by rw [bva_size, bva_size, HY16.out]; rfl) (bva_one _) ?_
         generalize hwd : World.setRow _ _ _ = wd
         have q1 : Blk wd wc.heap.size (bva x) 34 := by
           rw [← hwd]; unfold Blk; rw [setRow_other _ _ _ _ (by omega)]; exact setRow_heap _ _ _ _ _ _ (heap_alloc2_old _ _ _)
         have q2 : Blk wd (wc.heap.size + 1) (bva y) 34 := by
           rw [← hwd]; exact setRow_heap _ _ _ _ _ _ (by rw [setRow_other _ _ _ _ (by omega)]; exact heap_alloc2_new _ _ _)
         have qb : Below wc.heap.size wc wd := by
           rw [← hwd]; exact below_setRow (below_setRow (((Below.refl _ _).alloc (Nat.le_refl _) _).alloc (by simp) _) (Nat.le_refl _) _) (Nat.le_succ _) _
         have G1 := Lib.hid (F1.out.below qb)
         have GO := Lib.hid (own_below FO.out qb)
         have GB := Lib.hid (FB.out.trans (qb.mono FB.out.size))
         have GX := Lib.hid q1
         have GY := Lib.hid q2
         have HOL : Hid (∀ g, (Value.slice A2 n c2).ownBlock = some g → w1.heap.size ≤ g ∧ g < wc.heap.size) := fun g hg => ⟨(FO.out.lt g hg).1, (FO.out.lt g hg).2⟩
         have kc1 := conv_rd (c := c) Try.underlying28 Try.underlying5 Try.underlying9 (HR.out.below GB.out) HL.out
         have kc2 := conv_rd (c := c2) Try.underlying28 Try.underlying5 Try.underlying9 (Rd.own GO.out) HL.out
         obtain ⟨SS, hSS⟩ : ∃ SS : ByteArray, SS = ⟨l.toArray⟩ := ⟨_, rfl⟩
         rw [← hSS] at kc1 kc2
         clear hSS q1 q2 qb hwd F1 FO FB))
    have HGO : Hid (0 < n → ∃ g cur, A2 = some ⟨g, 0, none⟩ ∧ w1.heap.size ≤ g ∧ g < wc.heap.size ∧ Blk wd g cur 5 ∧ n ≤ cur.size) := fun h0 => by
      rcases GO.out.2 with ⟨_, h1⟩ | ⟨g, cap, cur, hv, hb, hg, hcp, _, hs, _⟩
      · omega
      · injection hv with e1 e2 e3
        subst e1
        exact ⟨g, cur, rfl, hb, (HOL.out g rfl).2, hg, by omega⟩
    clear kc1 kc2 GO
    go_loopw [10] (fun i wr => ∃ j : Nat, j ≤ n ∧ i = .int .i64 j ∧ Blk wr w.heap.size (bva k) 30 ∧ Blk wr wc.heap.size (bva x) 34 ∧ Blk wr (wc.heap.size + 1) (bva y) 34 ∧ Below w.heap.size w wr ∧ Hid (0 < n → ∃ g cur, A2 = some ⟨g, 0, none⟩ ∧ w1.heap.size ≤ g ∧ g < wc.heap.size ∧ Blk wr g cur 5 ∧ n ≤ cur.size)) (fun i _ => n - (intOf i).toNat)
    case atStart => exact ⟨0, Nat.zero_le _, rfl, G1.out, GX.out, GY.out, GB.out, HGO⟩
    case round =>
      clear G1 GX GY GB HGO
      obtain ⟨j, hj, rfl, R1, R2, R3, RB, HGO⟩ := hrel
      have G1 := Lib.hid R1
      have GX := Lib.hid R2
      have GY := Lib.hid R3
      have GB := Lib.hid RB
      by_cases hlt : j < n
      · obtain ⟨g, cur, hA, hg1, hg2, hcur, hsz⟩ := HGO.out (by omega)
        obtain ⟨v, hv⟩ : ∃ v, cur[j]? = some v := ⟨_, Array.getElem?_eq_getElem (by omega)⟩
        have C1 := (hcur.cell j).trans hv
        have C2 := hcur.free j
        have j0 : (0 : Int) ≤ (j : Int) := by omega
        have j1 : (j : Int) < (n : Int) := by omega
        have gk : w.heap.size ≠ g := by omega
        have gx : wc.heap.size ≠ g := by omega
        have gy : wc.heap.size + 1 ≠ g := by omega
        have gb : w.heap.size ≤ g := by omega
        have HC := Lib.hid hcur
        subst hA
        clear hv hcur R1 R2 R3 RB HGO
        go_wp2
        go_roundw
        case rel => exact ⟨j + 1, by omega, by go_num, G1.out.other gk _ _, GX.out.other gx _ _, GY.out.other gy _ _, GB.out.setCell (p := ⟨g, j, none⟩) gb _, fun _ => ⟨g, _, rfl, hg1, hg2, heap_setCell_same _ _ _ _ _ _ HC.out, by rw [Array.size_setIfInBounds]; exact hsz⟩⟩
        case measure => (simp [intOf]; try omega)
      · obtain rfl : j = n := by omega
        have HS1 := Lib.hid (show Blk wr.drew w.heap.size (bva k) 30 ∧ Blk wr.drew wc.heap.size (bva x) 34 ∧ Blk wr.drew (wc.heap.size + 1) (bva y) 34 ∧ Below w.heap.size w wr.drew from ⟨R1, R2, R3, RB.drew⟩)
        clear R1 R2 R3 RB HGO G1 GX GY GB
        go_wp2_with fail
        refine wp_region_held_drew (S := fun w' => Blk w' w.heap.size (bva k) 30 ∧ Blk w' wc.heap.size (bva x) 34 ∧ Blk w' (wc.heap.size + 1) (bva y) 34 ∧ Below w.heap.size w w') (by kernel_rfl) HS1.out (fun hh => ?_)
        have HH := Lib.hid hh
        clear hh
        refine wpAnyH_take (i := 0) (v := .agg (bva x)) rfl (by kernel_rfl) (by kernel_rfl) (by kernel_rfl) (fun _ _ _ h => h) (Or.inl ⟨by rfl, fun w' hw' => ?ya0⟩) HH.out ?_
        case ya0 => exact exec_load 34 (.tmp 8) rfl rfl hw'.2.1 Try.underlying34 rfl HXI.out
        refine wpAnyH_take (i := 1) (v := .agg (bva k)) rfl (by kernel_rfl) (by kernel_rfl) (by kernel_rfl) (fun _ _ _ h => h) (Or.inl ⟨by rfl, fun w' hw' => ?ya1⟩) HH.out ?_
        case ya1 => exact exec_load 30 (.tmp 3) rfl rfl hw'.1 Try.underlying30 rfl HI.out
        try simp only [List.getElem_toArray, List.getElem_cons_succ, List.getElem_cons_zero, Act.put, List.setIfInBounds_toArray, List.set_cons_zero, List.set_cons_succ]
        refine wpAnyH_take (i := 2) (v := ?va2) rfl (by kernel_rfl) (by kernel_rfl) (by kernel_rfl) (fun _ _ _ h => h) (Or.inl ⟨by rfl, fun w' _ => ?ya2⟩) HH.out ?_
        case ya2 => (go_simp; try with_reducible rfl)
        try simp only [List.getElem_toArray, List.getElem_cons_succ, List.getElem_cons_zero, Act.put, List.setIfInBounds_toArray, List.set_cons_zero, List.set_cons_succ]
        refine wpAnyH_ready (rs := [3]) (by kernel_rfl) (by simp) (AllReadyH.cons rfl (fun K hK => ?_) AllReadyH.nil)
        go_simp
        refine (seal_any k HK.out A j c l _ HL.out hc hm ((HR.out.below HH.out.2.2.2).more HH.out.2.2.2.size) (by omega)).mono ?_
        rintro e w3 ⟨rfl, bw⟩
        rw [← HX.out]
        go_simp
        refine hK.out _ _ ⟨HH.out.1.below bw, HH.out.2.1.below bw, HH.out.2.2.1.below bw, HH.out.2.2.2.trans (bw.mono HH.out.2.2.2.size)⟩ (fun hh => ?_)
        have HH' := Lib.hid hh
        clear hh hK K HH bw
        have HH := Lib.hid HH'.out
        clear HH'
        try simp only [List.getElem_toArray, List.getElem_cons_succ, List.getElem_cons_zero, Act.put, List.setIfInBounds_toArray, List.set_cons_zero, List.set_cons_succ]
        refine wpAnyH_take (i := 4) (v := ?va4) rfl (by kernel_rfl) (by kernel_rfl) (by kernel_rfl) (fun _ _ _ h => h) (Or.inl ⟨by rfl, fun w' _ => ?ya4⟩) HH.out ?_
        case ya4 => (go_simp; try with_reducible rfl)
        try simp only [List.getElem_toArray, List.getElem_cons_succ, List.getElem_cons_zero, Act.put, List.setIfInBounds_toArray, List.set_cons_zero, List.set_cons_succ]
        refine wpAnyH_take (i := 5) (v := ?va5) rfl (by kernel_rfl) (by kernel_rfl) (by kernel_rfl) (fun _ _ _ h => h) (Or.inl ⟨by rfl, fun w' _ => ?ya5⟩) HH.out ?_
        case ya5 => (go_simp; try with_reducible rfl)
        try simp only [List.getElem_toArray, List.getElem_cons_succ, List.getElem_cons_zero, Act.put, List.setIfInBounds_toArray, List.set_cons_zero, List.set_cons_succ]
        refine wpAnyH_take (i := 6) (v := .agg (bva y)) rfl (by kernel_rfl) (by kernel_rfl) (by kernel_rfl) (fun _ _ _ h => h) (Or.inl ⟨by rfl, fun w' hw' => ?ya6⟩) HH.out ?_
        case ya6 => exact exec_load 34 (.tmp 9) rfl rfl hw'.2.2.1 Try.underlying34 rfl HYI.out
        try simp only [List.getElem_toArray, List.getElem_cons_succ, List.getElem_cons_zero, Act.put, List.setIfInBounds_toArray, List.set_cons_zero, List.set_cons_succ]
        refine wpAnyH_take (i := 7) (v := ?va7) rfl (by kernel_rfl) (by kernel_rfl) (by kernel_rfl) (fun _ _ _ h => h) (Or.inl ⟨by rfl, fun w' _ => ?ya7⟩) HH.out ?_
        case ya7 => (go_simp; try with_reducible rfl)
        try simp only [List.getElem_toArray, List.getElem_cons_succ, List.getElem_cons_zero, Act.put, List.setIfInBounds_toArray, List.set_cons_zero, List.set_cons_succ]
        refine wpAnyH_take (i := 8) (v := .agg (bva s0)) rfl (by kernel_rfl) (by kernel_rfl) (by kernel_rfl) (fun _ _ _ h => h) (Or.inl ⟨by rfl, fun w' _ => ?yb8⟩) HH.out ?_
        case yb8 => (go_simp; try with_reducible rfl)
        try simp only [List.getElem_toArray, List.getElem_cons_succ, List.getElem_cons_zero, Act.put, List.setIfInBounds_toArray, List.set_cons_zero, List.set_cons_succ]
        refine wpAnyH_take (i := 9) (v := ?va9) rfl (by kernel_rfl) (by kernel_rfl) (by kernel_rfl) (fun _ _ _ h => h) (Or.inl ⟨by rfl, fun w' _ => ?ya9⟩) HH.out ?_
        case ya9 => (go_simp; try with_reducible rfl)
        try simp only [List.getElem_toArray, List.getElem_cons_succ, List.getElem_cons_zero, Act.put, List.setIfInBounds_toArray, List.set_cons_zero, List.set_cons_succ]
        refine wpAnyH_ready (rs := [10]) (by kernel_rfl) (by simp) (AllReadyH.cons rfl (fun K hK => ?_) AllReadyH.nil)
        go_simp
        refine (chain_any s0 HS0.out A j c l _ HL.out hc hm ((HR.out.below HH.out.2.2.2).more HH.out.2.2.2.size) (by omega)).mono ?_
        rintro e w4 ⟨rfl, bw⟩
        rw [← HY.out]
        go_simp
        refine hK.out _ _ ⟨HH.out.1.below bw, HH.out.2.1.below bw, HH.out.2.2.1.below bw, HH.out.2.2.2.trans (bw.mono HH.out.2.2.2.size)⟩ (fun hh => ?_)
        have HH' := Lib.hid hh
        clear hh hK K HH bw
        have HH := Lib.hid HH'.out
        clear HH'
        try simp only [List.getElem_toArray, List.getElem_cons_succ, List.getElem_cons_zero, Act.put, List.setIfInBounds_toArray, List.set_cons_zero, List.set_cons_succ]
        refine wpAnyH_take (i := 11) (v := ?va11) rfl (by kernel_rfl) (by kernel_rfl) (by kernel_rfl) (fun _ _ _ h => h) (Or.inl ⟨by rfl, fun w' _ => ?ya11⟩) HH.out ?_
        case ya11 => (go_simp; try with_reducible rfl)
        try simp only [List.getElem_toArray, List.getElem_cons_succ, List.getElem_cons_zero, Act.put, List.setIfInBounds_toArray, List.set_cons_zero, List.set_cons_succ]
        refine wpAnyH_take (i := 12) (v := ?va12) rfl (by kernel_rfl) (by kernel_rfl) (by kernel_rfl) (fun _ _ _ h => h) (Or.inl ⟨by rfl, fun w' _ => ?ya12⟩) HH.out ?_
        case ya12 => (go_simp; try with_reducible rfl)
        try simp only [List.getElem_toArray, List.getElem_cons_succ, List.getElem_cons_zero, Act.put, List.setIfInBounds_toArray, List.set_cons_zero, List.set_cons_succ]
        refine wpAnyH_take (i := 13) (v := ?va13) rfl (by kernel_rfl) (by kernel_rfl) (by kernel_rfl) (fun _ _ _ h => h) (Or.inl ⟨by rfl, fun w' _ => ?ya13⟩) HH.out ?_
        case ya13 => (go_simp; try with_reducible rfl)
        try simp only [List.getElem_toArray, List.getElem_cons_succ, List.getElem_cons_zero, Act.put, List.setIfInBounds_toArray, List.set_cons_zero, List.set_cons_succ]
        try simp only [List.getElem_toArray, List.getElem_cons_succ, List.getElem_cons_zero, Act.put, List.setIfInBounds_toArray, List.set_cons_zero, List.set_cons_succ]
        refine wpAnyH_take (i := 14) (v := .agg (bva k)) rfl (by kernel_rfl) (by kernel_rfl) (by kernel_rfl) (fun _ _ _ h => h) (Or.inl ⟨by rfl, fun w' hw' => ?ya14⟩) HH.out ?_
        case ya14 => exact exec_load 30 (.tmp 3) rfl rfl hw'.1 Try.underlying30 rfl HI.out
        try simp only [List.getElem_toArray, List.getElem_cons_succ, List.getElem_cons_zero, Act.put, List.setIfInBounds_toArray, List.set_cons_zero, List.set_cons_succ]
        refine wpAnyH_take (i := 15) (v := ?va15) rfl (by kernel_rfl) (by kernel_rfl) (by kernel_rfl) (fun _ _ _ h => h) (Or.inl ⟨by rfl, fun w' _ => ?ya15⟩) HH.out ?_
        case ya15 => (go_simp; try with_reducible rfl)
        try simp only [List.getElem_toArray, List.getElem_cons_succ, List.getElem_cons_zero, Act.put, List.setIfInBounds_toArray, List.set_cons_zero, List.set_cons_succ]
        try simp only [List.getElem_toArray, List.getElem_cons_succ, List.getElem_cons_zero, Act.put, List.setIfInBounds_toArray, List.set_cons_zero, List.set_cons_succ]
        refine wpAnyH_take (i := 16) (v := .agg (bva x)) rfl (by kernel_rfl) (by kernel_rfl) (by kernel_rfl) (fun _ _ _ h => h) (Or.inl ⟨by rfl, fun w' hw' => ?ya16⟩) HH.out ?_
        case ya16 => exact exec_load 34 (.tmp 8) rfl rfl hw'.2.1 Try.underlying34 rfl HXI.out
        try simp only [List.getElem_toArray, List.getElem_cons_succ, List.getElem_cons_zero, Act.put, List.setIfInBounds_toArray, List.set_cons_zero, List.set_cons_succ]
        refine wpAnyH_ready (rs := [17]) (by kernel_rfl) (by simp) (AllReadyH.cons rfl (fun K hK => ?_) AllReadyH.nil)
        go_simp
        refine (right_any k x HK.out HX16.out A j c l _ HL.out hc hm ((HR.out.below HH.out.2.2.2).more HH.out.2.2.2.size) (by omega)).mono ?_
        rintro e w5 ⟨rfl, bw⟩
        rw [← HX.out, decide_eq_true (rfl : x = x)]
        go_simp
        refine hK.out _ _ ⟨HH.out.1.below bw, HH.out.2.1.below bw, HH.out.2.2.1.below bw, HH.out.2.2.2.trans (bw.mono HH.out.2.2.2.size)⟩ (fun hh => ?_)
        have HH' := Lib.hid hh
        clear hh hK K HH bw
        have HH := Lib.hid HH'.out
        clear HH'
        try simp only [List.getElem_toArray, List.getElem_cons_succ, List.getElem_cons_zero, Act.put, List.setIfInBounds_toArray, List.set_cons_zero, List.set_cons_succ]
        refine wpAnyH_take (i := 18) (v := ?va18) rfl (by kernel_rfl) (by kernel_rfl) (by kernel_rfl) (fun _ _ _ h => h) (Or.inl ⟨by rfl, fun w' _ => ?ya18⟩) HH.out ?_
        case ya18 => (go_simp; try with_reducible rfl)
        try simp only [List.getElem_toArray, List.getElem_cons_succ, List.getElem_cons_zero, Act.put, List.setIfInBounds_toArray, List.set_cons_zero, List.set_cons_succ]
        refine wpAnyH_take (i := 19) (v := ?va19) rfl (by kernel_rfl) (by kernel_rfl) (by kernel_rfl) (fun _ _ _ h => h) (Or.inl ⟨by rfl, fun w' _ => ?ya19⟩) HH.out ?_
        case ya19 => (go_simp; try with_reducible rfl)
        try simp only [List.getElem_toArray, List.getElem_cons_succ, List.getElem_cons_zero, Act.put, List.setIfInBounds_toArray, List.set_cons_zero, List.set_cons_succ]
        refine wpAnyH_done (by kernel_rfl) ?_ _
        go_wp2_with fail
        go_ret
        exact ⟨rfl, HH.out.2.2.2⟩
  · have hn' : decide (200 < (n : Int)) = true := by simp; omega
    go_enter Try.func9, Try.ntmps9
    go_wp2_with fail
    refine (seAwake_any _).mono ?_
    rintro e w1 ⟨rfl, bw⟩
    have CB := Lib.hid (BB.out.trans (bw.mono BB.out.size))
    clear bw B1 BB
    go_wp2_with fail
    go_ret
    exact ⟨rfl, CB.out⟩
theorem sealApart_own : ownKnob Try.prog.godebug = none := by kernel_rfl
theorem sealApart_laid : laidOutB Try.prog = true := by kernel_rfl

set_option maxRecDepth 100000 in
theorem sealApart_lifted (os : Os) (started : os.Started) (H : Type) (enc : TypeId × Value → H) :
    ReturnsInHanded {} Try.checked os 9 .any (Rows.sealApartSpec.pre6 enc Try.prog Try.f9 Rows.sealApartRow.domain false) (Rows.sealApartSpec.post enc Try.prog Try.f9 false true false false) := by
  refine returnsInHanded_of_change (C := Try.checked) sealApart_own started (by kernel_rfl) Try.func9
    (ChangeSpec.witness6 (enc := enc) (C := Try.checked) false ⟨#[], #[.agg #[.int .u8 0, .int .u8 0, .int .u8 0, .int .u8 0, .int .u8 0, .int .u8 0, .int .u8 0, .int .u8 0, .int .u8 0, .int .u8 0, .int .u8 0, .int .u8 0, .int .u8 0, .int .u8 0, .int .u8 0, .int .u8 0, .int .u8 0, .int .u8 0, .int .u8 0, .int .u8 0, .int .u8 0, .int .u8 0, .int .u8 0, .int .u8 0, .int .u8 0, .int .u8 0, .int .u8 0, .int .u8 0, .int .u8 0, .int .u8 0, .int .u8 0, .int .u8 0], .slice none 0 0, .int .u8 0], []⟩ 8 (by kernel_rfl) (by kernel_rfl) (by kernel_rfl) (by kernel_rfl)) ?_
  intro W base args ds gs before hval0 hW _ _
  have hval : ∀ (j : Nat) t v, Try.f9.params[j]? = some t → args[j]? = some v → Value.okWide Try.prog W .any base t v := hval0
  have hW' := hW
  obtain ⟨p, q, hA0, hV, rfl, hfz, hnd⟩ := hW
  have hA : DataW.TrodAll enc Try.prog W 0 (fun _ => true) true Try.f9.params.toList args.toList ds p := hA0
  rw [Try.params9] at hA hval
  obtain ⟨v0, vs0, d0, ds0, p0, q0, hargs, rfl, rfl, h0, r0⟩ := trodAll_cons hA
  obtain ⟨v1, vs1, d1, ds1, p1, q1, rfl, rfl, rfl, h1, r1⟩ := trodAll_cons r0
  obtain ⟨v2, vs2, d2, ds2, p2, q2, rfl, rfl, rfl, h2, r2⟩ := trodAll_cons r1
  obtain ⟨rfl, rfl, rfl⟩ := trodAll_nil r2
  obtain rfl : args = #[v0, v1, v2] := by cases args; simp_all
  obtain ⟨rfl, rfl⟩ := trodVars_none hV
  have lt0 : ∀ x ∈ p0, x.block < W.heap.size := by obtain ⟨m, hm⟩ := h0; exact DataW.trod_lt m _ _ _ hm
  obtain ⟨l0, hl0, rfl⟩ := open_u8s Try.underlying30 Try.underlying5 (by kernel_rfl) (by kernel_rfl) (hval 0 30 v0 rfl rfl) h0
  obtain ⟨a1, n1, c1, rfl⟩ := okWide_slice Try.underlying28 (hval 1 28 v1 rfl rfl)
  have lt1 : ∀ x ∈ p1, x.block < W.heap.size := by obtain ⟨m, hm⟩ := h1; exact DataW.trod_lt m _ _ _ hm
  obtain ⟨l1, hl1, hc1, hm1, hr1⟩ := open_bytes Try.underlying28 Try.underlying5 (by kernel_rfl) h1
  obtain ⟨a2, rfl, rfl, rfl, w2⟩ := open_int Try.underlying5 (hval 2 5 v2 rfl rfl) h2
  have b2 := bounds_u8 w2
  clear hA0 hval0
  refine (sealApart_any W l0 hl0 a1 n1 c1 l1 hl1 hc1 hm1 hr1 a2 b2).mono fun e W' ⟨he, bel⟩ => ?_
  subst he
  exact ⟨_, rfl, _, _, _, [], _, [], hW', trodAll_mk1 (shut_bool Try.underlying4 _), (trodAll_cons_mk (Below.trod sealApart_laid (by kernel_rfl) (of_decide_eq_true (by kernel_rfl)) h0 bel lt0) (trodAll_cons_mk (Below.trod sealApart_laid (by kernel_rfl) (of_decide_eq_true (by kernel_rfl)) h1 bel lt1) (trodAll_cons_mk (shut_int Try.underlying5 w2) trodAll_mk0))), rfl, bel.frame _, fun h => by cases h⟩

theorem sealApart_holds : Rows.SealApartSaid :=
  OpenClaim.holds_of_wide 9 Try.f9 rfl rfl rfl rfl rfl rfl rfl ⟨rfl, rfl, rfl, rfl, rfl⟩ rfl rfl rfl rfl rfl (by kernel_rfl) Try.func9 (by kernel_rfl)
    (of_decide_eq_true (by kernel_rfl)) (by unfold Func.isWrapper; rw [if_neg (of_decide_eq_false (by kernel_rfl))]; exact ⟨rfl, rfl⟩)
    (fun os started H enc _ => sealApart_lifted os started H enc)

#print axioms sealApart_holds

end Go.Proofs.Ytdemfaolkmillaa
