/-
  SealInner holds: of every key and bytes the law returns true, and its arguments read as they did.
-/
import Derived.Test.YtdemfaolkmillaaSeAwake
import Derived.Test.YtdemfaolkmillaaOld
import Derived.Test.YtdemfaolkmillaaOpen
import Derived.Test.YtdemfaolkmillaaOpenA
import Derived.ProofKit
import Derived.OpenShut
import Derived.ShutString
import Derived.ChangeOld
namespace Go.Proofs.Ytdemfaolkmillaa
open Go.RowKit Go.ChangeShapes Go.WideShapes Go.ChangeAt
attribute [local go_sem ↓] Go.wp_at_zero Go.wp_at_succ
theorem bytesElt : Elt Try.prog 28 5 (.int .u8 0) 1 := ⟨Try.underlying28, by kernel_rfl, rfl, by omega⟩
set_option maxHeartbeats 3200000 in
theorem sealInner_any (w : World) (k : List UInt8) (hk : k.length = 32) (A : Option Addr) (n c : Nat) (l : List UInt8) (hl : l.length = n) (hc : n ≤ c) (hm : c ≤ maxLen) (hr : Rd w.heap.size w A (bv l)) :
    Calls Try.prog 7 #[.agg (bva k), .slice A n c] w (RetB (.bool true) w) := by
  have HL := Lib.hid hl
  have HR := Lib.hid hr
  have HK := Lib.hid hk
  have b1 : Blk (w.alloc (.cells (bva k) 30)) w.heap.size (bva k) 30 := heap_alloc_new _ _
  have bb : Below w.heap.size w (w.alloc (.cells (bva k) 30)) := (Below.refl _ _).alloc (Nat.le_refl _) _
  have B1 := Lib.hid b1
  have BB := Lib.hid bb
  clear hl hr hk b1 bb
  by_cases hn : n ≤ 200
  · have hn' : decide (200 < (n : Int)) = false := by simp; omega
    go_enter Try.func7, Try.ntmps7
    go_wp2_with fail
    refine (seAwake_any _).mono ?_
    rintro e w1 ⟨rfl, bw⟩
    have B2 := Lib.hid (B1.out.below bw)
    have BC := Lib.hid (BB.out.trans (bw.mono BB.out.size))
    clear bw B1 BB
    have hz30 : ∀ W, (zeroValue 30).run Try.prog W = .ok (.agg (bva (List.replicate 32 0))) W := fun _ => by kernel_rfl
    have hz34 : ∀ W, (zeroValue 34).run Try.prog W = .ok (.agg (bva (List.replicate 16 0))) W := fun _ => by kernel_rfl
    go_wp2_with (first
      | (at_builtin
         refine wpList_app _ (by rfl) (.tmp 14) (.tmp 15) _ rfl bytesElt (base := w1.heap.size) (v := .slice (some ⟨w1.heap.size, 0, none⟩) 0 0) rfl (World.ownsRow_lit w1 #[] 0 (Nat.le_refl _) (Nat.zero_le _) rfl) (m := 32) rfl (rd_cells (B2.out.below ((Below.refl _ _).alloc (Nat.le_refl _) _))) ((bv_length k).trans HK.out) (bv_one _) ?_ ?_ ?_
         · omega
         · simp
         intro A2 c2 wa ho2 hg2 _
         have hsw := BC.out.size
         have hb2 := app_below (BC.out.alloc hsw _) (World.ownsRow_lit w1 #[] 0 (Nat.le_refl _) (Nat.zero_le _) rfl) hg2 hsw (by simp; omega)
         have hsz2 : w1.heap.size ≤ wa.heap.size := by have := hg2.size; simp at this; omega
         have BK := Lib.hid (show Blk wa w.heap.size (bva k) 30 from by unfold Blk; rw [hg2.block _ (by have := B2.out.lt; simp; omega) (by have := B2.out.lt; simp [Value.ownBlock]; omega)]; exact B2.out.below ((Below.refl _ _).alloc (Nat.le_refl _) _))
         have ho3 := own_eq ho2 (n' := 32) (by omega) (xs' := bv k) rfl
         have O2 := Lib.hid ho3
         have BA := Lib.hid hb2
         clear ho2 ho3 hg2 hb2)
      | (at_builtin
         refine wpList_app _ (by rfl) (.tmp 16) (.tmp 17) _ rfl bytesElt (base := w1.heap.size) (v := .slice A2 32 c2) rfl O2.out (m := n) rfl (HR.out.below BA.out) ((bv_length l).trans HL.out) (bv_one _) ?_ ?_ ?_
         · omega
         · exact hsz2
         intro A3 c3 wb ho4 hg4 _
         have hb4 := app_below BA.out O2.out hg4 hsw BA.out.size
         have ho5 := own_eq ho4 rfl (xs' := bv (k ++ l)) (by rw [bv_append])
         have hlb := B2.out.lt
         have BKb := Lib.hid (show Blk wb w.heap.size (bva k) 30 from by unfold Blk; rw [hg4.block _ BK.out.lt (by intro e; have h2 := O2.out.lt _ e.symm; omega)]; exact BK.out)
         have O3 := Lib.hid ho5
         have BAb := Lib.hid hb4
         clear ho4 ho5 hg4 hb4 BK O2 BA))
    obtain ⟨m, hm0⟩ : ∃ m, m = shaL (k ++ l) := ⟨_, rfl⟩
    have HM : Hid (m.length = 32) := by show _ = _; rw [hm0]; exact shaL_length _
    have HM0 := Lib.hid hm0
    have HJ : Hid ((Try.prog.info? 30).map (·.size) = some (bva m).size) := by rw [bva_size, HM.out]; exact info33
    clear hm0
    refine (sum_any A3 (32 + n) c3 (k ++ l) _ (by rw [List.length_append, HK.out, HL.out]) (Nat.le_refl _) (Rd.own O3.out) (by omega)).mono ?_
    rintro e w2 ⟨rfl, bw⟩
    rw [← HM0.out]
    have C1 := Lib.hid (BKb.out.below bw)
    have CB := Lib.hid (BAb.out.trans (bw.mono BAb.out.size))
    clear bw BKb BAb O3 B2 BC hlb hsz2 hsw
    go_wp2_with (refine wpList_store_row rfl 30 (.tmp 5) (.tmp 19) rfl w2.heap.size (bva m) rfl rfl 30 (bva (List.replicate 32 0)) (heap_alloc_new _ _) HJ.out (by rw [bva_size, bva_size, HM.out]; rfl) (bva_one _) ?_
                 generalize hw3 : World.setRow _ _ _ = w3
                 have d1 : Blk w3 w.heap.size (bva k) 30 := by rw [← hw3]; exact blk_past C1.out
                 have d3 : Blk w3 w2.heap.size (bva m) 30 := by rw [← hw3]; exact blk_new _
                 have db : Below w.heap.size w w3 := by rw [← hw3]; exact below_new CB.out CB.out.size
                 have D1 := Lib.hid d1
                 have D3 := Lib.hid d3
                 have DB := Lib.hid db
                 clear d1 d3 db hw3 C1 CB)
    obtain ⟨o, ho0⟩ : ∃ o, shaL (k ++ m) = o := ⟨_, rfl⟩
    have HO : Hid (o = shaL (k ++ m)) := ho0.symm
    have HO32 : Hid (o.length = 32) := by show _ = _; rw [← ho0]; exact shaL_length _
    have HJO : Hid ((Try.prog.info? 30).map (·.size) = some (bva o).size) := by rw [bva_size, HO32.out]; exact info33
    clear ho0
    have HJK : Hid ((Try.prog.info? 30).map (·.size) = some (bva k).size) := by rw [bva_size, HK.out]; exact info33
    have hdr : w3.drew.heap.size = w3.heap.size := rfl
    refine wp_region_any (by kernel_rfl) ?_
    change wpAny _ _ _ _ _ _ _ (World.drew _)
    refine wpAny_take (i := 1) (v := ?v1) rfl (by kernel_rfl) (by kernel_rfl) (by kernel_rfl) (fun _ _ _ h => h) (Or.inl ⟨by rfl, ?y1⟩) ?_
    case y1 => (intro w'; go_simp; try with_reducible rfl)
    refine wpAny_take (i := 3) (v := ?v3) rfl (by kernel_rfl) (by kernel_rfl) (by kernel_rfl) (fun _ _ _ h => h) (Or.inl ⟨by rfl, ?y3⟩) ?_
    case y3 => (intro w'; go_simp; try with_reducible rfl)
    have Y0 : Hid (Below w3.heap.size w3 w3.drew) := (Below.refl _ _).drew
    try simp only [List.getElem_toArray, List.getElem_cons_succ, List.getElem_cons_zero, Act.put, List.setIfInBounds_toArray, List.set_cons_zero, List.set_cons_succ]
    refine wpAny_ready (rs := [0, 6]) (by kernel_rfl) (by simp) (AllReady.cons rfl (fun K hK => ?_) (AllReady.cons rfl (fun K hK => ?_) AllReady.nil))
    · skip
      go_simp
      refine hK _ _ ?_
      clear hK K
      have Y1 : Hid (Below w3.heap.size w3 (World.alloc w3.drew (.cells #[] 5))) := Y0.out.alloc Y0.out.size _
      have O1 : Hid (World.ownsRow (World.alloc w3.drew (.cells #[] 5)) w3.heap.size 5 1 (.slice (some ⟨w3.heap.size, 0, none⟩) 0 0) 0 (bv [])) := by
        have h := World.ownsRow_lit (base := w3.heap.size) (size := 1) (e := 5) w3.drew #[] 0 Y0.out.size (Nat.zero_le _) rfl
        rw [show w3.drew.heap.size = w3.heap.size from rfl] at h
        exact h
      try simp only [List.getElem_toArray, List.getElem_cons_succ, List.getElem_cons_zero, Act.put, List.setIfInBounds_toArray, List.set_cons_zero, List.set_cons_succ]
      refine wpAny_ready (rs := [2, 6]) (by kernel_rfl) (by simp) (AllReady.cons rfl (fun K hK => ?_) (AllReady.cons rfl (fun K hK => ?_) AllReady.nil))
      · skip
        refine step_app _ (by rfl) (.tmp 20) (.tmp 21) _ rfl bytesElt (base := w3.heap.size) (v := .slice (some ⟨w3.heap.size, 0, none⟩) 0 0) rfl O1.out (m := 32) rfl (rd_cells (D1.out.below (Y1.out))) ((bv_length k).trans HK.out) (bv_one _) ?_ ?_ ?_
        · omega
        · exact Y1.out.size
        intro Aa2 ca2 wa2 ho hg hor
        have Y2 := Lib.hid (app_below Y1.out O1.out hg (Nat.le_refl _) Y1.out.size)
        have O2 := Lib.hid (own_eq ho (n' := 32) (by omega) (xs' := bv (k)) rfl)
        clear ho hg hor O1 Y1
        refine hK _ _ ?_
        clear hK K
        try simp only [List.getElem_toArray, List.getElem_cons_succ, List.getElem_cons_zero, Act.put, List.setIfInBounds_toArray, List.set_cons_zero, List.set_cons_succ]
        refine wpAny_ready (rs := [4, 6]) (by kernel_rfl) (by simp) (AllReady.cons rfl (fun K hK => ?_) (AllReady.cons rfl (fun K hK => ?_) AllReady.nil))
        · skip
          refine step_app _ (by rfl) (.tmp 22) (.tmp 23) _ rfl bytesElt (base := w3.heap.size) (v := .slice Aa2 32 ca2) rfl O2.out (m := 32) rfl (rd_cells (D3.out.below (Y2.out))) ((bv_length m).trans HM.out) (bv_one _) ?_ ?_ ?_
          · omega
          · exact Y2.out.size
          intro Aa3 ca3 wa3 ho hg hor
          have Y3 := Lib.hid (app_below Y2.out O2.out hg (Nat.le_refl _) Y2.out.size)
          have O3 := Lib.hid (own_eq ho (n' := 64) (by omega) (xs' := bv (k ++ m)) (by rw [bv_append]))
          clear ho hg hor O2 Y2
          refine hK _ _ ?_
          clear hK K
          try simp only [List.getElem_toArray, List.getElem_cons_succ, List.getElem_cons_zero, Act.put, List.setIfInBounds_toArray, List.set_cons_zero, List.set_cons_succ]
          refine wpAny_ready (rs := [5, 6]) (by kernel_rfl) (by simp) (AllReady.cons rfl (fun K hK => ?_) (AllReady.cons rfl (fun K hK => ?_) AllReady.nil))
          · skip
            go_simp
            refine (sum_any Aa3 64 ca3 (k ++ m) _ (by rw [List.length_append, HK.out, HM.out]) (Nat.le_refl _) (Rd.own O3.out) (by omega)).mono ?_
            rintro e wb4 ⟨rfl, bw⟩
            rw [← HO.out]
            have Y4 := Lib.hid (Y3.out.trans (bw.mono Y3.out.size))
            clear bw O3 Y3
            go_simp
            refine hK _ _ ?_
            clear hK K
            try simp only [List.getElem_toArray, List.getElem_cons_succ, List.getElem_cons_zero, Act.put, List.setIfInBounds_toArray, List.set_cons_zero, List.set_cons_succ]
            refine wpAny_ready (rs := [6]) (by kernel_rfl) (by simp) (AllReady.cons rfl (fun K hK => ?_) AllReady.nil)
            · skip
              go_simp
              refine hK _ _ ?_
              clear hK K
              have T5 : Hid (Blk (World.alloc wb4 (.cells (bva (List.replicate 32 0)) 30)) (wb4.heap.size) (bva (List.replicate 32 0)) 30) := heap_alloc_new _ _
              have Y5 : Hid (Below w3.heap.size w3 (World.alloc wb4 (.cells (bva (List.replicate 32 0)) 30))) := Y4.out.alloc Y4.out.size _
              have hz5 : w3.heap.size ≤ wb4.heap.size := by have := Y4.out.size; (try simp at this); omega
              try simp only [List.getElem_toArray, List.getElem_cons_succ, List.getElem_cons_zero, Act.put, List.setIfInBounds_toArray, List.set_cons_zero, List.set_cons_succ]
              refine wpAny_ready (rs := [7]) (by kernel_rfl) (by simp) (AllReady.cons rfl (fun K hK => ?_) AllReady.nil)
              rw [if_pos (by rfl)]
              refine wp_store_row 30 (.tmp 6) (.tmp 25) rfl (wb4.heap.size) (bva o) rfl rfl 30 (bva (List.replicate 32 0)) T5.out HJO.out (by rw [bva_size, bva_size, HO32.out]; rfl) (bva_one _) ?_
              generalize hw9 : World.setRow _ _ _ = w9
              have hzz : w3.heap.size ≤ (wb4.heap.size) := hz5
              have y1 : Blk w9 w.heap.size (bva k) 30 := by rw [← hw9]; unfold Blk; rw [setRow_other _ _ _ _ (by have := D1.out.lt; omega)]; exact D1.out.below Y5.out
              have y2 : Blk w9 (wb4.heap.size) (bva o) 30 := by rw [← hw9]; exact setRow_heap _ _ _ _ _ _ T5.out
              have y3 : Below w.heap.size w w9 := by rw [← hw9]; exact below_setRow (DB.out.trans (Y5.out.mono DB.out.size)) (Nat.le_trans DB.out.size hzz) _
              obtain ⟨z, hz⟩ : ∃ z, z = (wb4.heap.size) := ⟨_, rfl⟩
              rw [← hz] at y2
              have Z1 := Lib.hid y1
              have Z2 := Lib.hid y2
              have Z3 := Lib.hid y3
              clear y1 y2 y3 hw9 hzz T5 Y5
              refine hK _ _ ?_
              clear hK K
              refine wpAny_done (by kernel_rfl) ?_ _
              simp only [← hz]
              clear hz D1 D3 DB
              go_wp2_with (refine wpList_load_row rfl 30 (.tmp 2) rfl w.heap.size rfl 30 (bva k) (0, 0) _ Z1.out Try.underlying30 rfl HJK.out ?_)
              refine (seal_any k HK.out A n c l _ HL.out hc hm ((HR.out.below Z3.out).more Z3.out.size) (by omega)).mono ?_
              rintro e wc ⟨rfl, bw⟩
              obtain ⟨x, hx⟩ : ∃ x, sealL k l = x := ⟨_, rfl⟩
              have HX : Hid (x = o.take 16) := by show _ = _; rw [← hx, sealL, HO.out, HM0.out]
              have HX16 : Hid (x.length = 16) := by show _ = _; rw [← hx]; exact sealL_length _ _
              have HJX : Hid ((Try.prog.info? 34).map (·.size) = some (bva x).size) := by rw [bva_size, HX16.out]; exact info_sum
              rw [hx]
              have C2 := Lib.hid (Z2.out.below bw)
              have C3 := Lib.hid (Z3.out.trans (bw.mono Z3.out.size))
              clear hx bw Z1 Z2 Z3
              go_wp2_with (refine wpList_store_row rfl 34 (.tmp 7) (.tmp 28) rfl wc.heap.size (bva x) rfl rfl 34 (bva (List.replicate 16 0)) (heap_alloc_new _ _) HJX.out (by rw [bva_size, bva_size, HX16.out]; rfl) (bva_one _) ?_
                           generalize hwd : World.setRow _ _ _ = wd
                           have d1 : Blk wd z (bva o) 30 := by rw [← hwd]; exact blk_past C2.out
                           have d2 : Blk wd wc.heap.size (bva x) 34 := by rw [← hwd]; exact blk_new _
                           have d3 : Below w.heap.size w wd := by rw [← hwd]; exact below_new C3.out C3.out.size
                           have D1 := Lib.hid d1
                           have D2 := Lib.hid d2
                           have D3 := Lib.hid d3
                           clear d1 d2 d3 hwd C2 C3)
              go_loopw [8] (fun i wr => ∃ j : Nat, j ≤ 16 ∧ i = .int .i64 j ∧ Blk wr z (bva o) 30 ∧ Blk wr wc.heap.size (bva x) 34 ∧ Below w.heap.size w wr) (fun i _ => 16 - (intOf i).toNat)
              case atStart => exact ⟨0, by omega, rfl, D1.out, D2.out, D3.out⟩
              case round =>
                clear D1 D2 D3
                obtain ⟨j, hj, rfl, E1, E2, hbel⟩ := hrel
                by_cases hlt : j < 16
                · have j0 : (0 : Int) ≤ (j : Int) := by omega
                  have j1 : (j : Int) < 16 := by omega
                  have j2 : (j : Int) < 32 := by omega
                  obtain ⟨v, hv⟩ : ∃ v, v = o.getD j 0 := ⟨_, rfl⟩
                  have hxv : x.getD j 0 = v := by rw [HX.out, hv, List.getD_eq_getElem?_getD, List.getD_eq_getElem?_getD, List.getElem?_take, if_pos hlt]
                  have C1 := E1.cellb (k := j) (by rw [HO32.out]; omega)
                  have C2 := E2.cellb (k := j) (by rw [HX16.out]; omega)
                  rw [hxv] at C2
                  rw [← hv] at C1
                  have F1 := Lib.hid E1
                  have F2 := Lib.hid E2
                  clear hv hxv E1 E2
                  go_wp2
                  go_quiet (fail)
                  go_wp2
                  go_roundw
                  case rel => exact ⟨j + 1, by omega, by go_num, F1.out, F2.out, below_drewN' hbel _⟩
                  case measure => simp [intOf]; omega
                · obtain rfl : j = 16 := by omega
                  clear E1 E2
                  go_wp2
                  go_ret
                  exact ⟨rfl, hbel⟩
          · skip
            go_simp
            refine hK _ _ ?_
            clear hK K
            have T6 : Hid (Blk (World.alloc wa3 (.cells (bva (List.replicate 32 0)) 30)) (wa3.heap.size) (bva (List.replicate 32 0)) 30) := heap_alloc_new _ _
            have Y6 : Hid (Below w3.heap.size w3 (World.alloc wa3 (.cells (bva (List.replicate 32 0)) 30))) := Y3.out.alloc Y3.out.size _
            have hz6 : w3.heap.size ≤ wa3.heap.size := by have := Y3.out.size; (try simp at this); omega
            have O6 := Lib.hid (own_below O3.out (w' := (World.alloc wa3 (.cells (bva (List.replicate 32 0)) 30))) ((Below.refl _ _).alloc (Nat.le_refl _) _))
            have N6 : Hid (∀ j, (Value.slice Aa3 64 ca3).ownBlock = some j → j ≠ wa3.heap.size) := fun j hj => by have := (O3.out.lt j hj).2; (try simp at this); omega
            try simp only [List.getElem_toArray, List.getElem_cons_succ, List.getElem_cons_zero, Act.put, List.setIfInBounds_toArray, List.set_cons_zero, List.set_cons_succ]
            refine wpAny_ready (rs := [5]) (by kernel_rfl) (by simp) (AllReady.cons rfl (fun K hK => ?_) AllReady.nil)
            · skip
              go_simp
              refine (sum_any Aa3 64 ca3 (k ++ m) _ (by rw [List.length_append, HK.out, HM.out]) (Nat.le_refl _) (Rd.own O6.out) (by omega)).mono ?_
              rintro e wb7 ⟨rfl, bw⟩
              rw [← HO.out]
              have Y7 := Lib.hid (Y6.out.trans (bw.mono Y6.out.size))
              have T7 := Lib.hid (T6.out.below bw)
              clear bw O6 Y6 N6 T6
              go_simp
              refine hK _ _ ?_
              clear hK K
              try simp only [List.getElem_toArray, List.getElem_cons_succ, List.getElem_cons_zero, Act.put, List.setIfInBounds_toArray, List.set_cons_zero, List.set_cons_succ]
              refine wpAny_ready (rs := [7]) (by kernel_rfl) (by simp) (AllReady.cons rfl (fun K hK => ?_) AllReady.nil)
              rw [if_pos (by rfl)]
              refine wp_store_row 30 (.tmp 6) (.tmp 25) rfl (wa3.heap.size) (bva o) rfl rfl 30 (bva (List.replicate 32 0)) T7.out HJO.out (by rw [bva_size, bva_size, HO32.out]; rfl) (bva_one _) ?_
              generalize hw9 : World.setRow _ _ _ = w9
              have hzz : w3.heap.size ≤ (wa3.heap.size) := hz6
              have y1 : Blk w9 w.heap.size (bva k) 30 := by rw [← hw9]; unfold Blk; rw [setRow_other _ _ _ _ (by have := D1.out.lt; omega)]; exact D1.out.below Y7.out
              have y2 : Blk w9 (wa3.heap.size) (bva o) 30 := by rw [← hw9]; exact setRow_heap _ _ _ _ _ _ T7.out
              have y3 : Below w.heap.size w w9 := by rw [← hw9]; exact below_setRow (DB.out.trans (Y7.out.mono DB.out.size)) (Nat.le_trans DB.out.size hzz) _
              obtain ⟨z, hz⟩ : ∃ z, z = (wa3.heap.size) := ⟨_, rfl⟩
              rw [← hz] at y2
              have Z1 := Lib.hid y1
              have Z2 := Lib.hid y2
              have Z3 := Lib.hid y3
              clear y1 y2 y3 hw9 hzz T7 Y7
              refine hK _ _ ?_
              clear hK K
              refine wpAny_done (by kernel_rfl) ?_ _
              simp only [← hz]
              clear hz D1 D3 DB
              go_wp2_with (refine wpList_load_row rfl 30 (.tmp 2) rfl w.heap.size rfl 30 (bva k) (0, 0) _ Z1.out Try.underlying30 rfl HJK.out ?_)
              refine (seal_any k HK.out A n c l _ HL.out hc hm ((HR.out.below Z3.out).more Z3.out.size) (by omega)).mono ?_
              rintro e wc ⟨rfl, bw⟩
              obtain ⟨x, hx⟩ : ∃ x, sealL k l = x := ⟨_, rfl⟩
              have HX : Hid (x = o.take 16) := by show _ = _; rw [← hx, sealL, HO.out, HM0.out]
              have HX16 : Hid (x.length = 16) := by show _ = _; rw [← hx]; exact sealL_length _ _
              have HJX : Hid ((Try.prog.info? 34).map (·.size) = some (bva x).size) := by rw [bva_size, HX16.out]; exact info_sum
              rw [hx]
              have C2 := Lib.hid (Z2.out.below bw)
              have C3 := Lib.hid (Z3.out.trans (bw.mono Z3.out.size))
              clear hx bw Z1 Z2 Z3
              go_wp2_with (refine wpList_store_row rfl 34 (.tmp 7) (.tmp 28) rfl wc.heap.size (bva x) rfl rfl 34 (bva (List.replicate 16 0)) (heap_alloc_new _ _) HJX.out (by rw [bva_size, bva_size, HX16.out]; rfl) (bva_one _) ?_
                           generalize hwd : World.setRow _ _ _ = wd
                           have d1 : Blk wd z (bva o) 30 := by rw [← hwd]; exact blk_past C2.out
                           have d2 : Blk wd wc.heap.size (bva x) 34 := by rw [← hwd]; exact blk_new _
                           have d3 : Below w.heap.size w wd := by rw [← hwd]; exact below_new C3.out C3.out.size
                           have D1 := Lib.hid d1
                           have D2 := Lib.hid d2
                           have D3 := Lib.hid d3
                           clear d1 d2 d3 hwd C2 C3)
              go_loopw [8] (fun i wr => ∃ j : Nat, j ≤ 16 ∧ i = .int .i64 j ∧ Blk wr z (bva o) 30 ∧ Blk wr wc.heap.size (bva x) 34 ∧ Below w.heap.size w wr) (fun i _ => 16 - (intOf i).toNat)
              case atStart => exact ⟨0, by omega, rfl, D1.out, D2.out, D3.out⟩
              case round =>
                clear D1 D2 D3
                obtain ⟨j, hj, rfl, E1, E2, hbel⟩ := hrel
                by_cases hlt : j < 16
                · have j0 : (0 : Int) ≤ (j : Int) := by omega
                  have j1 : (j : Int) < 16 := by omega
                  have j2 : (j : Int) < 32 := by omega
                  obtain ⟨v, hv⟩ : ∃ v, v = o.getD j 0 := ⟨_, rfl⟩
                  have hxv : x.getD j 0 = v := by rw [HX.out, hv, List.getD_eq_getElem?_getD, List.getD_eq_getElem?_getD, List.getElem?_take, if_pos hlt]
                  have C1 := E1.cellb (k := j) (by rw [HO32.out]; omega)
                  have C2 := E2.cellb (k := j) (by rw [HX16.out]; omega)
                  rw [hxv] at C2
                  rw [← hv] at C1
                  have F1 := Lib.hid E1
                  have F2 := Lib.hid E2
                  clear hv hxv E1 E2
                  go_wp2
                  go_quiet (fail)
                  go_wp2
                  go_roundw
                  case rel => exact ⟨j + 1, by omega, by go_num, F1.out, F2.out, below_drewN' hbel _⟩
                  case measure => simp [intOf]; omega
                · obtain rfl : j = 16 := by omega
                  clear E1 E2
                  go_wp2
                  go_ret
                  exact ⟨rfl, hbel⟩
        · skip
          go_simp
          refine hK _ _ ?_
          clear hK K
          have T8 : Hid (Blk (World.alloc wa2 (.cells (bva (List.replicate 32 0)) 30)) (wa2.heap.size) (bva (List.replicate 32 0)) 30) := heap_alloc_new _ _
          have Y8 : Hid (Below w3.heap.size w3 (World.alloc wa2 (.cells (bva (List.replicate 32 0)) 30))) := Y2.out.alloc Y2.out.size _
          have hz8 : w3.heap.size ≤ wa2.heap.size := by have := Y2.out.size; (try simp at this); omega
          have O8 := Lib.hid (own_below O2.out (w' := (World.alloc wa2 (.cells (bva (List.replicate 32 0)) 30))) ((Below.refl _ _).alloc (Nat.le_refl _) _))
          have N8 : Hid (∀ j, (Value.slice Aa2 32 ca2).ownBlock = some j → j ≠ wa2.heap.size) := fun j hj => by have := (O2.out.lt j hj).2; (try simp at this); omega
          try simp only [List.getElem_toArray, List.getElem_cons_succ, List.getElem_cons_zero, Act.put, List.setIfInBounds_toArray, List.set_cons_zero, List.set_cons_succ]
          refine wpAny_ready (rs := [4]) (by kernel_rfl) (by simp) (AllReady.cons rfl (fun K hK => ?_) AllReady.nil)
          · skip
            refine step_app _ (by rfl) (.tmp 22) (.tmp 23) _ rfl bytesElt (base := w3.heap.size) (v := .slice Aa2 32 ca2) rfl O8.out (m := 32) rfl (rd_cells (D3.out.below (Y8.out))) ((bv_length m).trans HM.out) (bv_one _) ?_ ?_ ?_
            · omega
            · exact Y8.out.size
            intro Aa9 ca9 wa9 ho hg hor
            have Y9 := Lib.hid (app_below Y8.out O8.out hg (Nat.le_refl _) Y8.out.size)
            have O9 := Lib.hid (own_eq ho (n' := 64) (by omega) (xs' := bv (k ++ m)) (by rw [bv_append]))
            have N9 : Hid (∀ j, (Value.slice Aa9 64 ca9).ownBlock = some j → j ≠ (wa2.heap.size)) := fun j hj => by
              have htl := T8.out.lt
              rcases hor with h | h
              · exact N8.out j (h.symm.trans hj)
              · have hj' := h.symm.trans hj; injection hj' with hj'; (try simp at htl hj'); omega
            have T9 : Hid (Blk wa9 (wa2.heap.size) (bva (List.replicate 32 0)) 30) := by show Blk _ _ _ _; unfold Blk; rw [hg.block _ T8.out.lt (fun e => N8.out _ e.symm rfl)]; exact T8.out
            clear ho hg hor O8 Y8 N8 T8
            refine hK _ _ ?_
            clear hK K
            try simp only [List.getElem_toArray, List.getElem_cons_succ, List.getElem_cons_zero, Act.put, List.setIfInBounds_toArray, List.set_cons_zero, List.set_cons_succ]
            refine wpAny_ready (rs := [5]) (by kernel_rfl) (by simp) (AllReady.cons rfl (fun K hK => ?_) AllReady.nil)
            · skip
              go_simp
              refine (sum_any Aa9 64 ca9 (k ++ m) _ (by rw [List.length_append, HK.out, HM.out]) (Nat.le_refl _) (Rd.own O9.out) (by omega)).mono ?_
              rintro e wb10 ⟨rfl, bw⟩
              rw [← HO.out]
              have Y10 := Lib.hid (Y9.out.trans (bw.mono Y9.out.size))
              have T10 := Lib.hid (T9.out.below bw)
              clear bw O9 Y9 N9 T9
              go_simp
              refine hK _ _ ?_
              clear hK K
              try simp only [List.getElem_toArray, List.getElem_cons_succ, List.getElem_cons_zero, Act.put, List.setIfInBounds_toArray, List.set_cons_zero, List.set_cons_succ]
              refine wpAny_ready (rs := [7]) (by kernel_rfl) (by simp) (AllReady.cons rfl (fun K hK => ?_) AllReady.nil)
              rw [if_pos (by rfl)]
              refine wp_store_row 30 (.tmp 6) (.tmp 25) rfl (wa2.heap.size) (bva o) rfl rfl 30 (bva (List.replicate 32 0)) T10.out HJO.out (by rw [bva_size, bva_size, HO32.out]; rfl) (bva_one _) ?_
              generalize hw9 : World.setRow _ _ _ = w9
              have hzz : w3.heap.size ≤ (wa2.heap.size) := hz8
              have y1 : Blk w9 w.heap.size (bva k) 30 := by rw [← hw9]; unfold Blk; rw [setRow_other _ _ _ _ (by have := D1.out.lt; omega)]; exact D1.out.below Y10.out
              have y2 : Blk w9 (wa2.heap.size) (bva o) 30 := by rw [← hw9]; exact setRow_heap _ _ _ _ _ _ T10.out
              have y3 : Below w.heap.size w w9 := by rw [← hw9]; exact below_setRow (DB.out.trans (Y10.out.mono DB.out.size)) (Nat.le_trans DB.out.size hzz) _
              obtain ⟨z, hz⟩ : ∃ z, z = (wa2.heap.size) := ⟨_, rfl⟩
              rw [← hz] at y2
              have Z1 := Lib.hid y1
              have Z2 := Lib.hid y2
              have Z3 := Lib.hid y3
              clear y1 y2 y3 hw9 hzz T10 Y10
              refine hK _ _ ?_
              clear hK K
              refine wpAny_done (by kernel_rfl) ?_ _
              simp only [← hz]
              clear hz D1 D3 DB
              go_wp2_with (refine wpList_load_row rfl 30 (.tmp 2) rfl w.heap.size rfl 30 (bva k) (0, 0) _ Z1.out Try.underlying30 rfl HJK.out ?_)
              refine (seal_any k HK.out A n c l _ HL.out hc hm ((HR.out.below Z3.out).more Z3.out.size) (by omega)).mono ?_
              rintro e wc ⟨rfl, bw⟩
              obtain ⟨x, hx⟩ : ∃ x, sealL k l = x := ⟨_, rfl⟩
              have HX : Hid (x = o.take 16) := by show _ = _; rw [← hx, sealL, HO.out, HM0.out]
              have HX16 : Hid (x.length = 16) := by show _ = _; rw [← hx]; exact sealL_length _ _
              have HJX : Hid ((Try.prog.info? 34).map (·.size) = some (bva x).size) := by rw [bva_size, HX16.out]; exact info_sum
              rw [hx]
              have C2 := Lib.hid (Z2.out.below bw)
              have C3 := Lib.hid (Z3.out.trans (bw.mono Z3.out.size))
              clear hx bw Z1 Z2 Z3
              go_wp2_with (refine wpList_store_row rfl 34 (.tmp 7) (.tmp 28) rfl wc.heap.size (bva x) rfl rfl 34 (bva (List.replicate 16 0)) (heap_alloc_new _ _) HJX.out (by rw [bva_size, bva_size, HX16.out]; rfl) (bva_one _) ?_
                           generalize hwd : World.setRow _ _ _ = wd
                           have d1 : Blk wd z (bva o) 30 := by rw [← hwd]; exact blk_past C2.out
                           have d2 : Blk wd wc.heap.size (bva x) 34 := by rw [← hwd]; exact blk_new _
                           have d3 : Below w.heap.size w wd := by rw [← hwd]; exact below_new C3.out C3.out.size
                           have D1 := Lib.hid d1
                           have D2 := Lib.hid d2
                           have D3 := Lib.hid d3
                           clear d1 d2 d3 hwd C2 C3)
              go_loopw [8] (fun i wr => ∃ j : Nat, j ≤ 16 ∧ i = .int .i64 j ∧ Blk wr z (bva o) 30 ∧ Blk wr wc.heap.size (bva x) 34 ∧ Below w.heap.size w wr) (fun i _ => 16 - (intOf i).toNat)
              case atStart => exact ⟨0, by omega, rfl, D1.out, D2.out, D3.out⟩
              case round =>
                clear D1 D2 D3
                obtain ⟨j, hj, rfl, E1, E2, hbel⟩ := hrel
                by_cases hlt : j < 16
                · have j0 : (0 : Int) ≤ (j : Int) := by omega
                  have j1 : (j : Int) < 16 := by omega
                  have j2 : (j : Int) < 32 := by omega
                  obtain ⟨v, hv⟩ : ∃ v, v = o.getD j 0 := ⟨_, rfl⟩
                  have hxv : x.getD j 0 = v := by rw [HX.out, hv, List.getD_eq_getElem?_getD, List.getD_eq_getElem?_getD, List.getElem?_take, if_pos hlt]
                  have C1 := E1.cellb (k := j) (by rw [HO32.out]; omega)
                  have C2 := E2.cellb (k := j) (by rw [HX16.out]; omega)
                  rw [hxv] at C2
                  rw [← hv] at C1
                  have F1 := Lib.hid E1
                  have F2 := Lib.hid E2
                  clear hv hxv E1 E2
                  go_wp2
                  go_quiet (fail)
                  go_wp2
                  go_roundw
                  case rel => exact ⟨j + 1, by omega, by go_num, F1.out, F2.out, below_drewN' hbel _⟩
                  case measure => simp [intOf]; omega
                · obtain rfl : j = 16 := by omega
                  clear E1 E2
                  go_wp2
                  go_ret
                  exact ⟨rfl, hbel⟩
      · skip
        go_simp
        refine hK _ _ ?_
        clear hK K
        have T11 : Hid (Blk (World.alloc (World.alloc w3.drew (.cells #[] 5)) (.cells (bva (List.replicate 32 0)) 30)) (w3.heap.size + 1) (bva (List.replicate 32 0)) 30) := heap_alloc2_new _ _ _
        have Y11 : Hid (Below w3.heap.size w3 (World.alloc (World.alloc w3.drew (.cells #[] 5)) (.cells (bva (List.replicate 32 0)) 30))) := Y1.out.alloc Y1.out.size _
        have hz11 : w3.heap.size ≤ w3.heap.size + 1 := by have := Y1.out.size; (try simp at this); omega
        have O11 := Lib.hid (own_below O1.out (w' := (World.alloc (World.alloc w3.drew (.cells #[] 5)) (.cells (bva (List.replicate 32 0)) 30))) ((Below.refl _ _).alloc (Nat.le_refl _) _))
        have N11 : Hid (∀ j, (Value.slice (some ⟨w3.heap.size, 0, none⟩) 0 0).ownBlock = some j → j ≠ w3.heap.size + 1) := fun j hj => by have := (O1.out.lt j hj).2; (try simp at this); omega
        try simp only [List.getElem_toArray, List.getElem_cons_succ, List.getElem_cons_zero, Act.put, List.setIfInBounds_toArray, List.set_cons_zero, List.set_cons_succ]
        refine wpAny_ready (rs := [2]) (by kernel_rfl) (by simp) (AllReady.cons rfl (fun K hK => ?_) AllReady.nil)
        · skip
          refine step_app _ (by rfl) (.tmp 20) (.tmp 21) _ rfl bytesElt (base := w3.heap.size) (v := .slice (some ⟨w3.heap.size, 0, none⟩) 0 0) rfl O11.out (m := 32) rfl (rd_cells (D1.out.below (Y11.out))) ((bv_length k).trans HK.out) (bv_one _) ?_ ?_ ?_
          · omega
          · exact Y11.out.size
          intro Aa12 ca12 wa12 ho hg hor
          have Y12 := Lib.hid (app_below Y11.out O11.out hg (Nat.le_refl _) Y11.out.size)
          have O12 := Lib.hid (own_eq ho (n' := 32) (by omega) (xs' := bv (k)) rfl)
          have N12 : Hid (∀ j, (Value.slice Aa12 32 ca12).ownBlock = some j → j ≠ (w3.heap.size + 1)) := fun j hj => by
            have htl := T11.out.lt
            rcases hor with h | h
            · exact N11.out j (h.symm.trans hj)
            · have hj' := h.symm.trans hj; injection hj' with hj'; (try simp at htl hj'); omega
          have T12 : Hid (Blk wa12 (w3.heap.size + 1) (bva (List.replicate 32 0)) 30) := by show Blk _ _ _ _; unfold Blk; rw [hg.block _ T11.out.lt (fun e => N11.out _ e.symm rfl)]; exact T11.out
          clear ho hg hor O11 Y11 N11 T11
          refine hK _ _ ?_
          clear hK K
          try simp only [List.getElem_toArray, List.getElem_cons_succ, List.getElem_cons_zero, Act.put, List.setIfInBounds_toArray, List.set_cons_zero, List.set_cons_succ]
          refine wpAny_ready (rs := [4]) (by kernel_rfl) (by simp) (AllReady.cons rfl (fun K hK => ?_) AllReady.nil)
          · skip
            refine step_app _ (by rfl) (.tmp 22) (.tmp 23) _ rfl bytesElt (base := w3.heap.size) (v := .slice Aa12 32 ca12) rfl O12.out (m := 32) rfl (rd_cells (D3.out.below (Y12.out))) ((bv_length m).trans HM.out) (bv_one _) ?_ ?_ ?_
            · omega
            · exact Y12.out.size
            intro Aa13 ca13 wa13 ho hg hor
            have Y13 := Lib.hid (app_below Y12.out O12.out hg (Nat.le_refl _) Y12.out.size)
            have O13 := Lib.hid (own_eq ho (n' := 64) (by omega) (xs' := bv (k ++ m)) (by rw [bv_append]))
            have N13 : Hid (∀ j, (Value.slice Aa13 64 ca13).ownBlock = some j → j ≠ (w3.heap.size + 1)) := fun j hj => by
              have htl := T12.out.lt
              rcases hor with h | h
              · exact N12.out j (h.symm.trans hj)
              · have hj' := h.symm.trans hj; injection hj' with hj'; (try simp at htl hj'); omega
            have T13 : Hid (Blk wa13 (w3.heap.size + 1) (bva (List.replicate 32 0)) 30) := by show Blk _ _ _ _; unfold Blk; rw [hg.block _ T12.out.lt (fun e => N12.out _ e.symm rfl)]; exact T12.out
            clear ho hg hor O12 Y12 N12 T12
            refine hK _ _ ?_
            clear hK K
            try simp only [List.getElem_toArray, List.getElem_cons_succ, List.getElem_cons_zero, Act.put, List.setIfInBounds_toArray, List.set_cons_zero, List.set_cons_succ]
            refine wpAny_ready (rs := [5]) (by kernel_rfl) (by simp) (AllReady.cons rfl (fun K hK => ?_) AllReady.nil)
            · skip
              go_simp
              refine (sum_any Aa13 64 ca13 (k ++ m) _ (by rw [List.length_append, HK.out, HM.out]) (Nat.le_refl _) (Rd.own O13.out) (by omega)).mono ?_
              rintro e wb14 ⟨rfl, bw⟩
              rw [← HO.out]
              have Y14 := Lib.hid (Y13.out.trans (bw.mono Y13.out.size))
              have T14 := Lib.hid (T13.out.below bw)
              clear bw O13 Y13 N13 T13
              go_simp
              refine hK _ _ ?_
              clear hK K
              try simp only [List.getElem_toArray, List.getElem_cons_succ, List.getElem_cons_zero, Act.put, List.setIfInBounds_toArray, List.set_cons_zero, List.set_cons_succ]
              refine wpAny_ready (rs := [7]) (by kernel_rfl) (by simp) (AllReady.cons rfl (fun K hK => ?_) AllReady.nil)
              rw [if_pos (by rfl)]
              refine wp_store_row 30 (.tmp 6) (.tmp 25) rfl (w3.heap.size + 1) (bva o) rfl rfl 30 (bva (List.replicate 32 0)) T14.out HJO.out (by rw [bva_size, bva_size, HO32.out]; rfl) (bva_one _) ?_
              generalize hw9 : World.setRow _ _ _ = w9
              have hzz : w3.heap.size ≤ (w3.heap.size + 1) := hz11
              have y1 : Blk w9 w.heap.size (bva k) 30 := by rw [← hw9]; unfold Blk; rw [setRow_other _ _ _ _ (by have := D1.out.lt; omega)]; exact D1.out.below Y14.out
              have y2 : Blk w9 (w3.heap.size + 1) (bva o) 30 := by rw [← hw9]; exact setRow_heap _ _ _ _ _ _ T14.out
              have y3 : Below w.heap.size w w9 := by rw [← hw9]; exact below_setRow (DB.out.trans (Y14.out.mono DB.out.size)) (Nat.le_trans DB.out.size hzz) _
              obtain ⟨z, hz⟩ : ∃ z, z = (w3.heap.size + 1) := ⟨_, rfl⟩
              rw [← hz] at y2
              have Z1 := Lib.hid y1
              have Z2 := Lib.hid y2
              have Z3 := Lib.hid y3
              clear y1 y2 y3 hw9 hzz T14 Y14
              refine hK _ _ ?_
              clear hK K
              refine wpAny_done (by kernel_rfl) ?_ _
              simp only [← hz]
              clear hz D1 D3 DB
              go_wp2_with (refine wpList_load_row rfl 30 (.tmp 2) rfl w.heap.size rfl 30 (bva k) (0, 0) _ Z1.out Try.underlying30 rfl HJK.out ?_)
              refine (seal_any k HK.out A n c l _ HL.out hc hm ((HR.out.below Z3.out).more Z3.out.size) (by omega)).mono ?_
              rintro e wc ⟨rfl, bw⟩
              obtain ⟨x, hx⟩ : ∃ x, sealL k l = x := ⟨_, rfl⟩
              have HX : Hid (x = o.take 16) := by show _ = _; rw [← hx, sealL, HO.out, HM0.out]
              have HX16 : Hid (x.length = 16) := by show _ = _; rw [← hx]; exact sealL_length _ _
              have HJX : Hid ((Try.prog.info? 34).map (·.size) = some (bva x).size) := by rw [bva_size, HX16.out]; exact info_sum
              rw [hx]
              have C2 := Lib.hid (Z2.out.below bw)
              have C3 := Lib.hid (Z3.out.trans (bw.mono Z3.out.size))
              clear hx bw Z1 Z2 Z3
              go_wp2_with (refine wpList_store_row rfl 34 (.tmp 7) (.tmp 28) rfl wc.heap.size (bva x) rfl rfl 34 (bva (List.replicate 16 0)) (heap_alloc_new _ _) HJX.out (by rw [bva_size, bva_size, HX16.out]; rfl) (bva_one _) ?_
                           generalize hwd : World.setRow _ _ _ = wd
                           have d1 : Blk wd z (bva o) 30 := by rw [← hwd]; exact blk_past C2.out
                           have d2 : Blk wd wc.heap.size (bva x) 34 := by rw [← hwd]; exact blk_new _
                           have d3 : Below w.heap.size w wd := by rw [← hwd]; exact below_new C3.out C3.out.size
                           have D1 := Lib.hid d1
                           have D2 := Lib.hid d2
                           have D3 := Lib.hid d3
                           clear d1 d2 d3 hwd C2 C3)
              go_loopw [8] (fun i wr => ∃ j : Nat, j ≤ 16 ∧ i = .int .i64 j ∧ Blk wr z (bva o) 30 ∧ Blk wr wc.heap.size (bva x) 34 ∧ Below w.heap.size w wr) (fun i _ => 16 - (intOf i).toNat)
              case atStart => exact ⟨0, by omega, rfl, D1.out, D2.out, D3.out⟩
              case round =>
                clear D1 D2 D3
                obtain ⟨j, hj, rfl, E1, E2, hbel⟩ := hrel
                by_cases hlt : j < 16
                · have j0 : (0 : Int) ≤ (j : Int) := by omega
                  have j1 : (j : Int) < 16 := by omega
                  have j2 : (j : Int) < 32 := by omega
                  obtain ⟨v, hv⟩ : ∃ v, v = o.getD j 0 := ⟨_, rfl⟩
                  have hxv : x.getD j 0 = v := by rw [HX.out, hv, List.getD_eq_getElem?_getD, List.getD_eq_getElem?_getD, List.getElem?_take, if_pos hlt]
                  have C1 := E1.cellb (k := j) (by rw [HO32.out]; omega)
                  have C2 := E2.cellb (k := j) (by rw [HX16.out]; omega)
                  rw [hxv] at C2
                  rw [← hv] at C1
                  have F1 := Lib.hid E1
                  have F2 := Lib.hid E2
                  clear hv hxv E1 E2
                  go_wp2
                  go_quiet (fail)
                  go_wp2
                  go_roundw
                  case rel => exact ⟨j + 1, by omega, by go_num, F1.out, F2.out, below_drewN' hbel _⟩
                  case measure => simp [intOf]; omega
                · obtain rfl : j = 16 := by omega
                  clear E1 E2
                  go_wp2
                  go_ret
                  exact ⟨rfl, hbel⟩
    · skip
      go_simp
      refine hK _ _ ?_
      clear hK K
      have T15 : Hid (Blk (World.alloc w3.drew (.cells (bva (List.replicate 32 0)) 30)) (w3.heap.size) (bva (List.replicate 32 0)) 30) := heap_alloc_new _ _
      have Y15 : Hid (Below w3.heap.size w3 (World.alloc w3.drew (.cells (bva (List.replicate 32 0)) 30))) := Y0.out.alloc Y0.out.size _
      have hz15 : w3.heap.size ≤ w3.heap.size := by have := Y0.out.size; (try simp at this); omega
      try simp only [List.getElem_toArray, List.getElem_cons_succ, List.getElem_cons_zero, Act.put, List.setIfInBounds_toArray, List.set_cons_zero, List.set_cons_succ]
      refine wpAny_ready (rs := [0]) (by kernel_rfl) (by simp) (AllReady.cons rfl (fun K hK => ?_) AllReady.nil)
      · skip
        go_simp
        refine hK _ _ ?_
        clear hK K
        have Y16 : Hid (Below w3.heap.size w3 (World.alloc (World.alloc w3.drew (.cells (bva (List.replicate 32 0)) 30)) (.cells #[] 5))) := Y15.out.alloc Y15.out.size _
        have O16 : Hid (World.ownsRow (World.alloc (World.alloc w3.drew (.cells (bva (List.replicate 32 0)) 30)) (.cells #[] 5)) w3.heap.size 5 1 (.slice (some ⟨w3.heap.size + 1, 0, none⟩) 0 0) 0 (bv [])) := by
          have h := World.ownsRow_lit (base := w3.heap.size) (size := 1) (e := 5) (World.alloc w3.drew (.cells (bva (List.replicate 32 0)) 30)) #[] 0 Y15.out.size (Nat.zero_le _) rfl
          rw [show (World.alloc w3.drew (.cells (bva (List.replicate 32 0)) 30)).heap.size = w3.heap.size + 1 from by simp] at h
          exact h
        have N16 : Hid (∀ j, (Value.slice (some ⟨w3.heap.size + 1, 0, none⟩) 0 0).ownBlock = some j → j ≠ (w3.heap.size)) := fun j hj => by
            have hj' : w3.heap.size + 1 = j := by injection hj
            have := T15.out.lt; (try simp at this); omega
        have T16 := Lib.hid (T15.out.below (w1 := (World.alloc (World.alloc w3.drew (.cells (bva (List.replicate 32 0)) 30)) (.cells #[] 5))) ((Below.refl _ _).alloc (Nat.le_refl _) _))
        try simp only [List.getElem_toArray, List.getElem_cons_succ, List.getElem_cons_zero, Act.put, List.setIfInBounds_toArray, List.set_cons_zero, List.set_cons_succ]
        refine wpAny_ready (rs := [2]) (by kernel_rfl) (by simp) (AllReady.cons rfl (fun K hK => ?_) AllReady.nil)
        · skip
          refine step_app _ (by rfl) (.tmp 20) (.tmp 21) _ rfl bytesElt (base := w3.heap.size) (v := .slice (some ⟨w3.heap.size + 1, 0, none⟩) 0 0) rfl O16.out (m := 32) rfl (rd_cells (D1.out.below (Y16.out))) ((bv_length k).trans HK.out) (bv_one _) ?_ ?_ ?_
          · omega
          · exact Y16.out.size
          intro Aa17 ca17 wa17 ho hg hor
          have Y17 := Lib.hid (app_below Y16.out O16.out hg (Nat.le_refl _) Y16.out.size)
          have O17 := Lib.hid (own_eq ho (n' := 32) (by omega) (xs' := bv (k)) rfl)
          have N17 : Hid (∀ j, (Value.slice Aa17 32 ca17).ownBlock = some j → j ≠ (w3.heap.size)) := fun j hj => by
            have htl := T16.out.lt
            rcases hor with h | h
            · exact N16.out j (h.symm.trans hj)
            · have hj' := h.symm.trans hj; injection hj' with hj'; (try simp at htl hj'); omega
          have T17 : Hid (Blk wa17 (w3.heap.size) (bva (List.replicate 32 0)) 30) := by show Blk _ _ _ _; unfold Blk; rw [hg.block _ T16.out.lt (fun e => N16.out _ e.symm rfl)]; exact T16.out
          clear ho hg hor O16 Y16 N16 T16
          refine hK _ _ ?_
          clear hK K
          try simp only [List.getElem_toArray, List.getElem_cons_succ, List.getElem_cons_zero, Act.put, List.setIfInBounds_toArray, List.set_cons_zero, List.set_cons_succ]
          refine wpAny_ready (rs := [4]) (by kernel_rfl) (by simp) (AllReady.cons rfl (fun K hK => ?_) AllReady.nil)
          · skip
            refine step_app _ (by rfl) (.tmp 22) (.tmp 23) _ rfl bytesElt (base := w3.heap.size) (v := .slice Aa17 32 ca17) rfl O17.out (m := 32) rfl (rd_cells (D3.out.below (Y17.out))) ((bv_length m).trans HM.out) (bv_one _) ?_ ?_ ?_
            · omega
            · exact Y17.out.size
            intro Aa18 ca18 wa18 ho hg hor
            have Y18 := Lib.hid (app_below Y17.out O17.out hg (Nat.le_refl _) Y17.out.size)
            have O18 := Lib.hid (own_eq ho (n' := 64) (by omega) (xs' := bv (k ++ m)) (by rw [bv_append]))
            have N18 : Hid (∀ j, (Value.slice Aa18 64 ca18).ownBlock = some j → j ≠ (w3.heap.size)) := fun j hj => by
              have htl := T17.out.lt
              rcases hor with h | h
              · exact N17.out j (h.symm.trans hj)
              · have hj' := h.symm.trans hj; injection hj' with hj'; (try simp at htl hj'); omega
            have T18 : Hid (Blk wa18 (w3.heap.size) (bva (List.replicate 32 0)) 30) := by show Blk _ _ _ _; unfold Blk; rw [hg.block _ T17.out.lt (fun e => N17.out _ e.symm rfl)]; exact T17.out
            clear ho hg hor O17 Y17 N17 T17
            refine hK _ _ ?_
            clear hK K
            try simp only [List.getElem_toArray, List.getElem_cons_succ, List.getElem_cons_zero, Act.put, List.setIfInBounds_toArray, List.set_cons_zero, List.set_cons_succ]
            refine wpAny_ready (rs := [5]) (by kernel_rfl) (by simp) (AllReady.cons rfl (fun K hK => ?_) AllReady.nil)
            · skip
              go_simp
              refine (sum_any Aa18 64 ca18 (k ++ m) _ (by rw [List.length_append, HK.out, HM.out]) (Nat.le_refl _) (Rd.own O18.out) (by omega)).mono ?_
              rintro e wb19 ⟨rfl, bw⟩
              rw [← HO.out]
              have Y19 := Lib.hid (Y18.out.trans (bw.mono Y18.out.size))
              have T19 := Lib.hid (T18.out.below bw)
              clear bw O18 Y18 N18 T18
              go_simp
              refine hK _ _ ?_
              clear hK K
              try simp only [List.getElem_toArray, List.getElem_cons_succ, List.getElem_cons_zero, Act.put, List.setIfInBounds_toArray, List.set_cons_zero, List.set_cons_succ]
              refine wpAny_ready (rs := [7]) (by kernel_rfl) (by simp) (AllReady.cons rfl (fun K hK => ?_) AllReady.nil)
              rw [if_pos (by rfl)]
              refine wp_store_row 30 (.tmp 6) (.tmp 25) rfl (w3.heap.size) (bva o) rfl rfl 30 (bva (List.replicate 32 0)) T19.out HJO.out (by rw [bva_size, bva_size, HO32.out]; rfl) (bva_one _) ?_
              generalize hw9 : World.setRow _ _ _ = w9
              have hzz : w3.heap.size ≤ (w3.heap.size) := hz15
              have y1 : Blk w9 w.heap.size (bva k) 30 := by rw [← hw9]; unfold Blk; rw [setRow_other _ _ _ _ (by have := D1.out.lt; omega)]; exact D1.out.below Y19.out
              have y2 : Blk w9 (w3.heap.size) (bva o) 30 := by rw [← hw9]; exact setRow_heap _ _ _ _ _ _ T19.out
              have y3 : Below w.heap.size w w9 := by rw [← hw9]; exact below_setRow (DB.out.trans (Y19.out.mono DB.out.size)) (Nat.le_trans DB.out.size hzz) _
              obtain ⟨z, hz⟩ : ∃ z, z = (w3.heap.size) := ⟨_, rfl⟩
              rw [← hz] at y2
              have Z1 := Lib.hid y1
              have Z2 := Lib.hid y2
              have Z3 := Lib.hid y3
              clear y1 y2 y3 hw9 hzz T19 Y19
              refine hK _ _ ?_
              clear hK K
              refine wpAny_done (by kernel_rfl) ?_ _
              simp only [← hz]
              clear hz D1 D3 DB
              go_wp2_with (refine wpList_load_row rfl 30 (.tmp 2) rfl w.heap.size rfl 30 (bva k) (0, 0) _ Z1.out Try.underlying30 rfl HJK.out ?_)
              refine (seal_any k HK.out A n c l _ HL.out hc hm ((HR.out.below Z3.out).more Z3.out.size) (by omega)).mono ?_
              rintro e wc ⟨rfl, bw⟩
              obtain ⟨x, hx⟩ : ∃ x, sealL k l = x := ⟨_, rfl⟩
              have HX : Hid (x = o.take 16) := by show _ = _; rw [← hx, sealL, HO.out, HM0.out]
              have HX16 : Hid (x.length = 16) := by show _ = _; rw [← hx]; exact sealL_length _ _
              have HJX : Hid ((Try.prog.info? 34).map (·.size) = some (bva x).size) := by rw [bva_size, HX16.out]; exact info_sum
              rw [hx]
              have C2 := Lib.hid (Z2.out.below bw)
              have C3 := Lib.hid (Z3.out.trans (bw.mono Z3.out.size))
              clear hx bw Z1 Z2 Z3
              go_wp2_with (refine wpList_store_row rfl 34 (.tmp 7) (.tmp 28) rfl wc.heap.size (bva x) rfl rfl 34 (bva (List.replicate 16 0)) (heap_alloc_new _ _) HJX.out (by rw [bva_size, bva_size, HX16.out]; rfl) (bva_one _) ?_
                           generalize hwd : World.setRow _ _ _ = wd
                           have d1 : Blk wd z (bva o) 30 := by rw [← hwd]; exact blk_past C2.out
                           have d2 : Blk wd wc.heap.size (bva x) 34 := by rw [← hwd]; exact blk_new _
                           have d3 : Below w.heap.size w wd := by rw [← hwd]; exact below_new C3.out C3.out.size
                           have D1 := Lib.hid d1
                           have D2 := Lib.hid d2
                           have D3 := Lib.hid d3
                           clear d1 d2 d3 hwd C2 C3)
              go_loopw [8] (fun i wr => ∃ j : Nat, j ≤ 16 ∧ i = .int .i64 j ∧ Blk wr z (bva o) 30 ∧ Blk wr wc.heap.size (bva x) 34 ∧ Below w.heap.size w wr) (fun i _ => 16 - (intOf i).toNat)
              case atStart => exact ⟨0, by omega, rfl, D1.out, D2.out, D3.out⟩
              case round =>
                clear D1 D2 D3
                obtain ⟨j, hj, rfl, E1, E2, hbel⟩ := hrel
                by_cases hlt : j < 16
                · have j0 : (0 : Int) ≤ (j : Int) := by omega
                  have j1 : (j : Int) < 16 := by omega
                  have j2 : (j : Int) < 32 := by omega
                  obtain ⟨v, hv⟩ : ∃ v, v = o.getD j 0 := ⟨_, rfl⟩
                  have hxv : x.getD j 0 = v := by rw [HX.out, hv, List.getD_eq_getElem?_getD, List.getD_eq_getElem?_getD, List.getElem?_take, if_pos hlt]
                  have C1 := E1.cellb (k := j) (by rw [HO32.out]; omega)
                  have C2 := E2.cellb (k := j) (by rw [HX16.out]; omega)
                  rw [hxv] at C2
                  rw [← hv] at C1
                  have F1 := Lib.hid E1
                  have F2 := Lib.hid E2
                  clear hv hxv E1 E2
                  go_wp2
                  go_quiet (fail)
                  go_wp2
                  go_roundw
                  case rel => exact ⟨j + 1, by omega, by go_num, F1.out, F2.out, below_drewN' hbel _⟩
                  case measure => simp [intOf]; omega
                · obtain rfl : j = 16 := by omega
                  clear E1 E2
                  go_wp2
                  go_ret
                  exact ⟨rfl, hbel⟩
  · have hn' : decide (200 < (n : Int)) = true := by simp; omega
    go_enter Try.func7, Try.ntmps7
    go_wp2_with fail
    refine (seAwake_any _).mono ?_
    rintro e w1 ⟨rfl, bw⟩
    have BC := Lib.hid (BB.out.trans (bw.mono BB.out.size))
    clear bw B1 BB
    go_wp2_with fail
    go_ret
    exact ⟨rfl, BC.out⟩
theorem sealInner_own : ownKnob Try.prog.godebug = none := by kernel_rfl
theorem sealInner_laid : laidOutB Try.prog = true := by kernel_rfl

set_option maxRecDepth 100000 in
theorem sealInner_lifted (os : Os) (started : os.Started) (H : Type) (enc : TypeId × Value → H) :
    ReturnsInHanded {} Try.checked os 7 .any (Rows.sealInnerSpec.pre6 enc Try.prog Try.f7 Rows.sealInnerRow.domain false) (Rows.sealInnerSpec.post enc Try.prog Try.f7 false true false false) := by
  refine returnsInHanded_of_change (C := Try.checked) sealInner_own started (by kernel_rfl) Try.func7
    (ChangeSpec.witness6 (enc := enc) (C := Try.checked) false ⟨#[], #[.agg #[.int .u8 0, .int .u8 0, .int .u8 0, .int .u8 0, .int .u8 0, .int .u8 0, .int .u8 0, .int .u8 0, .int .u8 0, .int .u8 0, .int .u8 0, .int .u8 0, .int .u8 0, .int .u8 0, .int .u8 0, .int .u8 0, .int .u8 0, .int .u8 0, .int .u8 0, .int .u8 0, .int .u8 0, .int .u8 0, .int .u8 0, .int .u8 0, .int .u8 0, .int .u8 0, .int .u8 0, .int .u8 0, .int .u8 0, .int .u8 0, .int .u8 0, .int .u8 0], .slice none 0 0], []⟩ 8 (by kernel_rfl) (by kernel_rfl) (by kernel_rfl) (by kernel_rfl)) ?_
  intro W base args ds gs before hval0 hW _ _
  have hval : ∀ (j : Nat) t v, Try.f7.params[j]? = some t → args[j]? = some v → Value.okWide Try.prog W .any base t v := hval0
  have hW' := hW
  obtain ⟨p, q, hA0, hV, rfl, hfz, hnd⟩ := hW
  have hA : DataW.TrodAll enc Try.prog W 0 (fun _ => true) true Try.f7.params.toList args.toList ds p := hA0
  rw [Try.params7] at hA hval
  obtain ⟨v0, vs0, d0, ds0, p0, q0, hargs, rfl, rfl, h0, r0⟩ := trodAll_cons hA
  obtain ⟨v1, vs1, d1, ds1, p1, q1, rfl, rfl, rfl, h1, r1⟩ := trodAll_cons r0
  obtain ⟨rfl, rfl, rfl⟩ := trodAll_nil r1
  obtain rfl : args = #[v0, v1] := by cases args; simp_all
  obtain ⟨rfl, rfl⟩ := trodVars_none hV
  have lt0 : ∀ x ∈ p0, x.block < W.heap.size := by obtain ⟨m, hm⟩ := h0; exact DataW.trod_lt m _ _ _ hm
  obtain ⟨l0, hl0, rfl⟩ := open_u8s Try.underlying30 Try.underlying5 (by kernel_rfl) (by kernel_rfl) (hval 0 30 v0 rfl rfl) h0
  obtain ⟨a1, n1, c1, rfl⟩ := okWide_slice Try.underlying28 (hval 1 28 v1 rfl rfl)
  have lt1 : ∀ x ∈ p1, x.block < W.heap.size := by obtain ⟨m, hm⟩ := h1; exact DataW.trod_lt m _ _ _ hm
  obtain ⟨l1, hl1, hc1, hm1, hr1⟩ := open_bytes Try.underlying28 Try.underlying5 (by kernel_rfl) h1
  clear hA0 hval0
  refine (sealInner_any W l0 hl0 a1 n1 c1 l1 hl1 hc1 hm1 hr1).mono fun e W' ⟨he, bel⟩ => ?_
  subst he
  exact ⟨_, rfl, _, _, _, [], _, [], hW', trodAll_mk1 (shut_bool Try.underlying4 _), (trodAll_cons_mk (Below.trod sealInner_laid (by kernel_rfl) (of_decide_eq_true (by kernel_rfl)) h0 bel lt0) (trodAll_cons_mk (Below.trod sealInner_laid (by kernel_rfl) (of_decide_eq_true (by kernel_rfl)) h1 bel lt1) trodAll_mk0)), rfl, bel.frame _, fun h => by cases h⟩

theorem sealInner_holds : Rows.SealInnerSaid :=
  OpenClaim.holds_of_wide 7 Try.f7 rfl rfl rfl rfl rfl rfl rfl ⟨rfl, rfl, rfl, rfl, rfl⟩ rfl rfl rfl rfl rfl (by kernel_rfl) Try.func7 (by kernel_rfl)
    (of_decide_eq_true (by kernel_rfl)) (by unfold Func.isWrapper; rw [if_neg (of_decide_eq_false (by kernel_rfl))]; exact ⟨rfl, rfl⟩)
    (fun os started H enc _ => sealInner_lifted os started H enc)

#print axioms sealInner_holds

end Go.Proofs.Ytdemfaolkmillaa
