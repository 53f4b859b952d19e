/-
  SealKeys holds: of every key, bytes and number the law returns true, and its arguments read as they did.
-/
import Derived.Test.YtdemfaolkmillaaSeAwake
import Derived.Test.YtdemfaolkmillaaOpen
import Derived.Test.YtdemfaolkmillaaOpenA
import Derived.ProofKit
import Derived.OpenShut
import Derived.ShutString
import Derived.ChangeOld
namespace Go.Proofs.Ytdemfaolkmillaa
open Go.RowKit Go.ChangeShapes Go.WideShapes Go.ChangeAt
attribute [local go_sem ↓] Go.wp_at_zero Go.wp_at_succ
theorem rf_cells {w : World} {g g' : Nat} {l : List UInt8} {t : TypeId} (h : Blk w g (bva l) t) (hne : g ≠ g') : Rf g' w (some ⟨g, 0, none⟩) (bv l) := fun k u hu =>
  ⟨_, rfl, hne, by rw [add_head, h.cell, bva, List.getElem?_toArray]; exact hu⟩
theorem range_front {w : World} {g m : Nat} {l : List UInt8} {t : TypeId} (h : Blk w g (bva l) t) : w.rangeAt g 0 (bv (l.take m)) := fun j v hv => by
  rw [Nat.zero_add]; exact (h.cell j).trans (by rw [bva, List.getElem?_toArray]; exact bv_take_get hv)
set_option maxHeartbeats 3200000 in
theorem sealKeys_any (w : World) (k : List UInt8) (hk : k.length = 32) (A : Option Addr) (n c : Nat) (l : List UInt8) (hl : l.length = n) (hc : n ≤ c) (hm : c ≤ maxLen) (hr : Rd w.heap.size w A (bv l)) (a : Int) (ha : 0 ≤ a ∧ a ≤ 255) :
    Calls Try.prog 11 #[.agg (bva k), .slice A n c, .int .u8 a] w (RetB (.bool true) w) := by
  obtain ⟨a0, a1⟩ := ha
  have HL := Lib.hid hl
  have HR := Lib.hid hr
  have HK := Lib.hid hk
  have b1 : Blk (w.alloc (.cells (bva k) 30)) w.heap.size (bva k) 30 := heap_alloc_new _ _
  have bb : Below w.heap.size w (w.alloc (.cells (bva k) 30)) := (Below.refl _ _).alloc (Nat.le_refl _) _
  have B1 := Lib.hid b1
  have BB := Lib.hid bb
  have hcm := hm
  unfold maxLen at hcm
  clear hl hr hk b1 bb
  by_cases hn : n ≤ 200
  · have hn' : decide (200 < (n : Int)) = false := by simp; omega
    obtain ⟨r, hr⟩ : ∃ r : Nat, (r : Int) = a % ((n : Int) + 1) := ⟨(a % ((n : Int) + 1)).toNat, Int.toNat_of_nonneg (Int.emod_nonneg _ (by omega))⟩
    have hrn : r ≤ n := by have := Int.emod_lt_of_pos a (b := (n : Int) + 1) (by omega); omega
    have er : a % ((n : Int) + 1) = (r : Int) := hr.symm
    have et : a.tmod ((n : Int) + 1) = (r : Int) := by rw [Int.tmod_eq_emod_of_nonneg a0]; exact hr.symm
    have r0 : (0 : Int) ≤ (r : Int) := by omega
    have r1 : (r : Int) ≤ (n : Int) := by omega
    have r2 : (r : Int) ≤ (c : Int) := by omega
    clear hr
    go_enter Try.func11, Try.ntmps11
    go_wp2_with fail
    refine (seAwake_any _).mono ?_
    rintro e w1 ⟨rfl, bw⟩
    have C1 := Lib.hid (B1.out.below bw)
    have CB := Lib.hid (BB.out.trans (bw.mono BB.out.size))
    clear bw B1 BB
    go_wp2_with fail
    refine (new_any' _).mono ?_
    rintro e w2 ⟨g, rfl, hg1, hg2, hG, bw⟩
    have hgw : w.heap.size ≤ g := Nat.le_trans CB.out.size hg1
    have hgk : w.heap.size ≠ g := by have := C1.out.lt; omega
    have D1 := Lib.hid (C1.out.below bw)
    have DB := Lib.hid (CB.out.trans (bw.mono CB.out.size))
    have G1 := Lib.hid hG
    clear bw hG hg1 hg2 C1 CB
    go_wp2_with fail
    refine (write_any g [] k (some ⟨w.heap.size, 0, none⟩) 32 32 _ HK.out (by omega) (by unfold maxLen; omega) G1.out (Rf.of_rd (B := w.heap.size + 1) (fun j u hu => ⟨_, rfl, Nat.lt_succ_self _, (by rw [add_head, D1.out.cell, bva, List.getElem?_toArray]; exact hu)⟩) (by omega)) (by show 0 + 32 ≤ _; omega)).mono ?_
    rintro e w3 ⟨rfl, hG, gr⟩
    have C1 := Lib.hid (blk_far D1.out gr hgk)
    have CB := Lib.hid (DB.out.grown gr DB.out.size (fun k hk => by injection hk with hk; omega))
    have G2 := Lib.hid (show HashIs w3 g k from hG)
    clear hG gr D1 DB G1
    go_wp2_with fail
    refine (write_any g k (l.take r) A r c _ (by rw [List.length_take, HL.out]; omega) (by omega) hm G2.out (Rf.of_rd ((HR.out.take r).below CB.out) hgw) (by rw [HK.out]; omega)).mono ?_
    rintro e w4 ⟨rfl, hG, gr⟩
    have D1 := Lib.hid (blk_far C1.out gr hgk)
    have DB := Lib.hid (CB.out.grown gr CB.out.size (fun k hk => by injection hk with hk; omega))
    have G3 := Lib.hid hG
    clear hG gr C1 CB G2
    by_cases hcr : c = r
    · subst hcr
      obtain rfl : n = c := by omega
      go_wp2_with fail
      refine (write_any g (k ++ l.take n) [] A 0 0 _ rfl (Nat.le_refl _) (by unfold maxLen; omega) G3.out Rf.none' (by rw [List.length_append, List.length_take, HK.out, HL.out]; omega)).mono ?_
      rintro e w5 ⟨rfl, hG, gr⟩
      have C1 := Lib.hid (blk_far D1.out gr hgk)
      have CB := Lib.hid (DB.out.grown gr DB.out.size (fun k hk => by injection hk with hk; omega))
      have G4 := Lib.hid (show HashIs w5 g (k ++ l) from by first | (rw [List.append_assoc, List.take_append_drop] at hG; exact hG) | (rw [List.append_nil, List.take_of_length_le (by rw [HL.out]; exact Nat.le_refl _)] at hG; exact hG))
      clear hG gr D1 DB G3
      go_wp2_with fail
      refine (hsum_any g (k ++ l) _ G4.out (by rw [List.length_append, HK.out, HL.out]; omega)).mono ?_
      rintro e w6 ⟨rfl, bw⟩
      obtain ⟨x, hx⟩ : ∃ x, shaL (k ++ l) = x := ⟨_, rfl⟩
      have HX : Hid (x = shaL (k ++ l)) := hx.symm
      have HX32 : Hid (x.length = 32) := by show _ = _; rw [← hx]; exact shaL_length _
      have HJX : Hid ((Try.prog.info? 30).map (·.size) = some (bva x).size) := by rw [bva_size, HX32.out]; exact info33
      rw [hx]
      have D1 := Lib.hid (C1.out.below bw)
      have DB := Lib.hid (CB.out.trans (bw.mono CB.out.size))
      clear hx bw C1 CB G4
      go_wp2_with (refine wpList_store_row rfl 30 (.tmp 9) (.tmp 38) rfl w6.heap.size (bva x) rfl rfl 30 (bva (List.replicate 32 0)) (heap_alloc_new _ _) HJX.out (by rw [bva_size, bva_size, HX32.out]; rfl) (bva_one _) ?_
                   generalize hw7 : World.setRow _ _ _ = w7
                   have d1 : Blk w7 w.heap.size (bva k) 30 := by rw [← hw7]; exact blk_past D1.out
                   have d2 : Blk w7 w6.heap.size (bva x) 30 := by rw [← hw7]; exact blk_new _
                   have d3 : Below w.heap.size w w7 := by rw [← hw7]; exact below_new DB.out DB.out.size
                   have E1 := Lib.hid d1
                   have E2 := Lib.hid d2
                   have EB := Lib.hid d3
                   clear d1 d2 d3 hw7 D1 DB)
      refine (new_any' _).mono ?_
      rintro e w8 ⟨g', rfl, hg1, hg2, hG, bw⟩
      have hgw' : w.heap.size ≤ g' := Nat.le_trans EB.out.size hg1
      have hgk' : w.heap.size ≠ g' := by have := E1.out.lt; omega
      have hgx' : w6.heap.size ≠ g' := by have := E2.out.lt; omega
      have F1 := Lib.hid (E1.out.below bw)
      have F2 := Lib.hid (E2.out.below bw)
      have FB := Lib.hid (EB.out.trans (bw.mono EB.out.size))
      have G1 := Lib.hid hG
      clear bw hG hg1 hg2 E1 E2 EB
      go_wp2_with fail
      refine (write_any g' [] k (some ⟨w.heap.size, 0, none⟩) 32 32 _ HK.out (by omega) (by unfold maxLen; omega) G1.out (rf_cells F1.out hgk') (by show 0 + 32 ≤ _; omega)).mono ?_
      rintro e w9 ⟨rfl, hG, gr⟩
      have D1 := Lib.hid (blk_far F1.out gr hgk')
      have D2 := Lib.hid (blk_far F2.out gr hgx')
      have DB := Lib.hid (FB.out.grown gr FB.out.size (fun k hk => by injection hk with hk; omega))
      have G2 := Lib.hid (show HashIs w9 g' k from hG)
      clear hG gr F1 F2 FB G1
      go_wp2_with fail
      refine (write_any g' k x (some ⟨w6.heap.size, 0, none⟩) 32 32 _ HX32.out (by omega) (by unfold maxLen; omega) G2.out (rf_cells D2.out hgx') (by rw [HK.out]; omega)).mono ?_
      rintro e wa ⟨rfl, hG, gr⟩
      have E1 := Lib.hid (blk_far D1.out gr hgk')
      have EB := Lib.hid (DB.out.grown gr DB.out.size (fun k hk => by injection hk with hk; omega))
      have G3 := Lib.hid hG
      clear hG gr D1 D2 DB G2
      go_wp2_with fail
      refine (hsum_any g' (k ++ x) _ G3.out (by rw [List.length_append, HK.out, HX32.out]; omega)).mono ?_
      rintro e wb ⟨rfl, bw⟩
      obtain ⟨y, hy⟩ : ∃ y, shaL (k ++ x) = y := ⟨_, rfl⟩
      have HY : Hid (y.take 16 = sealL k l) := by show _ = _; rw [sealL, ← HX.out, hy]
      have HY32 : Hid (y.length = 32) := by show _ = _; rw [← hy]; exact shaL_length _
      have HJY : Hid ((Try.prog.info? 30).map (·.size) = some (bva y).size) := by rw [bva_size, HY32.out]; exact info33
      rw [hy]
      have D1 := Lib.hid (E1.out.below bw)
      have DB := Lib.hid (EB.out.trans (bw.mono EB.out.size))
      clear hy bw E1 EB G3
      go_wp2_with (refine wpList_store_row rfl 30 (.tmp 11) (.tmp 47) rfl wb.heap.size (bva y) rfl rfl 30 (bva (List.replicate 32 0)) (heap_alloc_new _ _) HJY.out (by rw [bva_size, bva_size, HY32.out]; rfl) (bva_one _) ?_
                   generalize hwc : World.setRow _ _ _ = wc
                   have d1 : Blk wc w.heap.size (bva k) 30 := by rw [← hwc]; exact blk_past D1.out
                   have d2 : Blk wc wb.heap.size (bva y) 30 := by rw [← hwc]; exact blk_new _
                   have d3 : Below w.heap.size w wc := by rw [← hwc]; exact below_new DB.out DB.out.size
                   have HS := Lib.hid (show Blk wc.drew w.heap.size (bva k) 30 ∧ Blk wc.drew wb.heap.size (bva y) 30 ∧ Below w.heap.size w wc.drew from ⟨d1, d2, d3.drew⟩)
                   clear d1 d2 d3 hwc D1 DB)
      have hat : ∀ W, (Instr.arrayAt 34 (.slice (some ⟨wb.heap.size, 0, none⟩) 16 32)).run Try.prog W = .ok (.pointer (some ⟨wb.heap.size, 0, none⟩)) W := fun W => run_arrayAt W 34 _ _ _ _ _ Try.underlying34 (Nat.le_refl _)
      have HI : Hid ((Try.prog.info? 30).map (·.size) = some (bva k).size) := by rw [bva_size, HK.out]; exact info33
      have HS16 : Hid ((Try.prog.info? 34).map (·.size) = some (bv (y.take 16)).length) := by rw [bv_length, List.length_take, HY32.out]; exact info_sum
      obtain ⟨v, hv⟩ : ∃ v, v = sealL k l := ⟨_, rfl⟩
      have HV := Lib.hid hv
      have heq := eq_sum v (by rw [hv]; exact sealL_length k l)
      clear hv
      refine wp_region_held_drew (S := fun w' => Blk w' w.heap.size (bva k) 30 ∧ Blk w' wb.heap.size (bva y) 30 ∧ Below w.heap.size w w') (by kernel_rfl) HS.out (fun hh => ?_)
      have HH := Lib.hid hh
      clear hh HS
      refine wpAnyH_take (i := 0) (v := .agg (bva k)) rfl (by kernel_rfl) (by kernel_rfl) (by kernel_rfl) (fun _ _ _ h => h) (Or.inl ⟨by rfl, fun w' hw' => ?p0⟩) HH.out ?_
      case p0 => exact exec_load 30 (.tmp 3) rfl rfl hw'.1 Try.underlying30 rfl HI.out
      refine wpAnyH_take (i := 1) (v := ?vp1) rfl (by kernel_rfl) (by kernel_rfl) (by kernel_rfl) (fun _ _ _ h => h) (Or.inl ⟨by rfl, fun w' _ => ?p1⟩) HH.out ?_
      case p1 => (go_simp; try with_reducible rfl)
      refine wpAnyH_take (i := 3) (v := ?vp3) rfl (by kernel_rfl) (by kernel_rfl) (by kernel_rfl) (fun _ _ _ h => h) (Or.inl ⟨by rfl, fun w' _ => ?p3⟩) HH.out ?_
      case p3 => (go_simp; try with_reducible rfl)
      refine wpAnyH_take (i := 4) (v := ?vp4) rfl (by kernel_rfl) (by kernel_rfl) (by kernel_rfl) (fun _ _ _ h => h) (Or.inl ⟨by rfl, fun w' _ => ?p4⟩) HH.out ?_
      case p4 => (go_simp; try with_reducible rfl)
      refine wpAnyH_take (i := 5) (v := .agg (bva v)) rfl (by kernel_rfl) (by kernel_rfl) (by kernel_rfl) (fun _ _ _ h => h) (Or.inl ⟨by rfl, fun w' hw' => ?p5⟩) HH.out ?_
      case p5 => (rw [HV.out, ← HY.out]; exact exec_load_mid 34 (.tmp 52) rfl wb.heap.size 0 rfl (bv (y.take 16)) _ (range_front hw'.2.1) Try.underlying34 rfl HS16.out)
      refine wpAnyH_ready (rs := [2]) (by kernel_rfl) (by simp) (AllReadyH.cons rfl (fun K hK => ?_) AllReadyH.nil)
      go_simp
      refine (seal_any k HK.out A n n l _ HL.out hc hm ((HR.out.below HH.out.2.2).more HH.out.2.2.size) (by omega)).mono ?_
      rintro e wd ⟨rfl, bw⟩
      rw [← HV.out]
      go_simp
      refine hK.out _ _ ⟨HH.out.1.below bw, HH.out.2.1.below bw, HH.out.2.2.trans (bw.mono HH.out.2.2.size)⟩ (fun hh => ?_)
      have HH' := Lib.hid hh
      clear hh hK K HH bw
      have HH := Lib.hid HH'.out
      clear HH'
      refine wpAnyH_take (i := 6) (v := ?vp6) rfl (by kernel_rfl) (by kernel_rfl) (by kernel_rfl) (fun _ _ _ h => h) (Or.inl ⟨by rfl, fun w' _ => ?p6⟩) HH.out ?_
      case p6 => (go_simp; try with_reducible rfl)
      refine wpAnyH_take (i := 7) (v := ?vp7) rfl (by kernel_rfl) (by kernel_rfl) (by kernel_rfl) (fun _ _ _ h => h) (Or.inl ⟨by rfl, fun w' _ => ?p7⟩) HH.out ?_
      case p7 => (go_simp; try with_reducible rfl)
      refine wpAnyH_done (by kernel_rfl) ?_ _
      go_wp2_with fail
      go_ret
      exact ⟨rfl, HH.out.2.2⟩
    · go_wp2_with fail
      refine (write_any g (k ++ l.take r) (l.drop r) (Option.map (fun x => x.add r) A) (n - r) (c - r) _ (by rw [List.length_drop, HL.out]) (by omega) (by unfold maxLen; omega) G3.out ?_ (by rw [List.length_append, List.length_take, HK.out, HL.out]; omega)).mono ?_
      · cases A with
        | none =>
          have hl0 : l = [] := by
            cases l with
            | nil => rfl
            | cons b t => obtain ⟨_, h, _⟩ := HR.out 0 _ rfl; cases h
          rw [hl0, List.drop_nil]; exact Rf.none'
        | some ad => exact Rf.of_rd ((HR.out.drop r).below DB.out) hgw
      rintro e w5 ⟨rfl, hG, gr⟩
      have C1 := Lib.hid (blk_far D1.out gr hgk)
      have CB := Lib.hid (DB.out.grown gr DB.out.size (fun k hk => by injection hk with hk; omega))
      have G4 := Lib.hid (show HashIs w5 g (k ++ l) from by first | (rw [List.append_assoc, List.take_append_drop] at hG; exact hG) | (rw [List.append_nil, List.take_of_length_le (by rw [HL.out]; exact Nat.le_refl _)] at hG; exact hG))
      clear hG gr D1 DB G3
      go_wp2_with fail
      refine (hsum_any g (k ++ l) _ G4.out (by rw [List.length_append, HK.out, HL.out]; omega)).mono ?_
      rintro e w6 ⟨rfl, bw⟩
      obtain ⟨x, hx⟩ : ∃ x, shaL (k ++ l) = x := ⟨_, rfl⟩
      have HX : Hid (x = shaL (k ++ l)) := hx.symm
      have HX32 : Hid (x.length = 32) := by show _ = _; rw [← hx]; exact shaL_length _
      have HJX : Hid ((Try.prog.info? 30).map (·.size) = some (bva x).size) := by rw [bva_size, HX32.out]; exact info33
      rw [hx]
      have D1 := Lib.hid (C1.out.below bw)
      have DB := Lib.hid (CB.out.trans (bw.mono CB.out.size))
      clear hx bw C1 CB G4
      go_wp2_with (refine wpList_store_row rfl 30 (.tmp 9) (.tmp 38) rfl w6.heap.size (bva x) rfl rfl 30 (bva (List.replicate 32 0)) (heap_alloc_new _ _) HJX.out (by rw [bva_size, bva_size, HX32.out]; rfl) (bva_one _) ?_
                   generalize hw7 : World.setRow _ _ _ = w7
                   have d1 : Blk w7 w.heap.size (bva k) 30 := by rw [← hw7]; exact blk_past D1.out
                   have d2 : Blk w7 w6.heap.size (bva x) 30 := by rw [← hw7]; exact blk_new _
                   have d3 : Below w.heap.size w w7 := by rw [← hw7]; exact below_new DB.out DB.out.size
                   have E1 := Lib.hid d1
                   have E2 := Lib.hid d2
                   have EB := Lib.hid d3
                   clear d1 d2 d3 hw7 D1 DB)
      refine (new_any' _).mono ?_
      rintro e w8 ⟨g', rfl, hg1, hg2, hG, bw⟩
      have hgw' : w.heap.size ≤ g' := Nat.le_trans EB.out.size hg1
      have hgk' : w.heap.size ≠ g' := by have := E1.out.lt; omega
      have hgx' : w6.heap.size ≠ g' := by have := E2.out.lt; omega
      have F1 := Lib.hid (E1.out.below bw)
      have F2 := Lib.hid (E2.out.below bw)
      have FB := Lib.hid (EB.out.trans (bw.mono EB.out.size))
      have G1 := Lib.hid hG
      clear bw hG hg1 hg2 E1 E2 EB
      go_wp2_with fail
      refine (write_any g' [] k (some ⟨w.heap.size, 0, none⟩) 32 32 _ HK.out (by omega) (by unfold maxLen; omega) G1.out (rf_cells F1.out hgk') (by show 0 + 32 ≤ _; omega)).mono ?_
      rintro e w9 ⟨rfl, hG, gr⟩
      have D1 := Lib.hid (blk_far F1.out gr hgk')
      have D2 := Lib.hid (blk_far F2.out gr hgx')
      have DB := Lib.hid (FB.out.grown gr FB.out.size (fun k hk => by injection hk with hk; omega))
      have G2 := Lib.hid (show HashIs w9 g' k from hG)
      clear hG gr F1 F2 FB G1
      go_wp2_with fail
      refine (write_any g' k x (some ⟨w6.heap.size, 0, none⟩) 32 32 _ HX32.out (by omega) (by unfold maxLen; omega) G2.out (rf_cells D2.out hgx') (by rw [HK.out]; omega)).mono ?_
      rintro e wa ⟨rfl, hG, gr⟩
      have E1 := Lib.hid (blk_far D1.out gr hgk')
      have EB := Lib.hid (DB.out.grown gr DB.out.size (fun k hk => by injection hk with hk; omega))
      have G3 := Lib.hid hG
      clear hG gr D1 D2 DB G2
      go_wp2_with fail
      refine (hsum_any g' (k ++ x) _ G3.out (by rw [List.length_append, HK.out, HX32.out]; omega)).mono ?_
      rintro e wb ⟨rfl, bw⟩
      obtain ⟨y, hy⟩ : ∃ y, shaL (k ++ x) = y := ⟨_, rfl⟩
      have HY : Hid (y.take 16 = sealL k l) := by show _ = _; rw [sealL, ← HX.out, hy]
      have HY32 : Hid (y.length = 32) := by show _ = _; rw [← hy]; exact shaL_length _
      have HJY : Hid ((Try.prog.info? 30).map (·.size) = some (bva y).size) := by rw [bva_size, HY32.out]; exact info33
      rw [hy]
      have D1 := Lib.hid (E1.out.below bw)
      have DB := Lib.hid (EB.out.trans (bw.mono EB.out.size))
      clear hy bw E1 EB G3
      go_wp2_with (refine wpList_store_row rfl 30 (.tmp 11) (.tmp 47) rfl wb.heap.size (bva y) rfl rfl 30 (bva (List.replicate 32 0)) (heap_alloc_new _ _) HJY.out (by rw [bva_size, bva_size, HY32.out]; rfl) (bva_one _) ?_
                   generalize hwc : World.setRow _ _ _ = wc
                   have d1 : Blk wc w.heap.size (bva k) 30 := by rw [← hwc]; exact blk_past D1.out
                   have d2 : Blk wc wb.heap.size (bva y) 30 := by rw [← hwc]; exact blk_new _
                   have d3 : Below w.heap.size w wc := by rw [← hwc]; exact below_new DB.out DB.out.size
                   have HS := Lib.hid (show Blk wc.drew w.heap.size (bva k) 30 ∧ Blk wc.drew wb.heap.size (bva y) 30 ∧ Below w.heap.size w wc.drew from ⟨d1, d2, d3.drew⟩)
                   clear d1 d2 d3 hwc D1 DB)
      have hat : ∀ W, (Instr.arrayAt 34 (.slice (some ⟨wb.heap.size, 0, none⟩) 16 32)).run Try.prog W = .ok (.pointer (some ⟨wb.heap.size, 0, none⟩)) W := fun W => run_arrayAt W 34 _ _ _ _ _ Try.underlying34 (Nat.le_refl _)
      have HI : Hid ((Try.prog.info? 30).map (·.size) = some (bva k).size) := by rw [bva_size, HK.out]; exact info33
      have HS16 : Hid ((Try.prog.info? 34).map (·.size) = some (bv (y.take 16)).length) := by rw [bv_length, List.length_take, HY32.out]; exact info_sum
      obtain ⟨v, hv⟩ : ∃ v, v = sealL k l := ⟨_, rfl⟩
      have HV := Lib.hid hv
      have heq := eq_sum v (by rw [hv]; exact sealL_length k l)
      clear hv
      refine wp_region_held_drew (S := fun w' => Blk w' w.heap.size (bva k) 30 ∧ Blk w' wb.heap.size (bva y) 30 ∧ Below w.heap.size w w') (by kernel_rfl) HS.out (fun hh => ?_)
      have HH := Lib.hid hh
      clear hh HS
      refine wpAnyH_take (i := 0) (v := .agg (bva k)) rfl (by kernel_rfl) (by kernel_rfl) (by kernel_rfl) (fun _ _ _ h => h) (Or.inl ⟨by rfl, fun w' hw' => ?q0⟩) HH.out ?_
      case q0 => exact exec_load 30 (.tmp 3) rfl rfl hw'.1 Try.underlying30 rfl HI.out
      refine wpAnyH_take (i := 1) (v := ?vq1) rfl (by kernel_rfl) (by kernel_rfl) (by kernel_rfl) (fun _ _ _ h => h) (Or.inl ⟨by rfl, fun w' _ => ?q1⟩) HH.out ?_
      case q1 => (go_simp; try with_reducible rfl)
      refine wpAnyH_take (i := 3) (v := ?vq3) rfl (by kernel_rfl) (by kernel_rfl) (by kernel_rfl) (fun _ _ _ h => h) (Or.inl ⟨by rfl, fun w' _ => ?q3⟩) HH.out ?_
      case q3 => (go_simp; try with_reducible rfl)
      refine wpAnyH_take (i := 4) (v := ?vq4) rfl (by kernel_rfl) (by kernel_rfl) (by kernel_rfl) (fun _ _ _ h => h) (Or.inl ⟨by rfl, fun w' _ => ?q4⟩) HH.out ?_
      case q4 => (go_simp; try with_reducible rfl)
      refine wpAnyH_take (i := 5) (v := .agg (bva v)) rfl (by kernel_rfl) (by kernel_rfl) (by kernel_rfl) (fun _ _ _ h => h) (Or.inl ⟨by rfl, fun w' hw' => ?q5⟩) HH.out ?_
      case q5 => (rw [HV.out, ← HY.out]; exact exec_load_mid 34 (.tmp 52) rfl wb.heap.size 0 rfl (bv (y.take 16)) _ (range_front hw'.2.1) Try.underlying34 rfl HS16.out)
      refine wpAnyH_ready (rs := [2]) (by kernel_rfl) (by simp) (AllReadyH.cons rfl (fun K hK => ?_) AllReadyH.nil)
      go_simp
      refine (seal_any k HK.out A n c l _ HL.out hc hm ((HR.out.below HH.out.2.2).more HH.out.2.2.size) (by omega)).mono ?_
      rintro e wd ⟨rfl, bw⟩
      rw [← HV.out]
      go_simp
      refine hK.out _ _ ⟨HH.out.1.below bw, HH.out.2.1.below bw, HH.out.2.2.trans (bw.mono HH.out.2.2.size)⟩ (fun hh => ?_)
      have HH' := Lib.hid hh
      clear hh hK K HH bw
      have HH := Lib.hid HH'.out
      clear HH'
      refine wpAnyH_take (i := 6) (v := ?vq6) rfl (by kernel_rfl) (by kernel_rfl) (by kernel_rfl) (fun _ _ _ h => h) (Or.inl ⟨by rfl, fun w' _ => ?q6⟩) HH.out ?_
      case q6 => (go_simp; try with_reducible rfl)
      refine wpAnyH_take (i := 7) (v := ?vq7) rfl (by kernel_rfl) (by kernel_rfl) (by kernel_rfl) (fun _ _ _ h => h) (Or.inl ⟨by rfl, fun w' _ => ?q7⟩) HH.out ?_
      case q7 => (go_simp; try with_reducible rfl)
      refine wpAnyH_done (by kernel_rfl) ?_ _
      go_wp2_with fail
      go_ret
      exact ⟨rfl, HH.out.2.2⟩
  · have hn' : decide (200 < (n : Int)) = true := by simp; omega
    go_enter Try.func11, Try.ntmps11
    go_wp2_with fail
    refine (seAwake_any _).mono ?_
    rintro e w1 ⟨rfl, bw⟩
    have BC := Lib.hid (BB.out.trans (bw.mono BB.out.size))
    clear bw B1 BB
    go_wp2_with fail
    go_ret
    exact ⟨rfl, BC.out⟩
theorem sealKeys_own : ownKnob Try.prog.godebug = none := by kernel_rfl
theorem sealKeys_laid : laidOutB Try.prog = true := by kernel_rfl

set_option maxRecDepth 100000 in
theorem sealKeys_lifted (os : Os) (started : os.Started) (H : Type) (enc : TypeId × Value → H) :
    ReturnsInHanded {} Try.checked os 11 .any (Rows.sealKeysSpec.pre6 enc Try.prog Try.f11 Rows.sealKeysRow.domain false) (Rows.sealKeysSpec.post enc Try.prog Try.f11 false true false false) := by
  refine returnsInHanded_of_change (C := Try.checked) sealKeys_own started (by kernel_rfl) Try.func11
    (ChangeSpec.witness6 (enc := enc) (C := Try.checked) false ⟨#[], #[.agg #[.int .u8 0, .int .u8 0, .int .u8 0, .int .u8 0, .int .u8 0, .int .u8 0, .int .u8 0, .int .u8 0, .int .u8 0, .int .u8 0, .int .u8 0, .int .u8 0, .int .u8 0, .int .u8 0, .int .u8 0, .int .u8 0, .int .u8 0, .int .u8 0, .int .u8 0, .int .u8 0, .int .u8 0, .int .u8 0, .int .u8 0, .int .u8 0, .int .u8 0, .int .u8 0, .int .u8 0, .int .u8 0, .int .u8 0, .int .u8 0, .int .u8 0, .int .u8 0], .slice none 0 0, .int .u8 0], []⟩ 8 (by kernel_rfl) (by kernel_rfl) (by kernel_rfl) (by kernel_rfl)) ?_
  intro W base args ds gs before hval0 hW _ _
  have hval : ∀ (j : Nat) t v, Try.f11.params[j]? = some t → args[j]? = some v → Value.okWide Try.prog W .any base t v := hval0
  have hW' := hW
  obtain ⟨p, q, hA0, hV, rfl, hfz, hnd⟩ := hW
  have hA : DataW.TrodAll enc Try.prog W 0 (fun _ => true) true Try.f11.params.toList args.toList ds p := hA0
  rw [Try.params11] at hA hval
  obtain ⟨v0, vs0, d0, ds0, p0, q0, hargs, rfl, rfl, h0, r0⟩ := trodAll_cons hA
  obtain ⟨v1, vs1, d1, ds1, p1, q1, rfl, rfl, rfl, h1, r1⟩ := trodAll_cons r0
  obtain ⟨v2, vs2, d2, ds2, p2, q2, rfl, rfl, rfl, h2, r2⟩ := trodAll_cons r1
  obtain ⟨rfl, rfl, rfl⟩ := trodAll_nil r2
  obtain rfl : args = #[v0, v1, v2] := by cases args; simp_all
  obtain ⟨rfl, rfl⟩ := trodVars_none hV
  have lt0 : ∀ x ∈ p0, x.block < W.heap.size := by obtain ⟨m, hm⟩ := h0; exact DataW.trod_lt m _ _ _ hm
  obtain ⟨l0, hl0, rfl⟩ := open_u8s Try.underlying30 Try.underlying5 (by kernel_rfl) (by kernel_rfl) (hval 0 30 v0 rfl rfl) h0
  obtain ⟨a1, n1, c1, rfl⟩ := okWide_slice Try.underlying28 (hval 1 28 v1 rfl rfl)
  have lt1 : ∀ x ∈ p1, x.block < W.heap.size := by obtain ⟨m, hm⟩ := h1; exact DataW.trod_lt m _ _ _ hm
  obtain ⟨l1, hl1, hc1, hm1, hr1⟩ := open_bytes Try.underlying28 Try.underlying5 (by kernel_rfl) h1
  obtain ⟨a2, rfl, rfl, rfl, w2⟩ := open_int Try.underlying5 (hval 2 5 v2 rfl rfl) h2
  have b2 := bounds_u8 w2
  clear hA0 hval0
  refine (sealKeys_any W l0 hl0 a1 n1 c1 l1 hl1 hc1 hm1 hr1 a2 b2).mono fun e W' ⟨he, bel⟩ => ?_
  subst he
  exact ⟨_, rfl, _, _, _, [], _, [], hW', trodAll_mk1 (shut_bool Try.underlying4 _), (trodAll_cons_mk (Below.trod sealKeys_laid (by kernel_rfl) (of_decide_eq_true (by kernel_rfl)) h0 bel lt0) (trodAll_cons_mk (Below.trod sealKeys_laid (by kernel_rfl) (of_decide_eq_true (by kernel_rfl)) h1 bel lt1) (trodAll_cons_mk (shut_int Try.underlying5 w2) trodAll_mk0))), rfl, bel.frame _, fun h => by cases h⟩

theorem sealKeys_holds : Rows.SealKeysSaid :=
  OpenClaim.holds_of_wide 11 Try.f11 rfl rfl rfl rfl rfl rfl rfl ⟨rfl, rfl, rfl, rfl, rfl⟩ rfl rfl rfl rfl rfl (by kernel_rfl) Try.func11 (by kernel_rfl)
    (of_decide_eq_true (by kernel_rfl)) (by unfold Func.isWrapper; rw [if_neg (of_decide_eq_false (by kernel_rfl))]; exact ⟨rfl, rfl⟩)
    (fun os started H enc _ => sealKeys_lifted os started H enc)

#print axioms sealKeys_holds

end Go.Proofs.Ytdemfaolkmillaa
