/-
  The contracts of the reference of layer 4: Sum.
-/
import Derived.Test.YtobkkbpeoohfkaaSeRef
namespace Go.Proofs.Ytobkkbpeoohfkaa
open Go.RowKit
attribute [local go_sem ↓] Go.wp_at_zero Go.wp_at_succ
set_option maxHeartbeats 3200000 in
theorem rseal_any (k : List UInt8) (hk : k.length = 32) (A : Option Addr) (n c : Nat) (l : List UInt8) (w : World) (hl : l.length = n) (hr : Rd w.heap.size w A (bv l)) (hn : n ≤ 1000000) :
    Calls Try.prog 27 #[.agg (bva k), .slice A n c] w (RetB (.agg (bva (sealL k l))) w) := by
  have hz : ∀ W, (zeroValue 35).run Try.prog W = .ok (.agg (bva zeroSum)) W := fun _ => by kernel_rfl
  have hz' : ∀ W, (zeroValue 23).run Try.prog W = .ok (.agg (bva (List.replicate 32 0))) W := fun _ => by kernel_rfl
  have HL := Lib.hid hl
  have HR := Lib.hid hr
  have HK := Lib.hid hk
  have HKI : Hid ((Try.prog.info? 23).map (·.size) = some (bva k).size) := by rw [bva_size, hk]; exact info33
  have hb : Below w.heap.size w ((w.alloc (.cells (bva k) 23)).alloc (.cells (bva zeroSum) 35)) := ((Below.refl _ _).alloc (Nat.le_refl _) _).alloc (by simp) _
  obtain ⟨b1, b2⟩ : Blk ((w.alloc (.cells (bva k) 23)).alloc (.cells (bva zeroSum) 35)) w.heap.size (bva k) 23 ∧ Blk ((w.alloc (.cells (bva k) 23)).alloc (.cells (bva zeroSum) 35)) (w.heap.size + 1) (bva zeroSum) 35 := ⟨heap_alloc2_old _ _ _, heap_alloc2_new _ _ _⟩
  have B1 := Lib.hid b1
  have B2 := Lib.hid b2
  have BB := Lib.hid hb
  clear hl hr hk b1 b2 hb
  go_enter Try.func27, Try.ntmps27
  go_wp2_with (refine wpList_load_row rfl 23 (.tmp 2) rfl w.heap.size rfl 23 (bva k) (0, 0) _ B1.out Try.underlying23 rfl HKI.out ?_)
  refine (rafter_any k HK.out A n c l _ HL.out ((HR.out.below BB.out).more BB.out.size) hn).mono ?_
  rintro e w1 ⟨A1, n1, c1, rfl, ho, bw⟩
  have hn1 : (k ++ l).length = n1 := own_blen ho
  have hn1' : n1 ≤ 2000000 := by rw [← hn1, List.length_append, HK.out, HL.out]; omega
  have O1 := Lib.hid (Rd.own ho)
  have HN1 := Lib.hid hn1
  have C1 := Lib.hid (B1.out.below bw)
  have C2 := Lib.hid (B2.out.below bw)
  have CB := Lib.hid (BB.out.trans (bw.mono BB.out.size))
  clear ho hn1 bw B1 B2 BB
  go_wp2_with fail
  refine (rsum_any A1 n1 c1 (k ++ l) _ HN1.out (Nat.le_refl _) O1.out (by omega)).mono ?_
  rintro e w2 ⟨rfl, bw⟩
  obtain ⟨m, hm⟩ : ∃ m, shaL (k ++ l) = m := ⟨_, rfl⟩
  have HM : Hid (m.length = 32) := by show _ = _; rw [← hm]; exact shaL_length _
  have HM0 : Hid (m = shaL (k ++ l)) := hm.symm
  have HMI : Hid ((Try.prog.info? 23).map (·.size) = some (bva m).size) := by rw [bva_size, HM.out]; exact info33
  rw [hm]
  have D1 := Lib.hid (C1.out.below bw)
  have D2 := Lib.hid (C2.out.below bw)
  have DB := Lib.hid (CB.out.trans (bw.mono CB.out.size))
  clear hm bw C1 C2 CB O1
  go_wp2_with (refine wpList_store_row rfl 23 (.tmp 5) (.tmp 11) rfl w2.heap.size (bva m) rfl rfl 23 (bva (List.replicate 32 0)) (heap_alloc_new _ _) HMI.out (by rw [bva_size, bva_size, HM.out]; rfl) (bva_one _) ?_
               generalize hw3 : World.setRow _ _ _ = w3
               have d1 : Blk w3 w.heap.size (bva k) 23 := by rw [← hw3]; exact blk_past D1.out
               have d2 : Blk w3 (w.heap.size + 1) (bva zeroSum) 35 := by rw [← hw3]; exact blk_past D2.out
               have d3 : Blk w3 w2.heap.size (bva m) 23 := by rw [← hw3]; exact blk_new _
               have d4 : Below w.heap.size w w3 := by rw [← hw3]; exact below_new DB.out DB.out.size
               have n1 : w.heap.size + 1 < w2.heap.size := D2.out.lt
               have n3 : Hid (w2.heap.size + 1 ≤ w3.heap.size) := d3.lt
               have E1 := Lib.hid d1
               have E2 := Lib.hid d2
               have E3 := Lib.hid d3
               have EB := Lib.hid d4
               clear d1 d2 d3 d4 hw3 D1 D2 DB)
  have HO : Hid (w3.ownsRow (w2.heap.size + 1) 5 1 (.slice none 0 0) 0 (bv (m.take 0))) := own_none _ _ _
  go_loopw [6, 7] (fun v i wr => ∃ (j : Nat) (A' : Option Addr) (c' : Nat), j ≤ 32 ∧ i = .int .i64 j ∧ v = .slice A' j c' ∧ Blk wr w.heap.size (bva k) 23 ∧ Blk wr (w.heap.size + 1) (bva zeroSum) 35 ∧ Blk wr w2.heap.size (bva m) 23 ∧ Below w.heap.size w wr ∧ Hid (w2.heap.size + 1 ≤ wr.heap.size) ∧ wr.ownsRow (w2.heap.size + 1) 5 1 (.slice A' j c') j (bv (m.take j))) (fun _ i _ => 32 - (intOf i).toNat)
  case atStart => exact ⟨0, none, 0, Nat.zero_le _, rfl, rfl, E1.out, E2.out, E3.out, EB.out, n3, HO.out⟩
  case round =>
    clear E1 E2 E3 EB HO n3
    obtain ⟨j, A', c', hj, rfl, rfl, R1, R2, R3, RB, HS, ho⟩ := hrel
    have B1 := Lib.hid R1
    have B2 := Lib.hid R2
    have B3 := Lib.hid R3
    have BB := Lib.hid RB
    have HO := Lib.hid ho
    by_cases hlt : j < 32
    · obtain ⟨x, hx⟩ : ∃ x, x = m.getD j 0 := ⟨_, rfl⟩
      have C1 := R3.cellb (k := j) (by rw [HM.out]; exact hlt)
      rw [← hx] at C1
      have HX := Lib.hid hx
      have j0 : (0 : Int) ≤ (j : Int) := by omega
      have j1 : (j : Int) < 32 := by omega
      clear hx R1 R2 R3 RB ho
      go_wp2_with (at_builtin
                   refine wpList_app _ rfl (.tmp 16) (.tmp 20) _ rfl bytesElt (base := w2.heap.size + 1) (v := .slice A' j c') rfl (own_below HO.out ((Below.refl _ _).alloc (Nat.le_refl _) _)) rfl (Rd.lit wr 5 (bv [x])) rfl (bv_one _) ?_ ?_ ?_
                   · omega
                   · have := HS.out; simp; omega
                   intro A5 c5 w5 ho5 hg5 _)
      go_roundw
      case rel =>
        have ho4 := own_below HO.out ((Below.refl wr.heap.size wr).alloc (Nat.le_refl _) (.cells (bv [x]).toArray 5))
        refine ⟨j + 1, A5, c5, by omega, by go_num, rfl, blk_apart (B1.out.below ((Below.refl _ _).alloc (Nat.le_refl _) _)) hg5 (by intro e; have := (ho4.lt _ e.symm).1; omega), blk_apart (B2.out.below ((Below.refl _ _).alloc (Nat.le_refl _) _)) hg5 (by intro e; have := (ho4.lt _ e.symm).1; omega), blk_apart (B3.out.below ((Below.refl _ _).alloc (Nat.le_refl _) _)) hg5 (by intro e; have := (ho4.lt _ e.symm).1; omega), app_below (BB.out.alloc BB.out.size _) ho4 hg5 (by omega) (by simp; have := BB.out.size; omega), (by have h1 := hg5.size; have h2 := HS.out; simp at h1; show _ ≤ _; omega), ?_⟩
        refine own_eq ho5 rfl ?_
        rw [HX.out]; exact take_next (by rw [HM.out]; exact hlt)
      case measure => (simp [intOf]; try omega)
    · obtain rfl : j = 32 := by omega
      have HI : Hid ((Try.prog.info? 35).map (·.size) = some (bva (sealL k l)).size) := by rw [bva_size, sealL_length]; exact info_sum
      have O := Lib.hid (Rd.own (own_eq ho rfl (xs' := bv m) (by rw [List.take_of_length_le (by rw [HM.out]; exact Nat.le_refl _)])))
      clear R1 R2 R3 RB ho HO
      go_wp2_with (refine wpList_load_row rfl 23 (.tmp 2) rfl w.heap.size rfl 23 (bva k) (0, 0) _ B1.out Try.underlying23 rfl HKI.out ?_)
      refine (rafter_any k HK.out A' 32 c' m _ HM.out O.out (by omega)).mono ?_
      rintro e w4 ⟨A4, n4, c4, rfl, ho, bw⟩
      have hn4 : (k ++ m).length = n4 := own_blen ho
      have hn4' : n4 ≤ 2000000 := by rw [← hn4, List.length_append, HK.out, HM.out]; omega
      have O4 := Lib.hid (Rd.own ho)
      have HN4 := Lib.hid hn4
      have D2 := Lib.hid (B2.out.below bw)
      have DB := Lib.hid (BB.out.trans (bw.mono BB.out.size))
      clear ho hn4 bw B1 B2 B3 BB O
      go_wp2_with fail
      refine (rsum_any A4 n4 c4 (k ++ m) _ HN4.out (Nat.le_refl _) O4.out (by omega)).mono ?_
      rintro e w5 ⟨rfl, bw⟩
      have E2 := Lib.hid (D2.out.below bw)
      have EB := Lib.hid (DB.out.trans (bw.mono DB.out.size))
      clear bw D2 DB O4
      go_wp2_with fail
      refine (rfirst16_any (shaL (k ++ m)) (shaL_length _) _).mono ?_
      rintro e w6 ⟨rfl, bw⟩
      have HV : Hid ((shaL (k ++ m)).take 16 = sealL k l) := by show _ = _; rw [sealL, HM0.out]
      rw [HV.out]
      have F2 := Lib.hid (E2.out.below bw)
      have FB := Lib.hid (EB.out.trans (bw.mono EB.out.size))
      clear bw E2 EB
      go_wp2_with (refine wpList_store_row rfl 35 (.tmp 4) (.tmp 26) rfl (w.heap.size + 1) (bva (sealL k l)) rfl rfl 35 (bva zeroSum) F2.out HI.out (by rw [bva_size, bva_size, sealL_length]; rfl) (bva_one _) ?_)
      exact bodyPost_ret (v := .agg (bva (sealL k l))) (results_cell_row Try.results27 _ _ (w.heap.size + 1) 35 (bva (sealL k l)) (0, 0) _ rfl (setRow_heap _ _ _ _ _ _ F2.out) Try.underlying35 rfl HI.out) rfl ⟨rfl, below_setRow FB.out (by omega) _⟩
end Go.Proofs.Ytobkkbpeoohfkaa
