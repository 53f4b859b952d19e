/-
  The contracts of the reference's First, Rounds: the words that the primes' roots have behind the point.
-/
import Derived.Test.YtobkkbpeoohfkaaShRoot
namespace Go.Proofs.Ytobkkbpeoohfkaa
open Go.RowKit
theorem primes_small (L : Nat) (hL : L ≤ 65536) (k : Nat) (hk : k < (primesTo L).length) : (primesTo L).getD k 0 < 65536 := by
  rw [List.getD_eq_getElem?_getD, List.getElem?_eq_getElem hk, Option.getD_some]
  have h : (primesTo L)[k] ∈ (List.range L).filter isPrime := List.getElem_mem hk
  exact Nat.lt_of_lt_of_le (List.mem_range.1 (List.mem_filter.1 h).1) hL
theorem lay_map {α : Type} {z : α} {f : Nat → α} (P : List Nat) {N : Nat} (hN : P.length = N) : layTo z (fun i => f (P.getD i 0)) N N = P.map f := by
  rw [layTo_all]
  apply List.ext_getElem?
  intro j
  rw [List.getElem?_map, List.getElem?_map]
  by_cases h : j < N
  · rw [List.getElem?_range h, List.getElem?_eq_getElem (by omega), Option.map_some, Option.map_some, List.getD_eq_getElem?_getD, List.getElem?_eq_getElem (by omega), Option.getD_some]
  · rw [List.getElem?_eq_none (by simp; omega), List.getElem?_eq_none (by omega)]; rfl

set_option maxRecDepth 100000 in
set_option maxHeartbeats 1600000 in
theorem rfirst_any (w : World) : Calls Try.prog 53 #[] w (RetB (.agg (uv firstL)) w) := by
  have hz : ∀ W, (zeroValue 60).run Try.prog W = .ok (.agg (uv (List.replicate 8 0))) W := fun _ => by kernel_rfl
  have HP : Hid ((primesTo 20).length = 8) := by show _ = _; rw [primes20]; rfl
  have HPB : Hid (∀ k, k < 8 → (primesTo 20).getD k 0 < 65536) := fun k hk => primes_small 20 (by decide) k (by rw [HP.out]; exact hk)
  have HE : Hid (layTo 0 (fun i => rootL ((primesTo 20).getD i 0) 2) 8 8 = firstL) := by
    show _ = _
    exact (lay_map (f := fun p => rootL p 2) _ HP.out).trans first_roots
  go_enter Try.func53, Try.ntmps53
  go_wp2_with (refine wpList_store_row rfl 60 (.tmp 1) (.tmp 4) rfl (w.heap.size + 1) (uv (List.replicate 8 0)) rfl rfl 60 (uv (List.replicate 8 0)) (heap_alloc2_new _ _ _) info28 rfl (uv_one _) ?_
               generalize hww : World.setRow _ _ _ = w1
               have q0 : Blk w1 w.heap.size (uv (List.replicate 8 0)) 60 := by rw [← hww]; unfold Blk; rw [setRow_other _ _ _ _ (by omega)]; exact heap_alloc2_old _ _ _
               have q1 : Blk w1 (w.heap.size + 1) (uv (List.replicate 8 0)) 60 := by rw [← hww]; exact setRow_heap _ _ _ _ _ _ (heap_alloc2_new _ _ _)
               have q2 : Below w.heap.size w w1 := by rw [← hww]; exact below_setRow (((Below.refl _ _).alloc (Nat.le_refl _) _).alloc (by simp) _) (by omega) _
               have Q0 := Lib.hid q0
               have Q1 := Lib.hid q1
               have Q2 := Lib.hid q2
               clear q0 q1 q2 hww hz)
  refine (primes_eight _).mono ?_
  rintro e w2 ⟨A2, n2, c2, rfl, ho2, bw2⟩
  have hn2 : n2 = 8 := by rw [← own_len ho2, iq_length, HP.out]
  subst hn2
  obtain ⟨g, rfl, hg1, _, _⟩ := own_addr ho2 (by omega)
  have hsz := Q1.out.lt
  have R0 := Lib.hid (Q0.out.below bw2)
  have R1 := Lib.hid (Q1.out.below bw2)
  have R2 := Lib.hid (Q2.out.trans (bw2.mono Q2.out.size))
  have R3 := Lib.hid ho2
  clear Q0 Q1 Q2 bw2 ho2
  go_wp2_with fail
  go_loopw [3] (fun i wr => ∃ k : Nat, k ≤ 8 ∧ i = .int .i64 k ∧ Blk wr w.heap.size (uv (List.replicate 8 0)) 60 ∧ Blk wr (w.heap.size + 1) (uv (layTo 0 (fun i => rootL ((primesTo 20).getD i 0) 2) 8 k)) 60 ∧ Below w.heap.size w wr ∧ wr.ownsRow w1.heap.size 3 1 (.slice (some ⟨g, 0, none⟩) 8 c2) 8 (iq (primesTo 20))) (fun i _ => 8 - (intOf i).toNat)
  case atStart => exact ⟨0, by omega, rfl, R0.out, R1.out, R2.out, R3.out⟩
  case round =>
    clear R0 R1 R2 R3
    obtain ⟨k, hk, rfl, B0, B1, hbel, how⟩ := hrel
    by_cases hlt : k < 8
    · obtain ⟨p, hp⟩ : ∃ p, p = (primesTo 20).getD k 0 := ⟨_, rfl⟩
      have hpb : p < 65536 := by rw [hp]; exact HPB.out k hlt
      have hcell := how.cellAt k (by omega)
      rw [iq_get (by rw [HP.out]; exact hlt), ← hp] at hcell
      have k0 : (0 : Int) ≤ (k : Int) := by omega
      have k1 : (k : Int) < 8 := by omega
      have G0 := Lib.hid B0
      have G1 := Lib.hid B1
      have GB := Lib.hid hbel
      have GO := Lib.hid how
      have HPK := Lib.hid hp
      clear hp B0 B1 hbel how
      go_wp2_with fail
      refine (root_any p 2 _ hpb (by omega)).mono ?_
      rintro e w3 ⟨rfl, bw3⟩
      have C0 := Lib.hid (G0.out.below bw3)
      have D1 := G1.out.below bw3
      have CB := Lib.hid (GB.out.trans (bw3.mono GB.out.size))
      have CO := Lib.hid (own_below GO.out bw3)
      have hcl := D1.cellu (k := k) (by rw [layTo_length]; exact hlt)
      obtain ⟨v, hv⟩ : ∃ v, v = (layTo 0 (fun i => rootL ((primesTo 20).getD i 0) 2) 8 k).getD k 0 := ⟨_, rfl⟩
      rw [← hv] at hcl
      have hfr := D1.free k
      have C1 := Lib.hid D1
      clear G0 G1 GB GO bw3 D1 hv hcell
      go_wp2_with fail
      go_roundw
      case rel =>
        refine ⟨k + 1, by omega, by go_num, C0.out.other (by omega) _ _, ?_, CB.out.setCell (by show w.heap.size ≤ w.heap.size + 1; omega) _, own_far CO.out (grown_setCell _ _ _ _) (fun j hj => by have := (CO.out.lt j hj).1; omega)⟩
        rw [layTo, ← HPK.out]; exact C1.out.set k _
      case measure => simp [intOf]; omega
    · obtain rfl : k = 8 := by omega
      rw [HE.out] at B1
      have G0 := Lib.hid B0
      have G1 := Lib.hid B1
      clear B0 B1 how
      go_wp2_with (first
        | (refine wpList_load_row rfl 60 (.tmp 1) rfl (w.heap.size + 1) rfl 60 (uv firstL) (0, 0) _ G1.out Try.underlying60 rfl info28 ?_)
        | (refine wpList_store_row rfl 60 (.tmp 0) (.tmp 17) rfl w.heap.size (uv firstL) rfl rfl 60 (uv (List.replicate 8 0)) G0.out info28 rfl (uv_one _) ?_))
      exact bodyPost_ret (v := .agg (uv firstL)) (results_cell_row Try.results53 _ _ w.heap.size 60 (uv firstL) (0, 0) _ rfl (setRow_heap _ _ _ _ _ _ G0.out) Try.underlying60 rfl info28) rfl ⟨rfl, below_setRow hbel (Nat.le_refl _) _⟩

set_option maxRecDepth 100000 in
set_option maxHeartbeats 1600000 in
theorem rrounds_any (w : World) : Calls Try.prog 63 #[] w (RetB (.agg (uv kL)) w) := by
  have hz : ∀ W, (zeroValue 83).run Try.prog W = .ok (.agg (uv (List.replicate 64 0))) W := fun _ => by kernel_rfl
  have HP : Hid ((primesTo 312).length = 64) := by show _ = _; rw [primes64]; rfl
  have HPB : Hid (∀ k, k < 64 → (primesTo 312).getD k 0 < 65536) := fun k hk => primes_small 312 (by decide) k (by rw [HP.out]; exact hk)
  have HE : Hid (layTo 0 (fun i => rootL ((primesTo 312).getD i 0) 3) 64 64 = kL) := by
    show _ = _
    exact (lay_map (f := fun p => rootL p 3) _ HP.out).trans round_roots
  go_enter Try.func63, Try.ntmps63
  go_wp2_with (refine wpList_store_row rfl 83 (.tmp 1) (.tmp 4) rfl (w.heap.size + 1) (uv (List.replicate 64 0)) rfl rfl 83 (uv (List.replicate 64 0)) (heap_alloc2_new _ _ _) info48 rfl (uv_one _) ?_
               generalize hww : World.setRow _ _ _ = w1
               have q0 : Blk w1 w.heap.size (uv (List.replicate 64 0)) 83 := by rw [← hww]; unfold Blk; rw [setRow_other _ _ _ _ (by omega)]; exact heap_alloc2_old _ _ _
               have q1 : Blk w1 (w.heap.size + 1) (uv (List.replicate 64 0)) 83 := by rw [← hww]; exact setRow_heap _ _ _ _ _ _ (heap_alloc2_new _ _ _)
               have q2 : Below w.heap.size w w1 := by rw [← hww]; exact below_setRow (((Below.refl _ _).alloc (Nat.le_refl _) _).alloc (by simp) _) (by omega) _
               have Q0 := Lib.hid q0
               have Q1 := Lib.hid q1
               have Q2 := Lib.hid q2
               clear q0 q1 q2 hww hz)
  refine (primes_many _).mono ?_
  rintro e w2 ⟨A2, n2, c2, rfl, ho2, bw2⟩
  have hn2 : n2 = 64 := by rw [← own_len ho2, iq_length, HP.out]
  subst hn2
  obtain ⟨g, rfl, hg1, _, _⟩ := own_addr ho2 (by omega)
  have hsz := Q1.out.lt
  have R0 := Lib.hid (Q0.out.below bw2)
  have R1 := Lib.hid (Q1.out.below bw2)
  have R2 := Lib.hid (Q2.out.trans (bw2.mono Q2.out.size))
  have R3 := Lib.hid ho2
  clear Q0 Q1 Q2 bw2 ho2
  go_wp2_with fail
  go_loopw [3] (fun i wr => ∃ k : Nat, k ≤ 64 ∧ i = .int .i64 k ∧ Blk wr w.heap.size (uv (List.replicate 64 0)) 83 ∧ Blk wr (w.heap.size + 1) (uv (layTo 0 (fun i => rootL ((primesTo 312).getD i 0) 3) 64 k)) 83 ∧ Below w.heap.size w wr ∧ wr.ownsRow w1.heap.size 3 1 (.slice (some ⟨g, 0, none⟩) 64 c2) 64 (iq (primesTo 312))) (fun i _ => 64 - (intOf i).toNat)
  case atStart => exact ⟨0, by omega, rfl, R0.out, R1.out, R2.out, R3.out⟩
  case round =>
    clear R0 R1 R2 R3
    obtain ⟨k, hk, rfl, B0, B1, hbel, how⟩ := hrel
    by_cases hlt : k < 64
    · obtain ⟨p, hp⟩ : ∃ p, p = (primesTo 312).getD k 0 := ⟨_, rfl⟩
      have hpb : p < 65536 := by rw [hp]; exact HPB.out k hlt
      have hcell := how.cellAt k (by omega)
      rw [iq_get (by rw [HP.out]; exact hlt), ← hp] at hcell
      have k0 : (0 : Int) ≤ (k : Int) := by omega
      have k1 : (k : Int) < 64 := by omega
      have G0 := Lib.hid B0
      have G1 := Lib.hid B1
      have GB := Lib.hid hbel
      have GO := Lib.hid how
      have HPK := Lib.hid hp
      clear hp B0 B1 hbel how
      go_wp2_with fail
      refine (root_any p 3 _ hpb (by omega)).mono ?_
      rintro e w3 ⟨rfl, bw3⟩
      have C0 := Lib.hid (G0.out.below bw3)
      have D1 := G1.out.below bw3
      have CB := Lib.hid (GB.out.trans (bw3.mono GB.out.size))
      have CO := Lib.hid (own_below GO.out bw3)
      have hcl := D1.cellu (k := k) (by rw [layTo_length]; exact hlt)
      obtain ⟨v, hv⟩ : ∃ v, v = (layTo 0 (fun i => rootL ((primesTo 312).getD i 0) 3) 64 k).getD k 0 := ⟨_, rfl⟩
      rw [← hv] at hcl
      have hfr := D1.free k
      have C1 := Lib.hid D1
      clear G0 G1 GB GO bw3 D1 hv hcell
      go_wp2_with fail
      go_roundw
      case rel =>
        refine ⟨k + 1, by omega, by go_num, C0.out.other (by omega) _ _, ?_, CB.out.setCell (by show w.heap.size ≤ w.heap.size + 1; omega) _, own_far CO.out (grown_setCell _ _ _ _) (fun j hj => by have := (CO.out.lt j hj).1; omega)⟩
        rw [layTo, ← HPK.out]; exact C1.out.set k _
      case measure => simp [intOf]; omega
    · obtain rfl : k = 64 := by omega
      rw [HE.out] at B1
      have G0 := Lib.hid B0
      have G1 := Lib.hid B1
      clear B0 B1 how
      go_wp2_with (first
        | (refine wpList_load_row rfl 83 (.tmp 1) rfl (w.heap.size + 1) rfl 83 (uv kL) (0, 0) _ G1.out Try.underlying83 rfl info48 ?_)
        | (refine wpList_store_row rfl 83 (.tmp 0) (.tmp 17) rfl w.heap.size (uv kL) rfl rfl 83 (uv (List.replicate 64 0)) G0.out info48 rfl (uv_one _) ?_))
      exact bodyPost_ret (v := .agg (uv kL)) (results_cell_row Try.results63 _ _ w.heap.size 83 (uv kL) (0, 0) _ rfl (setRow_heap _ _ _ _ _ _ G0.out) Try.underlying83 rfl info48) rfl ⟨rfl, below_setRow hbel (Nat.le_refl _) _⟩
end Go.Proofs.Ytobkkbpeoohfkaa
