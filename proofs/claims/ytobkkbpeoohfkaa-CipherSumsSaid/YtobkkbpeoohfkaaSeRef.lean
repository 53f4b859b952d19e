/-
  The contracts of the reference of layer 4: after, first.
-/
import Derived.Test.YtobkkbpeoohfkaaShRSum
import Derived.Test.YtobkkbpeoohfkaaSeSeal
import Derived.Test.YtobkkbpeoohfkaaEqBytes
import Derived.Test.YtobkkbpeoohfkaaOld
namespace Go.Proofs.Ytobkkbpeoohfkaa
open Go.RowKit
attribute [local go_sem ↓] Go.wp_at_zero Go.wp_at_succ
theorem own_none (w : World) (base : Nat) (e : TypeId) : w.ownsRow base e 1 (.slice none 0 0) 0 (bv []) := ⟨rfl, .inl ⟨rfl, rfl⟩⟩
theorem take_next {k : List UInt8} {j : Nat} (h : j < k.length) : bv (k.take j) ++ bv [k.getD j 0] = bv (k.take (j + 1)) := by
  rw [← bv_append, List.take_add_one, List.getElem?_eq_getElem h, List.getD_eq_getElem?_getD, List.getElem?_eq_getElem h]; rfl
theorem blk_apart {w w' : World} {g : Nat} {cs : Array Value} {A : TypeId} {row : Option Nat} (h : Blk w g cs A) (hg : w.grownBy w' row) (hne : some g ≠ row) : Blk w' g cs A := by
  unfold Blk; rw [hg.block g h.lt hne]; exact h
set_option maxHeartbeats 1600000 in
theorem rafter_any (k : List UInt8) (hk : k.length = 32) (A : Option Addr) (n c : Nat) (l : List UInt8) (w : World) (hl : l.length = n) (hr : Rd w.heap.size w A (bv l)) (hn : n ≤ 1000000) :
    Calls Try.prog 42 #[.agg (bva k), .slice A n c] w (RetRow 5 (bv (k ++ l)) w) := by
  have HL := Lib.hid hl
  have HR := Lib.hid hr
  have HK := Lib.hid hk
  have b1 : Blk (w.alloc (.cells (bva k) 23)) w.heap.size (bva k) 23 := heap_alloc_new _ _
  have bb : Below w.heap.size w (w.alloc (.cells (bva k) 23)) := (Below.refl _ _).alloc (Nat.le_refl _) _
  have hs1 : w.heap.size + 1 ≤ (w.alloc (.cells (bva k) 23)).heap.size := by simp
  have ho : (w.alloc (.cells (bva k) 23)).ownsRow (w.heap.size + 1) 5 1 (.slice none 0 0) 0 (bv (k.take 0)) := own_none _ _ _
  have B1 := Lib.hid b1
  have BB := Lib.hid bb
  have HO := Lib.hid ho
  clear hl hr hk b1 bb ho
  go_enter Try.func42, Try.ntmps42
  go_wp2_with fail
  go_loopw [5, 6] (fun v i wr => ∃ (j : Nat) (A' : Option Addr) (c' : Nat), j ≤ 32 ∧ i = .int .i64 j ∧ v = .slice A' j c' ∧ Blk wr w.heap.size (bva k) 23 ∧ Below w.heap.size w wr ∧ Hid (w.heap.size + 1 ≤ wr.heap.size) ∧ wr.ownsRow (w.heap.size + 1) 5 1 (.slice A' j c') j (bv (k.take j))) (fun _ i _ => 32 - (intOf i).toNat)
  case atStart => exact ⟨0, none, 0, Nat.zero_le _, rfl, rfl, B1.out, BB.out, hs1, HO.out⟩
  case round =>
    clear B1 BB HO hs1
    obtain ⟨j, A', c', hj, rfl, rfl, R1, RB, HS, ho⟩ := hrel
    have B1 := Lib.hid R1
    have BB := Lib.hid RB
    have HO := Lib.hid ho
    by_cases hlt : j < 32
    · obtain ⟨x, hx⟩ : ∃ x, x = k.getD j 0 := ⟨_, rfl⟩
      have C1 := R1.cellb (k := j) (by rw [HK.out]; exact hlt)
      rw [← hx] at C1
      have HX := Lib.hid hx
      have j0 : (0 : Int) ≤ (j : Int) := by omega
      have j1 : (j : Int) < 32 := by omega
      clear hx R1 RB ho
      go_wp2_with (at_builtin
                   refine wpList_app _ rfl (.tmp 11) (.tmp 15) _ rfl bytesElt (base := w.heap.size + 1) (v := .slice A' j c') rfl (own_below HO.out ((Below.refl _ _).alloc (Nat.le_refl _) _)) rfl (Rd.lit wr 5 (bv [x])) rfl (bv_one _) ?_ ?_ ?_
                   · omega
                   · simp; have := HS.out; omega
                   intro A5 c5 w5 ho5 hg5 _)
      go_roundw
      case rel =>
        have ho4 := own_below HO.out ((Below.refl wr.heap.size wr).alloc (Nat.le_refl _) (.cells (bv [x]).toArray 5))
        refine ⟨j + 1, A5, c5, by omega, by go_num, rfl, blk_apart (B1.out.below ((Below.refl _ _).alloc (Nat.le_refl _) _)) hg5 (by intro e; have := (ho4.lt _ e.symm).1; omega), app_below (BB.out.alloc BB.out.size _) ho4 hg5 (by omega) (by simp; have := BB.out.size; omega), (by have h1 := hg5.size; have h2 := HS.out; simp at h1; show _ ≤ _; omega), ?_⟩
        refine own_eq ho5 rfl ?_
        rw [HX.out]; exact take_next (by rw [HK.out]; exact hlt)
      case measure => (simp [intOf]; try omega)
    · obtain rfl : j = 32 := by omega
      clear R1 RB ho
      go_wp2_with (at_builtin
                   refine wpList_app _ rfl (.tmp 17) (.tmp 18) _ rfl bytesElt (base := w.heap.size + 1) (v := .slice A' 32 c') rfl HO.out (m := n) rfl (HR.out.below BB.out) ((bv_length l).trans HL.out) (bv_one _) ?_ ?_ ?_
                   · omega
                   · exact HS.out
                   intro A5 c5 w5 ho5 hg5 _
                   have hb5 := app_below BB.out HO.out hg5 (Nat.le_succ _) BB.out.size
                   have ho6 := own_more (own_eq ho5 rfl (xs' := bv (k ++ l)) (by rw [bv_append, List.take_of_length_le (by rw [HK.out]; exact Nat.le_refl _)])) (Nat.le_succ w.heap.size)
                   have O5 := Lib.hid ho6
                   have B5 := Lib.hid hb5
                   clear ho5 ho6 hg5 hb5)
      go_ret
      exact RetRow.mk rfl O5.out B5.out
set_option maxHeartbeats 1600000 in
theorem rfirst16_any (k : List UInt8) (hk : k.length = 32) (w : World) : Calls Try.prog 43 #[.agg (bva k)] w (RetB (.agg (bva (k.take 16))) w) := by
  have hz : ∀ W, (zeroValue 35).run Try.prog W = .ok (.agg (bva (List.replicate 16 0))) W := fun _ => by kernel_rfl
  obtain ⟨b1, b2, b3, hb⟩ := three_blocks w (.cells (bva k) 23) (.cells (bva (List.replicate 16 0)) 35) (.cells (bva (List.replicate 16 0)) 35)
  have HK := Lib.hid hk
  have B1 := Lib.hid (show Blk _ _ _ _ from b1)
  have B2 := Lib.hid (show Blk _ _ _ _ from b2)
  have B3 := Lib.hid (show Blk _ _ _ _ from b3)
  have BB := Lib.hid hb
  clear hk b1 b2 b3 hb
  go_enter Try.func43, Try.ntmps43
  go_wp2_with (refine wpList_store_row rfl 35 (.tmp 3) (.tmp 5) rfl (w.heap.size + 1 + 1) (bva (List.replicate 16 0)) rfl rfl 35 (bva (List.replicate 16 0)) B3.out info_sum rfl (bva_one _) ?_
               generalize hw1 : World.setRow _ _ _ = w1
               have q1 : Blk w1 w.heap.size (bva k) 23 := by rw [← hw1]; unfold Blk; rw [setRow_other _ _ _ _ (by omega)]; exact B1.out
               have q2 : Blk w1 (w.heap.size + 1) (bva (List.replicate 16 0)) 35 := by rw [← hw1]; unfold Blk; rw [setRow_other _ _ _ _ (by omega)]; exact B2.out
               have q3 : Blk w1 (w.heap.size + 1 + 1) (bva (List.replicate 16 0)) 35 := by rw [← hw1]; exact setRow_heap _ _ _ _ _ _ B3.out
               have qb : Below w.heap.size w w1 := by rw [← hw1]; exact below_setRow BB.out (by omega) _
               have Q1 := Lib.hid q1
               have Q2 := Lib.hid q2
               have Q3 := Lib.hid q3
               have QB := Lib.hid qb
               clear q1 q2 q3 qb hw1 B1 B2 B3 BB)
  have HL0 : Hid ((List.replicate 16 (0 : UInt8)).length = 16) := rfl
  have HQ0 : Hid (∀ q, q < 0 → (List.replicate 16 (0 : UInt8))[q]? = k[q]?) := fun q hq => by omega
  go_loopw [4] (fun i wr => ∃ (j : Nat) (l : List UInt8), j ≤ 16 ∧ i = .int .i64 j ∧ Hid (l.length = 16) ∧ Hid (∀ q, q < j → l[q]? = k[q]?) ∧ Blk wr w.heap.size (bva k) 23 ∧ Blk wr (w.heap.size + 1) (bva (List.replicate 16 0)) 35 ∧ Blk wr (w.heap.size + 1 + 1) (bva l) 35 ∧ Below w.heap.size w wr) (fun i _ => 16 - (intOf i).toNat)
  case atStart => exact ⟨0, List.replicate 16 0, Nat.zero_le _, rfl, HL0, HQ0, Q1.out, Q2.out, Q3.out, QB.out⟩
  case round =>
    clear HL0 HQ0 Q1 Q2 Q3 QB
    obtain ⟨j, l, hj, rfl, HL, HQ, R1, R2, R3, RB⟩ := hrel
    have H1 := Lib.hid R1
    have H2 := Lib.hid R2
    have H3 := Lib.hid R3
    have HB := Lib.hid RB
    by_cases hlt : j < 16
    · obtain ⟨x, hx⟩ : ∃ x, x = k.getD j 0 := ⟨_, rfl⟩
      obtain ⟨y, hy⟩ : ∃ y, y = l.getD j 0 := ⟨_, rfl⟩
      have C1 := R1.cellb (k := j) (by rw [HK.out]; omega)
      have C2 := R3.cellb (k := j) (by rw [HL.out]; exact hlt)
      have C3 := R3.free j
      rw [← hx] at C1
      rw [← hy] at C2
      have j0 : (0 : Int) ≤ (j : Int) := by omega
      have j1 : (j : Int) < 16 := by omega
      have j2 : (j : Int) < 32 := by omega
      have HL' : Hid ((l.set j x).length = 16) := by show _ = _; rw [List.length_set]; exact HL.out
      have HQ' : Hid (∀ q, q < j + 1 → (l.set j x)[q]? = k[q]?) := fun q hq => by
        by_cases h : q = j
        · subst h
          rw [List.getElem?_set_self (by rw [HL.out]; exact hlt), hx, List.getD_eq_getElem?_getD, List.getElem?_eq_getElem (by rw [HK.out]; omega)]; rfl
        · rw [List.getElem?_set_ne (fun e => h e.symm)]; exact HQ.out q (by omega)
      clear hx hy HL HQ R1 R2 R3 RB
      go_wp2
      go_roundw
      case rel => exact ⟨j + 1, l.set j x, by omega, by go_num, HL', HQ', H1.out.other (by omega) _ _, H2.out.other (by omega) _ _, H3.out.setb j x rfl, HB.out.setCell (p := ⟨w.heap.size + 1 + 1, j, none⟩) (Nat.le_add_right _ 2) _⟩
      case measure => (simp [intOf]; try omega)
    · obtain rfl : j = 16 := by omega
      have hlk : l = k.take 16 := List.ext_getElem? fun q => by
        by_cases h : q < 16
        · rw [List.getElem?_take, if_pos h]; exact HQ.out q h
        · rw [List.getElem?_eq_none (by rw [HL.out]; omega), List.getElem?_take, if_neg h]
      have HLK := Lib.hid hlk
      have HI : Hid ((Try.prog.info? 35).map (·.size) = some (bva l).size) := by rw [bva_size, HL.out]; exact info_sum
      clear hlk HQ R1 R2 R3 RB
      go_wp2_with (first
        | (refine wpList_load_row rfl 35 (.tmp 3) rfl (w.heap.size + 1 + 1) rfl 35 (bva l) (0, 0) _ H3.out Try.underlying35 rfl HI.out ?_)
        | (refine wpList_store_row rfl 35 (.tmp 2) (.tmp 15) rfl (w.heap.size + 1) (bva l) rfl rfl 35 (bva (List.replicate 16 0)) H2.out HI.out (by rw [bva_size, bva_size, HL.out]; rfl) (bva_one _) ?_))
      exact bodyPost_ret (v := .agg (bva l)) (results_cell_row Try.results43 _ _ (w.heap.size + 1) 35 (bva l) (0, 0) _ rfl (setRow_heap _ _ _ _ _ _ H2.out) Try.underlying35 rfl HI.out) rfl ⟨by rw [HLK.out], below_setRow HB.out (by omega) _⟩
end Go.Proofs.Ytobkkbpeoohfkaa
