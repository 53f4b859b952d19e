/-
  The contract of the reference's Compress.
-/
import Derived.Test.YtobkkbpeoohfkaaShOn4
import Derived.Test.YtobkkbpeoohfkaaShFirst
import Derived.Test.YtobkkbpeoohfkaaPureCall
import Derived.Test.YtobkkbpeoohfkaaShVal
namespace Go.Proofs.Ytobkkbpeoohfkaa
open Go.RowKit
attribute [local go_sem ↓] Go.wp_at_zero Go.wp_at_succ
theorem four_blocks (w : World) (A B C D : Obj) : ((((w.alloc A).alloc B).alloc C).alloc D).heap[w.heap.size]? = some A ∧ ((((w.alloc A).alloc B).alloc C).alloc D).heap[w.heap.size + 1]? = some B ∧ ((((w.alloc A).alloc B).alloc C).alloc D).heap[w.heap.size + 1 + 1]? = some C ∧ ((((w.alloc A).alloc B).alloc C).alloc D).heap[w.heap.size + 1 + 1 + 1]? = some D ∧ Below w.heap.size w ((((w.alloc A).alloc B).alloc C).alloc D) := by
  obtain ⟨h1, h2, h3, hb⟩ := three_blocks w A B C
  refine ⟨?_, ?_, ?_, ?_, hb.alloc hb.size _⟩
  · rw [heap_alloc_old _ _ (by simp; omega)]; exact h1
  · rw [heap_alloc_old _ _ (by simp; try omega)]; exact h2
  · rw [heap_alloc_old _ _ (by simp)]; exact h3
  · have h := heap_alloc_new (((w.alloc A).alloc B).alloc C) D
    have e : (((w.alloc A).alloc B).alloc C).heap.size = w.heap.size + 1 + 1 + 1 := by simp
    rwa [e] at h
theorem t1_wrap (a b c d e f g h y x : UInt32) : IntKind.u32.wrap (IntKind.u32.wrap (IntKind.u32.wrap (IntKind.u32.wrap ((h.toNat : Int) + bits BinOp.xor IntKind.u32 (bits BinOp.xor IntKind.u32 ((rr e 6).toNat : Int) ((rr e 11).toNat : Int)) ((rr e 25).toNat : Int)) +
    bits BinOp.xor IntKind.u32 (bits BinOp.and IntKind.u32 (e.toNat : Int) (f.toNat : Int)) (bits BinOp.and IntKind.u32 (IntKind.u32.wrap (4294967295 - (e.toNat : Int))) (g.toNat : Int))) + (y.toNat : Int)) + (x.toNat : Int)) = ((St.t1 ⟨a, b, c, d, e, f, g, h⟩ y x).toNat : Int) := by
  have he := e.toNat_lt
  rw [IntWalk.u32_in (4294967295 - (e.toNat : Int)) (by omega), w_neg, w_and, w_and, w_xor, w_xor, w_xor, IntKind.wrap_u32, IntKind.wrap_u32, IntKind.wrap_u32, IntKind.wrap_u32]
  have h5 := w_add5 h (rr e 6 ^^^ rr e 11 ^^^ rr e 25) ((e &&& f) ^^^ (~~~e &&& g)) y x
  refine Eq.trans ?_ (h5.trans rfl)
  omega
theorem t2_wrap (a b c d e f g h : UInt32) : IntKind.u32.wrap (bits BinOp.xor IntKind.u32 (bits BinOp.xor IntKind.u32 ((rr a 2).toNat : Int) ((rr a 13).toNat : Int)) ((rr a 22).toNat : Int) +
    bits BinOp.xor IntKind.u32 (bits BinOp.xor IntKind.u32 (bits BinOp.and IntKind.u32 (a.toNat : Int) (b.toNat : Int)) (bits BinOp.and IntKind.u32 (a.toNat : Int) (c.toNat : Int))) (bits BinOp.and IntKind.u32 (b.toNat : Int) (c.toNat : Int))) = ((St.t2 ⟨a, b, c, d, e, f, g, h⟩).toNat : Int) := by
  rw [IntKind.wrap_u32]; exact t2_val a b c d e f g h
theorem list8' (s : List UInt32) (h : s.length = 8) : ∃ a b c d e f g i, s = [a, b, c, d, e, f, g, i] := by
  match s, h with
  | [a, b, c, d, e, f, g, i], _ => exact ⟨a, b, c, d, e, f, g, i, rfl⟩
theorem sums_comm (s t : List UInt32) (hs : s.length = 8) (ht : t.length = 8) : sumsTo s t 8 = sumsTo t s 8 := by
  obtain ⟨a0, a1, a2, a3, a4, a5, a6, a7, rfl⟩ := list8' s hs
  obtain ⟨b0, b1, b2, b3, b4, b5, b6, b7, rfl⟩ := list8' t ht
  show [a0 + b0, a1 + b1, a2 + b2, a3 + b3, a4 + b4, a5 + b5, a6 + b6, a7 + b7] = [b0 + a0, b1 + a1, b2 + a2, b3 + a3, b4 + a4, b5 + a5, b6 + a6, b7 + a7]
  rw [UInt32.add_comm a0 b0, UInt32.add_comm a1 b1, UInt32.add_comm a2 b2, UInt32.add_comm a3 b3, UInt32.add_comm a4 b4, UInt32.add_comm a5 b5, UInt32.add_comm a6 b6, UInt32.add_comm a7 b7]
theorem rturn_q (X : UInt32) (m : Nat) (h0 : 0 < m) (h1 : m < 32) (w : World) (n : Nat) :
    Calls Try.prog 62 #[.int .u32 X.toNat, .int .u64 (m : Int)] (w.drewN n) (fun e w'' => e = .returned (.int .u32 (rr X m).toNat) ∧ ∃ q, w'' = w.drewN q) :=
  Calls.quiet_of_same ((rturn_any X m _ h0 h1).mono fun _ _ ⟨he, hw⟩ => ⟨he, hw.symm⟩)
theorem word_wrap (x y u v : UInt32) : IntKind.u32.wrap (IntKind.u32.wrap (IntKind.u32.wrap ((v.toNat : Int) + (u.toNat : Int)) + bits BinOp.xor IntKind.u32 (bits BinOp.xor IntKind.u32 ((rr x 7).toNat : Int) ((rr x 18).toNat : Int)) (IntKind.u32.wrap ((x.toNat : Int) / 8))) + bits BinOp.xor IntKind.u32 (bits BinOp.xor IntKind.u32 ((rr y 17).toNat : Int) ((rr y 19).toNat : Int)) (IntKind.u32.wrap ((y.toNat : Int) / 1024))) = ((sg1 y + u + sg0 x + v).toNat : Int) := by
  have hx := x.toNat_lt
  have hy := y.toNat_lt
  rw [IntWalk.u32_in ((x.toNat : Int) / 8) (by omega), IntWalk.u32_in ((y.toNat : Int) / 1024) (by omega), sg0_val, sg1_val, IntKind.wrap_u32, IntKind.wrap_u32, IntKind.wrap_u32, UInt32.toNat_add, UInt32.toNat_add, UInt32.toNat_add]
  omega
theorem cell_set_other {w : World} {g k j : Nat} {cs : Array Value} {A : TypeId} {v x : Value} (h : Blk w g cs A) (hne : j ≠ k) (hc : w.cell? ⟨g, j, none⟩ = some v) : (w.setCell ⟨g, k, none⟩ x).cell? ⟨g, j, none⟩ = some v := by
  have h1 := heap_setCell_same w g k cs A x h
  rw [cell_of_row _ _ _ _ _ _ h1, Array.getElem?_setIfInBounds_ne (Ne.symm hne), ← h.cell]
  exact hc
set_option maxRecDepth 100000 in
set_option maxHeartbeats 3200000 in
theorem rcompress_any (s : List UInt32) (blk : List UInt8) (hs : s.length = 8) (hk : blk.length = 64) (w : World) :
    Calls Try.prog 55 #[.agg (uv s), .agg (bva blk)] w (RetB (.agg (uv (compL s blk))) w) := by
  have HL := Lib.hid hk
  have HN := Lib.hid hs
  clear hs hk
  have hz : ∀ W, (zeroValue 83).run Try.prog W = .ok (.agg (uv (List.replicate 64 0))) W := fun _ => by kernel_rfl
  have hz8 : ∀ W, (zeroValue 60).run Try.prog W = .ok (.agg (uv (List.replicate 8 0))) W := fun _ => by kernel_rfl
  obtain ⟨b1, b2, b3, b4, hb⟩ := four_blocks w (.cells (uv s) 60) (.cells (bva blk) 52) (.cells (uv (List.replicate 8 0)) 60) (.cells (uv (List.replicate 64 0)) 83)
  have B1 := Lib.hid (show Blk _ _ _ _ from b1)
  have B2 := Lib.hid (show Blk _ _ _ _ from b2)
  have B3 := Lib.hid (show Blk _ _ _ _ from b3)
  have B4 := Lib.hid (show Blk _ _ _ _ from b4)
  have BB := Lib.hid hb
  clear b1 b2 b3 b4 hb
  go_enter Try.func55, Try.ntmps55
  go_wp2_with (refine wpList_store_row rfl 83 (.tmp 5) (.tmp 19) rfl (w.heap.size + 1 + 1 + 1) (uv (List.replicate 64 0)) rfl rfl 83 (uv (List.replicate 64 0)) B4.out info48 rfl (uv_one _) ?_
               generalize hww : World.setRow _ _ _ = w4
               have q1 : Blk w4 w.heap.size (uv s) 60 := by rw [← hww]; unfold Blk; rw [setRow_other _ _ _ _ (by omega)]; exact B1.out
               have q2 : Blk w4 (w.heap.size + 1) (bva blk) 52 := by rw [← hww]; unfold Blk; rw [setRow_other _ _ _ _ (by omega)]; exact B2.out
               have q3 : Blk w4 (w.heap.size + 1 + 1) (uv (List.replicate 8 0)) 60 := by rw [← hww]; unfold Blk; rw [setRow_other _ _ _ _ (by omega)]; exact B3.out
               have q4 : Blk w4 (w.heap.size + 1 + 1 + 1) (uv (List.replicate 64 0)) 83 := by rw [← hww]; exact setRow_heap _ _ _ _ _ _ B4.out
               have qb : Below w.heap.size w w4 := by rw [← hww]; exact below_setRow BB.out (by omega) _
               have Q1 := Lib.hid q1
               have Q2 := Lib.hid q2
               have Q3 := Lib.hid q3
               have Q4 := Lib.hid q4
               have QB := Lib.hid qb
               clear q1 q2 q3 q4 qb hww B1 B2 B3 B4 BB)
  go_loopw [6] (fun i wr => ∃ k : Nat, k ≤ 16 ∧ i = .int .i64 k ∧ Blk wr w.heap.size (uv s) 60 ∧ Blk wr (w.heap.size + 1) (bva blk) 52 ∧ Blk wr (w.heap.size + 1 + 1) (uv (List.replicate 8 0)) 60 ∧ Blk wr (w.heap.size + 1 + 1 + 1) (uv (wTo blk k)) 83 ∧ Below w.heap.size w wr) (fun i _ => 16 - (intOf i).toNat)
  case atStart => exact ⟨0, by omega, rfl, Q1.out, Q2.out, Q3.out, Q4.out, QB.out⟩
  case round =>
    clear Q1 Q2 Q3 Q4 QB
    obtain ⟨k, hk, rfl, R1, R2, R3, R4, RB⟩ := hrel
    have H1 := Lib.hid R1
    have H2 := Lib.hid R2
    have H3 := Lib.hid R3
    have H4 := Lib.hid R4
    have HB := Lib.hid RB
    clear R1 R2 R3 R4 RB
    by_cases hlt : k < 16
    · have hwz : Hid (Blk wr (w.heap.size + 1 + 1 + 1) (uv (wdTo (fun i => blk.getD i 0) (4 * k + 0))) 83) := by show Blk _ _ (uv (wdTo (fun i => blk.getD i 0) (4 * k))) _; rw [wdTo_word blk k (by omega)]; exact H4.out
      clear H4
      go_wp2_with fail
      go_loopw [7] (fun i wr => ∃ j : Nat, j ≤ 4 ∧ i = .int .i64 j ∧ Blk wr w.heap.size (uv s) 60 ∧ Blk wr (w.heap.size + 1) (bva blk) 52 ∧ Blk wr (w.heap.size + 1 + 1) (uv (List.replicate 8 0)) 60 ∧ Blk wr (w.heap.size + 1 + 1 + 1) (uv (wdTo (fun i => blk.getD i 0) (4 * k + j))) 83 ∧ Below w.heap.size w wr) (fun i _ => 4 - (intOf i).toNat)
      case atStart => exact ⟨0, by omega, rfl, H1.out, H2.out, H3.out, hwz.out, HB.out⟩
      case round =>
        clear H1 H2 H3 hwz HB
        obtain ⟨j, hj, rfl, R1, R2, R3, R4, RB⟩ := hrel
        by_cases hjt : j < 4
        · obtain ⟨m, hm⟩ : ∃ m : Nat, m = 4 * k + j := ⟨_, rfl⟩
          have em : 4 * (k : Int) + (j : Int) = (m : Int) := by omega
          have m0 : (0 : Int) ≤ (m : Int) := by omega
          have m1 : (m : Int) < 64 := by omega
          have k0 : (0 : Int) ≤ (k : Int) := by omega
          have k1 : (k : Int) < 64 := by omega
          have hmk : m / 4 = k := by omega
          rw [← hm] at R4
          obtain ⟨b, hb⟩ : ∃ b, b = blk.getD m 0 := ⟨_, rfl⟩
          obtain ⟨x, hx⟩ : ∃ x, x = (wdTo (fun i => blk.getD i 0) m).getD k 0 := ⟨_, rfl⟩
          have C1 := R2.cellb (k := m) (by rw [HL.out]; omega)
          have C2 := R4.cellu (k := k) (by rw [wdTo_length]; omega)
          have C3 := R4.free k
          rw [← hb] at C1
          rw [← hx] at C2
          have HX := Lib.hid hx
          have HBB := Lib.hid hb
          have HM := Lib.hid hm
          have HMK := Lib.hid hmk
          have H1 := Lib.hid R1
          have H2 := Lib.hid R2
          have H3 := Lib.hid R3
          have H4 := Lib.hid R4
          have HB := Lib.hid RB
          clear hm hb hx hmk R1 R2 R3 R4 RB
          go_wp2
          go_region
          go_wp2
          go_roundw
          case rel =>
            refine ⟨j + 1, by omega, by go_num, by exact H1.out.other (by omega) _ _, by exact H2.out.other (by omega) _ _, by exact H3.out.other (by omega) _ _, ?_, by exact (HB.out.setCell (p := ⟨w.heap.size + 1 + 1 + 1, k, none⟩) (Nat.le_add_right _ 3) _).drew⟩
            rw [show 4 * k + (j + 1) = m + 1 by have := HM.out; omega, wdTo, HMK.out, ← HX.out, ← HBB.out]
            exact H4.out.setv k _ (int_eq (by have := onB_mul x b; omega))
          case measure => simp [intOf]; omega
        · obtain rfl : j = 4 := by omega
          have H4 : Hid (Blk wr (w.heap.size + 1 + 1 + 1) (uv (wTo blk (k + 1))) 83) := by show Blk _ _ _ _; rw [← wdTo_word blk (k + 1) (by omega)]; exact R4
          have H1 := Lib.hid R1
          have H2 := Lib.hid R2
          have H3 := Lib.hid R3
          have HB := Lib.hid RB
          clear R1 R2 R3 R4 RB
          go_wp2
          go_roundw
          case rel => exact ⟨k + 1, by omega, by go_num, H1.out, H2.out, H3.out, H4.out, HB.out⟩
          case measure => simp [intOf]; omega
    · have hk16 : k = 16 := by omega
      rw [hk16] at H4
      clear hk16
      go_wp2_with fail
      go_loopw [8] (fun i wr => ∃ k : Nat, 16 ≤ k ∧ k ≤ 64 ∧ i = .int .i64 k ∧ Blk wr w.heap.size (uv s) 60 ∧ Blk wr (w.heap.size + 1) (bva blk) 52 ∧ Blk wr (w.heap.size + 1 + 1) (uv (List.replicate 8 0)) 60 ∧ Blk wr (w.heap.size + 1 + 1 + 1) (uv (wTo blk k)) 83 ∧ Below w.heap.size w wr) (fun i _ => 64 - (intOf i).toNat)
      case atStart => exact ⟨16, by omega, by omega, rfl, H1.out, H2.out, H3.out, H4.out, HB.out⟩
      case round =>
        clear H1 H2 H3 H4 HB
        obtain ⟨k, hk0, hk, rfl, R1, R2, R3, R4, RB⟩ := hrel
        have H1 := Lib.hid R1
        have H2 := Lib.hid R2
        have H3 := Lib.hid R3
        have HB := Lib.hid RB
        by_cases hlt : k < 64
        · obtain ⟨p, hp⟩ : ∃ p : Nat, p = k - 15 := ⟨_, rfl⟩
          obtain ⟨q, hq⟩ : ∃ q : Nat, q = k - 2 := ⟨_, rfl⟩
          obtain ⟨r, hr⟩ : ∃ r : Nat, r = k - 7 := ⟨_, rfl⟩
          obtain ⟨z, hz⟩ : ∃ z : Nat, z = k - 16 := ⟨_, rfl⟩
          have ep : (k : Int) - 15 = (p : Int) := by omega
          have eq : (k : Int) - 2 = (q : Int) := by omega
          have er : (k : Int) - 7 = (r : Int) := by omega
          have es : (k : Int) - 16 = (z : Int) := by omega
          have p0 : (0 : Int) ≤ (p : Int) := by omega
          have p1 : (p : Int) < 64 := by omega
          have q0 : (0 : Int) ≤ (q : Int) := by omega
          have q1 : (q : Int) < 64 := by omega
          have r0 : (0 : Int) ≤ (r : Int) := by omega
          have r1 : (r : Int) < 64 := by omega
          have z0 : (0 : Int) ≤ (z : Int) := by omega
          have z1 : (z : Int) < 64 := by omega
          have k0 : (0 : Int) ≤ (k : Int) := by omega
          have k1 : (k : Int) < 64 := by omega
          obtain ⟨x, hx⟩ : ∃ x, x = (wTo blk k).getD p 0 := ⟨_, rfl⟩
          obtain ⟨y, hy⟩ : ∃ y, y = (wTo blk k).getD q 0 := ⟨_, rfl⟩
          obtain ⟨u, hu⟩ : ∃ u, u = (wTo blk k).getD r 0 := ⟨_, rfl⟩
          obtain ⟨v, hv⟩ : ∃ v, v = (wTo blk k).getD z 0 := ⟨_, rfl⟩
          obtain ⟨t, ht⟩ : ∃ t, t = (wTo blk k).getD k 0 := ⟨_, rfl⟩
          have C1 := R4.cellu (k := p) (by rw [wTo_length]; omega)
          have C2 := R4.cellu (k := q) (by rw [wTo_length]; omega)
          have C3 := R4.cellu (k := r) (by rw [wTo_length]; omega)
          have C4 := R4.cellu (k := z) (by rw [wTo_length]; omega)
          have C5 := R4.cellu (k := k) (by rw [wTo_length]; omega)
          rw [← hx] at C1
          rw [← hy] at C2
          rw [← hu] at C3
          rw [← hv] at C4
          rw [← ht] at C5
          have C6 := R4.free k
          obtain ⟨nw, hnw⟩ : ∃ nw, nw = sg1 y + u + sg0 x + v := ⟨_, rfl⟩
          have HNW := Lib.hid hnw
          have HV : Hid (wAt blk (wTo blk k) k = nw) := by
            show _ = _
            rw [hnw, wAt, if_neg (by omega), hx, hy, hu, hv, hp, hq, hr, hz]
          have H4 := Lib.hid R4
          have hzk : z ≠ k := by omega
          have hrk : r ≠ k := by omega
          have b0 : (0 : Int) ≤ (x.toNat : Int) := by omega
          have b1 : (0 : Int) ≤ (y.toNat : Int) := by omega
          have wz : IntKind.i64.wrap (z : Int) = (z : Int) := IntWalk.i64_in _ (by omega)
          have wr' : IntKind.i64.wrap (r : Int) = (r : Int) := IntWalk.i64_in _ (by omega)
          have HZK := Lib.hid hzk
          have HRK := Lib.hid hrk
          clear hnw hx hy hu hv ht hp hq hr hz R1 R2 R3 R4 RB hzk hrk
          go_wp2_with fail
          refine wp_region_held_drew (S := fun w' => w'.cell? ⟨w.heap.size + 1 + 1 + 1, z, none⟩ = some (.int .u32 (v.toNat : Int)) ∧ w'.cell? ⟨w.heap.size + 1 + 1 + 1, r, none⟩ = some (.int .u32 (u.toNat : Int))) (by kernel_rfl) ⟨C4, C3⟩ (fun hh => ?_)
          have HH := Lib.hid hh
          clear hh
          refine wpAnyH_take (i := 0) (v := ?va0) rfl (by kernel_rfl) (by kernel_rfl) (by kernel_rfl) (fun _ _ _ h => h) (Or.inl ⟨by rfl, fun w' _ => ?ya0⟩) HH.out ?_
          case ya0 => (go_simp; try with_reducible rfl)
          refine wpAnyH_take (i := 1) (v := ?va1) rfl (by kernel_rfl) (by kernel_rfl) (by kernel_rfl) (fun _ _ _ h => h) (Or.inl ⟨by rfl, fun w' _ => ?ya1⟩) HH.out ?_
          case ya1 => (go_simp; try with_reducible rfl)
          refine wpAnyH_take (i := 2) (v := ?va2) rfl (by kernel_rfl) (by kernel_rfl) (by kernel_rfl) (fun _ _ _ h => h) (Or.inl ⟨by rfl, fun w' _ => ?ya2⟩) HH.out ?_
          case ya2 => (go_simp; try with_reducible rfl)
          try simp only [List.getElem_toArray, List.getElem_cons_succ, List.getElem_cons_zero, Act.put, List.setIfInBounds_toArray, List.set_cons_zero, List.set_cons_succ]
          refine wpAnyH_take (i := 3) (v := ?va3) rfl (by kernel_rfl) (by kernel_rfl) (by kernel_rfl) (fun _ _ _ h => h) (Or.inl ⟨by rfl, fun w' _ => ?ya3⟩) HH.out ?_
          case ya3 => (go_simp; try with_reducible rfl)
          refine wpAnyH_take (i := 4) (v := .int .u32 (v.toNat : Int)) rfl (by kernel_rfl) (by kernel_rfl) (by kernel_rfl) (fun _ _ _ h => h) (Or.inl ⟨by rfl, fun w' hw' => ?ya4⟩) HH.out ?_
          case ya4 => (have hc := hw'.1; go_simp; try with_reducible rfl)
          refine wpAnyH_take (i := 5) (v := ?va5) rfl (by kernel_rfl) (by kernel_rfl) (by kernel_rfl) (fun _ _ _ h => h) (Or.inl ⟨by rfl, fun w' _ => ?ya5⟩) HH.out ?_
          case ya5 => (go_simp; try with_reducible rfl)
          refine wpAnyH_take (i := 6) (v := ?va6) rfl (by kernel_rfl) (by kernel_rfl) (by kernel_rfl) (fun _ _ _ h => h) (Or.inl ⟨by rfl, fun w' _ => ?ya6⟩) HH.out ?_
          case ya6 => (go_simp; try with_reducible rfl)
          try simp only [List.getElem_toArray, List.getElem_cons_succ, List.getElem_cons_zero, Act.put, List.setIfInBounds_toArray, List.set_cons_zero, List.set_cons_succ]
          refine wpAnyH_take (i := 7) (v := ?va7) rfl (by kernel_rfl) (by kernel_rfl) (by kernel_rfl) (fun _ _ _ h => h) (Or.inl ⟨by rfl, fun w' _ => ?ya7⟩) HH.out ?_
          case ya7 => (go_simp; try with_reducible rfl)
          refine wpAnyH_take (i := 8) (v := .int .u32 (u.toNat : Int)) rfl (by kernel_rfl) (by kernel_rfl) (by kernel_rfl) (fun _ _ _ h => h) (Or.inl ⟨by rfl, fun w' hw' => ?ya8⟩) HH.out ?_
          case ya8 => (have hc := hw'.2; go_simp; try with_reducible rfl)
          refine wpAnyH_take (i := 9) (v := ?va9) rfl (by kernel_rfl) (by kernel_rfl) (by kernel_rfl) (fun _ _ _ h => h) (Or.inl ⟨by rfl, fun w' _ => ?ya9⟩) HH.out ?_
          case ya9 => (go_simp; try with_reducible rfl)
          refine wpAnyH_take (i := 10) (v := ?va10) rfl (by kernel_rfl) (by kernel_rfl) (by kernel_rfl) (fun _ _ _ h => h) (Or.inl ⟨by rfl, fun w' _ => ?ya10⟩) HH.out ?_
          case ya10 => (go_simp; try with_reducible rfl)
          try simp only [List.getElem_toArray, List.getElem_cons_succ, List.getElem_cons_zero, Act.put, List.setIfInBounds_toArray, List.set_cons_zero, List.set_cons_succ]
          refine wpAnyH_call (i := 11) (v := .int .u32 ((rr x 7).toNat : Int)) rfl (by kernel_rfl) (by kernel_rfl) (by kernel_rfl) (fun _ _ _ h => h) (by rfl) 62 #[.int .u32 (x.toNat : Int), .int .u64 7] (fun w' => ?ya11) (fun w' => rturn_any x 7 w' (by decide) (by decide)) HH.out ?_
          case ya11 => (go_simp; try with_reducible rfl)
          refine wpAnyH_take (i := 12) (v := ?va12) rfl (by kernel_rfl) (by kernel_rfl) (by kernel_rfl) (fun _ _ _ h => h) (Or.inl ⟨by rfl, fun w' _ => ?ya12⟩) HH.out ?_
          case ya12 => (go_simp; try with_reducible rfl)
          refine wpAnyH_call (i := 13) (v := .int .u32 ((rr x 18).toNat : Int)) rfl (by kernel_rfl) (by kernel_rfl) (by kernel_rfl) (fun _ _ _ h => h) (by rfl) 62 #[.int .u32 (x.toNat : Int), .int .u64 18] (fun w' => ?ya13) (fun w' => rturn_any x 18 w' (by decide) (by decide)) HH.out ?_
          case ya13 => (go_simp; try with_reducible rfl)
          refine wpAnyH_take (i := 14) (v := ?va14) rfl (by kernel_rfl) (by kernel_rfl) (by kernel_rfl) (fun _ _ _ h => h) (Or.inl ⟨by rfl, fun w' _ => ?ya14⟩) HH.out ?_
          case ya14 => (go_simp; try with_reducible rfl)
          try simp only [List.getElem_toArray, List.getElem_cons_succ, List.getElem_cons_zero, Act.put, List.setIfInBounds_toArray, List.set_cons_zero, List.set_cons_succ]
          refine wpAnyH_take (i := 15) (v := ?va15) rfl (by kernel_rfl) (by kernel_rfl) (by kernel_rfl) (fun _ _ _ h => h) (Or.inl ⟨by rfl, fun w' _ => ?ya15⟩) HH.out ?_
          case ya15 => (go_simp; try with_reducible rfl)
          refine wpAnyH_take (i := 16) (v := ?va16) rfl (by kernel_rfl) (by kernel_rfl) (by kernel_rfl) (fun _ _ _ h => h) (Or.inl ⟨by rfl, fun w' _ => ?ya16⟩) HH.out ?_
          case ya16 => (go_simp; try with_reducible rfl)
          refine wpAnyH_take (i := 17) (v := ?va17) rfl (by kernel_rfl) (by kernel_rfl) (by kernel_rfl) (fun _ _ _ h => h) (Or.inl ⟨by rfl, fun w' _ => ?ya17⟩) HH.out ?_
          case ya17 => (go_simp; try with_reducible rfl)
          refine wpAnyH_take (i := 18) (v := ?va18) rfl (by kernel_rfl) (by kernel_rfl) (by kernel_rfl) (fun _ _ _ h => h) (Or.inl ⟨by rfl, fun w' _ => ?ya18⟩) HH.out ?_
          case ya18 => (go_simp; try with_reducible rfl)
          try simp only [List.getElem_toArray, List.getElem_cons_succ, List.getElem_cons_zero, Act.put, List.setIfInBounds_toArray, List.set_cons_zero, List.set_cons_succ]
          refine wpAnyH_take (i := 19) (v := ?va19) rfl (by kernel_rfl) (by kernel_rfl) (by kernel_rfl) (fun _ _ _ h => h) (Or.inl ⟨by rfl, fun w' _ => ?ya19⟩) HH.out ?_
          case ya19 => (go_simp; try with_reducible rfl)
          refine wpAnyH_call (i := 20) (v := .int .u32 ((rr y 17).toNat : Int)) rfl (by kernel_rfl) (by kernel_rfl) (by kernel_rfl) (fun _ _ _ h => h) (by rfl) 62 #[.int .u32 (y.toNat : Int), .int .u64 17] (fun w' => ?ya20) (fun w' => rturn_any y 17 w' (by decide) (by decide)) HH.out ?_
          case ya20 => (go_simp; try with_reducible rfl)
          refine wpAnyH_take (i := 21) (v := ?va21) rfl (by kernel_rfl) (by kernel_rfl) (by kernel_rfl) (fun _ _ _ h => h) (Or.inl ⟨by rfl, fun w' _ => ?ya21⟩) HH.out ?_
          case ya21 => (go_simp; try with_reducible rfl)
          refine wpAnyH_call (i := 22) (v := .int .u32 ((rr y 19).toNat : Int)) rfl (by kernel_rfl) (by kernel_rfl) (by kernel_rfl) (fun _ _ _ h => h) (by rfl) 62 #[.int .u32 (y.toNat : Int), .int .u64 19] (fun w' => ?ya22) (fun w' => rturn_any y 19 w' (by decide) (by decide)) HH.out ?_
          case ya22 => (go_simp; try with_reducible rfl)
          try simp only [List.getElem_toArray, List.getElem_cons_succ, List.getElem_cons_zero, Act.put, List.setIfInBounds_toArray, List.set_cons_zero, List.set_cons_succ]
          refine wpAnyH_take (i := 23) (v := ?va23) rfl (by kernel_rfl) (by kernel_rfl) (by kernel_rfl) (fun _ _ _ h => h) (Or.inl ⟨by rfl, fun w' _ => ?ya23⟩) HH.out ?_
          case ya23 => (go_simp; try with_reducible rfl)
          refine wpAnyH_take (i := 24) (v := ?va24) rfl (by kernel_rfl) (by kernel_rfl) (by kernel_rfl) (fun _ _ _ h => h) (Or.inl ⟨by rfl, fun w' _ => ?ya24⟩) HH.out ?_
          case ya24 => (go_simp; try with_reducible rfl)
          refine wpAnyH_take (i := 25) (v := ?va25) rfl (by kernel_rfl) (by kernel_rfl) (by kernel_rfl) (fun _ _ _ h => h) (Or.inl ⟨by rfl, fun w' _ => ?ya25⟩) HH.out ?_
          case ya25 => (go_simp; try with_reducible rfl)
          refine wpAnyH_take (i := 26) (v := ?va26) rfl (by kernel_rfl) (by kernel_rfl) (by kernel_rfl) (fun _ _ _ h => h) (Or.inl ⟨by rfl, fun w' _ => ?ya26⟩) HH.out ?_
          case ya26 => (go_simp; try with_reducible rfl)
          try simp only [List.getElem_toArray, List.getElem_cons_succ, List.getElem_cons_zero, Act.put, List.setIfInBounds_toArray, List.set_cons_zero, List.set_cons_succ]
          refine wpAnyH_take (i := 27) (v := ?va27) rfl (by kernel_rfl) (by kernel_rfl) (by kernel_rfl) (fun _ _ _ h => h) (Or.inl ⟨by rfl, fun w' _ => ?ya27⟩) HH.out ?_
          case ya27 => (go_simp; try with_reducible rfl)
          refine wpAnyH_take (i := 28) (v := ?va28) rfl (by kernel_rfl) (by kernel_rfl) (by kernel_rfl) (fun _ _ _ h => h) (Or.inl ⟨by rfl, fun w' _ => ?ya28⟩) HH.out ?_
          case ya28 => (go_simp; try with_reducible rfl)
          try simp only [List.getElem_toArray, List.getElem_cons_succ, List.getElem_cons_zero, Act.put, List.setIfInBounds_toArray, List.set_cons_zero, List.set_cons_succ]
          refine wpAnyH_ready (rs := [29]) (by kernel_rfl) (by simp) (AllReadyH.cons rfl (fun K hK => ?_) AllReadyH.nil)
          go_simp
          rw [word_wrap x y u v, ← HNW.out]
          have D4 : Blk wr.drew (w.heap.size + 1 + 1 + 1) (uv (wTo blk k)) 83 := H4.out
          refine hK.out _ _ ⟨cell_set_other D4 HZK.out HH.out.1, cell_set_other D4 HRK.out HH.out.2⟩ (fun hh => ?_)
          clear hh hK K HH
          refine wpAnyH_done (by kernel_rfl) ?_ _
          have E4 : Hid (Blk (wr.drew.setCell ⟨w.heap.size + 1 + 1 + 1, k, none⟩ (.int .u32 (nw.toNat : Int))) (w.heap.size + 1 + 1 + 1) (uv (wTo blk (k + 1))) 83) := by
            show Blk _ _ _ _
            rw [wTo, HV.out]; exact D4.setv k _ rfl
          have E1 : Hid (Blk (wr.drew.setCell ⟨w.heap.size + 1 + 1 + 1, k, none⟩ (.int .u32 (nw.toNat : Int))) w.heap.size (uv s) 60) := Blk.other (w := wr.drew) H1.out (by omega) _ _
          have E2 : Hid (Blk (wr.drew.setCell ⟨w.heap.size + 1 + 1 + 1, k, none⟩ (.int .u32 (nw.toNat : Int))) (w.heap.size + 1) (bva blk) 52) := Blk.other (w := wr.drew) H2.out (by omega) _ _
          have E3 : Hid (Blk (wr.drew.setCell ⟨w.heap.size + 1 + 1 + 1, k, none⟩ (.int .u32 (nw.toNat : Int))) (w.heap.size + 1 + 1) (uv (List.replicate 8 0)) 60) := Blk.other (w := wr.drew) H3.out (by omega) _ _
          have EB : Hid (Below w.heap.size w (wr.drew.setCell ⟨w.heap.size + 1 + 1 + 1, k, none⟩ (.int .u32 (nw.toNat : Int)))) := HB.out.drew.setCell (p := ⟨w.heap.size + 1 + 1 + 1, k, none⟩) (Nat.le_add_right _ 3) _
          clear D4 H1 H2 H3 H4 HB C1 C2 C3 C4 C5 C6 HV HZK HRK
          try simp only [List.getElem_toArray, List.getElem_cons_succ, List.getElem_cons_zero, Act.put, List.setIfInBounds_toArray, List.set_cons_zero, List.set_cons_succ]
          go_wp2
          go_roundw
          case rel => exact ⟨k + 1, by omega, by omega, by go_num, by exact E1.out, by exact E2.out, by exact E3.out, by exact E4.out, by exact EB.out⟩
          case measure => simp [intOf]; omega
        · obtain rfl : k = 64 := by omega
          have H4 := Lib.hid R4
          clear R1 R2 R3 R4 RB
          have HWS : Hid ((wTo blk 64).length = 64) := wTo_length _ _
          obtain ⟨ws, hws⟩ : ∃ ws, ws = wTo blk 64 := ⟨_, rfl⟩
          rw [← hws] at H4 HWS
          have HW := Lib.hid hws
          clear hws
          go_wp2_with fail
          refine (rrounds_any _).mono ?_
          rintro e w5 ⟨rfl, bw⟩
          have I1 := Lib.hid (H1.out.below bw)
          have I3 := Lib.hid (H3.out.below bw)
          have I4 := Lib.hid (H4.out.below bw)
          have IB := Lib.hid (HB.out.trans (bw.mono HB.out.size))
          have hw5 : w.heap.size + 1 + 1 + 1 < w5.heap.size := I4.out.lt
          have HKI : Hid ((Try.prog.info? 83).map (·.size) = some (uv kL).size) := by rw [uv_size, kL_length]; exact info48
          have HSI : Hid ((Try.prog.info? 60).map (·.size) = some (uv s).size) := by rw [uv_size, HN.out]; exact info28
          obtain ⟨kk, hkk⟩ : ∃ kk, kk = kL := ⟨_, rfl⟩
          rw [← hkk] at HKI
          have HKK := Lib.hid hkk
          have HK64 : Hid (kk.length = 64) := by show _ = _; rw [hkk]; rfl
          rw [← hkk]
          clear bw H1 H2 H3 H4 HB hkk
          go_wp2_with (first
            | (refine wpList_store_row rfl 83 (.tmp 11) (.tmp 83) rfl w5.heap.size (uv kk) rfl rfl 83 (uv (List.replicate 64 0)) (heap_alloc_new _ _) HKI.out (by rw [uv_size, uv_size, HK64.out]; rfl) (uv_one _) ?_
               generalize hw6 : World.setRow _ _ _ = w6
               have q1 : Blk w6 w.heap.size (uv s) 60 := by rw [← hw6]; exact blk_past I1.out
               have q3 : Blk w6 (w.heap.size + 1 + 1) (uv (List.replicate 8 0)) 60 := by rw [← hw6]; exact blk_past I3.out
               have q4 : Blk w6 (w.heap.size + 1 + 1 + 1) (uv ws) 83 := by rw [← hw6]; exact blk_past I4.out
               have q5 : Blk w6 w5.heap.size (uv kk) 83 := by rw [← hw6]; exact blk_new _
               have qb : Below w.heap.size w w6 := by rw [← hw6]; exact below_new IB.out IB.out.size
               have J1 := Lib.hid q1
               have J3 := Lib.hid q3
               have J4 := Lib.hid q4
               have J5 := Lib.hid q5
               have JB := Lib.hid qb
               clear q1 q3 q4 q5 qb hw6 I1 I3 I4 IB)
            | (refine wpList_load_row rfl 60 (.tmp 2) rfl w.heap.size rfl 60 (uv s) (0, 0) _ J1.out Try.underlying60 rfl HSI.out ?_)
            | (refine wpList_store_row rfl 60 (.tmp 12) (.tmp 84) rfl w6.heap.size (uv s) rfl rfl 60 (uv (List.replicate 8 0)) (heap_alloc_new _ _) HSI.out (by rw [uv_size, uv_size, HN.out]; rfl) (uv_one _) ?_
               generalize hw7 : World.setRow _ _ _ = w7
               have q1 : Blk w7 w.heap.size (uv s) 60 := by rw [← hw7]; exact blk_past J1.out
               have q3 : Blk w7 (w.heap.size + 1 + 1) (uv (List.replicate 8 0)) 60 := by rw [← hw7]; exact blk_past J3.out
               have q4 : Blk w7 (w.heap.size + 1 + 1 + 1) (uv ws) 83 := by rw [← hw7]; exact blk_past J4.out
               have q5 : Blk w7 w5.heap.size (uv kk) 83 := by rw [← hw7]; exact blk_past J5.out
               have q6 : Blk w7 w6.heap.size (uv s) 60 := by rw [← hw7]; exact blk_new _
               have qb : Below w.heap.size w w7 := by rw [← hw7]; exact below_new JB.out JB.out.size
               have n1 : w5.heap.size ≠ w6.heap.size := by have := J5.out.lt; omega
               have n2 : w.heap.size < w6.heap.size := by have := J1.out.lt; omega
               have n3 : w.heap.size + 1 + 1 + 1 < w6.heap.size := by have := J4.out.lt; omega
               have Q1 := Lib.hid q1
               have Q3 := Lib.hid q3
               have Q4 := Lib.hid q4
               have Q5 := Lib.hid q5
               have Q6 := Lib.hid q6
               have QB := Lib.hid qb
               clear q1 q3 q4 q5 q6 qb hw7 J1 J3 J4 J5 JB))
          have HQ6 : Hid (Blk w7 w6.heap.size (uv (mixTo (St.of s) ws 0).list) 60) := (congrArg (fun t => Blk w7 w6.heap.size (uv t) 60) (show (mixTo (St.of s) ws 0).list = s from St.list_of s HN.out)).mpr Q6.out
          clear Q6
          go_loopw [13] (fun i wr => ∃ k : Nat, k ≤ 64 ∧ i = .int .i64 k ∧ Blk wr w6.heap.size (uv (mixTo (St.of s) ws k).list) 60 ∧ Blk wr w5.heap.size (uv kk) 83 ∧ Blk wr (w.heap.size + 1 + 1 + 1) (uv ws) 83 ∧ Blk wr w.heap.size (uv s) 60 ∧ Blk wr (w.heap.size + 1 + 1) (uv (List.replicate 8 0)) 60 ∧ Below w.heap.size w wr) (fun i _ => 64 - (intOf i).toNat)
          case atStart => exact ⟨0, Nat.zero_le _, rfl, HQ6.out, Q5.out, Q4.out, Q1.out, Q3.out, QB.out⟩
          case round =>
            clear HQ6 Q5 Q4 Q1 Q3 QB
            obtain ⟨k, hk, rfl, R6, R5, R4, R1, R3, RB⟩ := hrel
            have H6 := Lib.hid R6
            have H5 := Lib.hid R5
            have H4 := Lib.hid R4
            have H1 := Lib.hid R1
            have H3 := Lib.hid R3
            have HB := Lib.hid RB
            by_cases hlt : k < 64
            · obtain ⟨⟨a, b, c, d, e, f, g, h0⟩, hz0⟩ : ∃ z, z = mixTo (St.of s) ws k := ⟨_, rfl⟩
              rw [← hz0] at R6
              clear H6
              have H6 := Lib.hid R6
              have cc : ∀ j x, [a, b, c, d, e, f, g, h0][j]? = some x → wr.cell? ⟨w6.heap.size, j, none⟩ = some (.int .u32 (x.toNat : Int)) := fun j x hj => by
                rw [R6.cell, uv, List.getElem?_toArray, List.getElem?_map]; exact congrArg (Option.map _) hj
              have c0 := cc 0 a rfl
              have c1 := cc 1 b rfl
              have c2 := cc 2 c rfl
              have c3 := cc 3 d rfl
              have c4 := cc 4 e rfl
              have c5 := cc 5 f rfl
              have c6 := cc 6 g rfl
              have c7 := cc 7 h0 rfl
              obtain ⟨y, hy⟩ : ∃ y, y = kk.getD k 0 := ⟨_, rfl⟩
              obtain ⟨x, hx⟩ : ∃ x, x = ws.getD k 0 := ⟨_, rfl⟩
              have C5 := R5.cellu (k := k) (by rw [HK64.out]; omega)
              have C4 := R4.cellu (k := k) (by rw [HWS.out]; omega)
              rw [← hy] at C5
              rw [← hx] at C4
              have HZ := Lib.hid hz0
              have HY := Lib.hid hy
              have HX := Lib.hid hx
              have k0 : (0 : Int) ≤ (k : Int) := by omega
              have k1 : (k : Int) < 64 := by omega
              have e0 : (0 : Int) ≤ (e.toNat : Int) := by omega
              have a0 : (0 : Int) ≤ (a.toNat : Int) := by omega
              clear hz0 hy hx cc R6 R5 R4 R1 R3 RB
              go_wp2_with fail
              refine wp_region_held_drew (S := fun w' => w'.cell? ⟨w6.heap.size, 7, none⟩ = some (.int .u32 (h0.toNat : Int)) ∧ w'.cell? ⟨w6.heap.size, 5, none⟩ = some (.int .u32 (f.toNat : Int)) ∧ w'.cell? ⟨w6.heap.size, 6, none⟩ = some (.int .u32 (g.toNat : Int)) ∧ w'.cell? ⟨w5.heap.size, k, none⟩ = some (.int .u32 (y.toNat : Int)) ∧ w'.cell? ⟨w.heap.size + 1 + 1 + 1, k, none⟩ = some (.int .u32 (x.toNat : Int))) (by kernel_rfl) ⟨c7, c5, c6, C5, C4⟩ (fun hh => ?_)
              have HH := Lib.hid hh
              clear hh
              refine wpAnyH_take (i := 0) (v := ?vb0) rfl (by kernel_rfl) (by kernel_rfl) (by kernel_rfl) (fun _ _ _ h => h) (Or.inl ⟨by rfl, fun w' _ => ?yb0⟩) HH.out ?_
              case yb0 => (go_simp; try with_reducible rfl)
              refine wpAnyH_take (i := 1) (v := .int .u32 (h0.toNat : Int)) rfl (by kernel_rfl) (by kernel_rfl) (by kernel_rfl) (fun _ _ _ h => h) (Or.inl ⟨by rfl, fun w' hw' => ?yb1⟩) HH.out ?_
              case yb1 => (have hc := hw'.1; go_simp; try with_reducible rfl)
              refine wpAnyH_take (i := 2) (v := ?vb2) rfl (by kernel_rfl) (by kernel_rfl) (by kernel_rfl) (fun _ _ _ h => h) (Or.inl ⟨by rfl, fun w' _ => ?yb2⟩) HH.out ?_
              case yb2 => (go_simp; try with_reducible rfl)
              try simp only [List.getElem_toArray, List.getElem_cons_succ, List.getElem_cons_zero, Act.put, List.setIfInBounds_toArray, List.set_cons_zero, List.set_cons_succ]
              refine wpAnyH_call (i := 3) (v := .int .u32 ((rr e 6).toNat : Int)) rfl (by kernel_rfl) (by kernel_rfl) (by kernel_rfl) (fun _ _ _ h => h) (by rfl) 62 #[.int .u32 (e.toNat : Int), .int .u64 6] (fun w' => ?yb3) (fun w' => rturn_any e 6 w' (by decide) (by decide)) HH.out ?_
              case yb3 => (go_simp; try with_reducible rfl)
              refine wpAnyH_take (i := 4) (v := ?vb4) rfl (by kernel_rfl) (by kernel_rfl) (by kernel_rfl) (fun _ _ _ h => h) (Or.inl ⟨by rfl, fun w' _ => ?yb4⟩) HH.out ?_
              case yb4 => (go_simp; try with_reducible rfl)
              refine wpAnyH_call (i := 5) (v := .int .u32 ((rr e 11).toNat : Int)) rfl (by kernel_rfl) (by kernel_rfl) (by kernel_rfl) (fun _ _ _ h => h) (by rfl) 62 #[.int .u32 (e.toNat : Int), .int .u64 11] (fun w' => ?yb5) (fun w' => rturn_any e 11 w' (by decide) (by decide)) HH.out ?_
              case yb5 => (go_simp; try with_reducible rfl)
              refine wpAnyH_take (i := 6) (v := ?vb6) rfl (by kernel_rfl) (by kernel_rfl) (by kernel_rfl) (fun _ _ _ h => h) (Or.inl ⟨by rfl, fun w' _ => ?yb6⟩) HH.out ?_
              case yb6 => (go_simp; try with_reducible rfl)
              try simp only [List.getElem_toArray, List.getElem_cons_succ, List.getElem_cons_zero, Act.put, List.setIfInBounds_toArray, List.set_cons_zero, List.set_cons_succ]
              refine wpAnyH_take (i := 7) (v := ?vb7) rfl (by kernel_rfl) (by kernel_rfl) (by kernel_rfl) (fun _ _ _ h => h) (Or.inl ⟨by rfl, fun w' _ => ?yb7⟩) HH.out ?_
              case yb7 => (go_simp; try with_reducible rfl)
              refine wpAnyH_call (i := 8) (v := .int .u32 ((rr e 25).toNat : Int)) rfl (by kernel_rfl) (by kernel_rfl) (by kernel_rfl) (fun _ _ _ h => h) (by rfl) 62 #[.int .u32 (e.toNat : Int), .int .u64 25] (fun w' => ?yb8) (fun w' => rturn_any e 25 w' (by decide) (by decide)) HH.out ?_
              case yb8 => (go_simp; try with_reducible rfl)
              refine wpAnyH_take (i := 9) (v := ?vb9) rfl (by kernel_rfl) (by kernel_rfl) (by kernel_rfl) (fun _ _ _ h => h) (Or.inl ⟨by rfl, fun w' _ => ?yb9⟩) HH.out ?_
              case yb9 => (go_simp; try with_reducible rfl)
              refine wpAnyH_take (i := 10) (v := ?vb10) rfl (by kernel_rfl) (by kernel_rfl) (by kernel_rfl) (fun _ _ _ h => h) (Or.inl ⟨by rfl, fun w' _ => ?yb10⟩) HH.out ?_
              case yb10 => (go_simp; try with_reducible rfl)
              try simp only [List.getElem_toArray, List.getElem_cons_succ, List.getElem_cons_zero, Act.put, List.setIfInBounds_toArray, List.set_cons_zero, List.set_cons_succ]
              refine wpAnyH_take (i := 11) (v := ?vb11) rfl (by kernel_rfl) (by kernel_rfl) (by kernel_rfl) (fun _ _ _ h => h) (Or.inl ⟨by rfl, fun w' _ => ?yb11⟩) HH.out ?_
              case yb11 => (go_simp; try with_reducible rfl)
              refine wpAnyH_take (i := 12) (v := ?vb12) rfl (by kernel_rfl) (by kernel_rfl) (by kernel_rfl) (fun _ _ _ h => h) (Or.inl ⟨by rfl, fun w' _ => ?yb12⟩) HH.out ?_
              case yb12 => (go_simp; try with_reducible rfl)
              refine wpAnyH_take (i := 13) (v := .int .u32 (f.toNat : Int)) rfl (by kernel_rfl) (by kernel_rfl) (by kernel_rfl) (fun _ _ _ h => h) (Or.inl ⟨by rfl, fun w' hw' => ?yb13⟩) HH.out ?_
              case yb13 => (have hc := hw'.2.1; go_simp; try with_reducible rfl)
              refine wpAnyH_take (i := 14) (v := ?vb14) rfl (by kernel_rfl) (by kernel_rfl) (by kernel_rfl) (fun _ _ _ h => h) (Or.inl ⟨by rfl, fun w' _ => ?yb14⟩) HH.out ?_
              case yb14 => (go_simp; try with_reducible rfl)
              try simp only [List.getElem_toArray, List.getElem_cons_succ, List.getElem_cons_zero, Act.put, List.setIfInBounds_toArray, List.set_cons_zero, List.set_cons_succ]
              refine wpAnyH_take (i := 15) (v := ?vb15) rfl (by kernel_rfl) (by kernel_rfl) (by kernel_rfl) (fun _ _ _ h => h) (Or.inl ⟨by rfl, fun w' _ => ?yb15⟩) HH.out ?_
              case yb15 => (go_simp; try with_reducible rfl)
              refine wpAnyH_take (i := 16) (v := ?vb16) rfl (by kernel_rfl) (by kernel_rfl) (by kernel_rfl) (fun _ _ _ h => h) (Or.inl ⟨by rfl, fun w' _ => ?yb16⟩) HH.out ?_
              case yb16 => (go_simp; try with_reducible rfl)
              refine wpAnyH_take (i := 17) (v := ?vb17) rfl (by kernel_rfl) (by kernel_rfl) (by kernel_rfl) (fun _ _ _ h => h) (Or.inl ⟨by rfl, fun w' _ => ?yb17⟩) HH.out ?_
              case yb17 => (go_simp; try with_reducible rfl)
              refine wpAnyH_take (i := 18) (v := .int .u32 (g.toNat : Int)) rfl (by kernel_rfl) (by kernel_rfl) (by kernel_rfl) (fun _ _ _ h => h) (Or.inl ⟨by rfl, fun w' hw' => ?yb18⟩) HH.out ?_
              case yb18 => (have hc := hw'.2.2.1; go_simp; try with_reducible rfl)
              try simp only [List.getElem_toArray, List.getElem_cons_succ, List.getElem_cons_zero, Act.put, List.setIfInBounds_toArray, List.set_cons_zero, List.set_cons_succ]
              refine wpAnyH_take (i := 19) (v := ?vb19) rfl (by kernel_rfl) (by kernel_rfl) (by kernel_rfl) (fun _ _ _ h => h) (Or.inl ⟨by rfl, fun w' _ => ?yb19⟩) HH.out ?_
              case yb19 => (go_simp; try with_reducible rfl)
              refine wpAnyH_take (i := 20) (v := ?vb20) rfl (by kernel_rfl) (by kernel_rfl) (by kernel_rfl) (fun _ _ _ h => h) (Or.inl ⟨by rfl, fun w' _ => ?yb20⟩) HH.out ?_
              case yb20 => (go_simp; try with_reducible rfl)
              refine wpAnyH_take (i := 21) (v := ?vb21) rfl (by kernel_rfl) (by kernel_rfl) (by kernel_rfl) (fun _ _ _ h => h) (Or.inl ⟨by rfl, fun w' _ => ?yb21⟩) HH.out ?_
              case yb21 => (go_simp; try with_reducible rfl)
              refine wpAnyH_take (i := 22) (v := ?vb22) rfl (by kernel_rfl) (by kernel_rfl) (by kernel_rfl) (fun _ _ _ h => h) (Or.inl ⟨by rfl, fun w' _ => ?yb22⟩) HH.out ?_
              case yb22 => (go_simp; try with_reducible rfl)
              try simp only [List.getElem_toArray, List.getElem_cons_succ, List.getElem_cons_zero, Act.put, List.setIfInBounds_toArray, List.set_cons_zero, List.set_cons_succ]
              refine wpAnyH_take (i := 23) (v := ?vb23) rfl (by kernel_rfl) (by kernel_rfl) (by kernel_rfl) (fun _ _ _ h => h) (Or.inl ⟨by rfl, fun w' _ => ?yb23⟩) HH.out ?_
              case yb23 => (go_simp; try with_reducible rfl)
              refine wpAnyH_take (i := 24) (v := .int .u32 (y.toNat : Int)) rfl (by kernel_rfl) (by kernel_rfl) (by kernel_rfl) (fun _ _ _ h => h) (Or.inl ⟨by rfl, fun w' hw' => ?yb24⟩) HH.out ?_
              case yb24 => (have hc := hw'.2.2.2.1; go_simp; try with_reducible rfl)
              refine wpAnyH_take (i := 25) (v := ?vb25) rfl (by kernel_rfl) (by kernel_rfl) (by kernel_rfl) (fun _ _ _ h => h) (Or.inl ⟨by rfl, fun w' _ => ?yb25⟩) HH.out ?_
              case yb25 => (go_simp; try with_reducible rfl)
              refine wpAnyH_take (i := 26) (v := ?vb26) rfl (by kernel_rfl) (by kernel_rfl) (by kernel_rfl) (fun _ _ _ h => h) (Or.inl ⟨by rfl, fun w' _ => ?yb26⟩) HH.out ?_
              case yb26 => (go_simp; try with_reducible rfl)
              try simp only [List.getElem_toArray, List.getElem_cons_succ, List.getElem_cons_zero, Act.put, List.setIfInBounds_toArray, List.set_cons_zero, List.set_cons_succ]
              refine wpAnyH_take (i := 27) (v := ?vb27) rfl (by kernel_rfl) (by kernel_rfl) (by kernel_rfl) (fun _ _ _ h => h) (Or.inl ⟨by rfl, fun w' _ => ?yb27⟩) HH.out ?_
              case yb27 => (go_simp; try with_reducible rfl)
              refine wpAnyH_take (i := 28) (v := .int .u32 (x.toNat : Int)) rfl (by kernel_rfl) (by kernel_rfl) (by kernel_rfl) (fun _ _ _ h => h) (Or.inl ⟨by rfl, fun w' hw' => ?yb28⟩) HH.out ?_
              case yb28 => (have hc := hw'.2.2.2.2; go_simp; try with_reducible rfl)
              refine wpAnyH_take (i := 29) (v := ?vb29) rfl (by kernel_rfl) (by kernel_rfl) (by kernel_rfl) (fun _ _ _ h => h) (Or.inl ⟨by rfl, fun w' _ => ?yb29⟩) HH.out ?_
              case yb29 => (go_simp; try with_reducible rfl)
              refine wpAnyH_take (i := 30) (v := ?vb30) rfl (by kernel_rfl) (by kernel_rfl) (by kernel_rfl) (fun _ _ _ h => h) (Or.inl ⟨by rfl, fun w' _ => ?yb30⟩) HH.out ?_
              case yb30 => (go_simp; try with_reducible rfl)
              try simp only [List.getElem_toArray, List.getElem_cons_succ, List.getElem_cons_zero, Act.put, List.setIfInBounds_toArray, List.set_cons_zero, List.set_cons_succ]
              refine wpAnyH_done (by kernel_rfl) ?_ _
              clear HH
              obtain ⟨T1, hT1⟩ : ∃ T, T = St.t1 ⟨a, b, c, d, e, f, g, h0⟩ y x := ⟨_, rfl⟩
              rw [t1_wrap a b c d e f g h0 y x, ← hT1]
              have HT1 := Lib.hid hT1
              clear hT1
              go_wp2_with fail
              refine wp_region_held_drew (S := fun w' => w'.cell? ⟨w6.heap.size, 1, none⟩ = some (.int .u32 (b.toNat : Int)) ∧ w'.cell? ⟨w6.heap.size, 2, none⟩ = some (.int .u32 (c.toNat : Int))) (by kernel_rfl) ⟨c1, c2⟩ (fun hh => ?_)
              have HH := Lib.hid hh
              clear hh
              refine wpAnyH_take (i := 0) (v := ?vc0) rfl (by kernel_rfl) (by kernel_rfl) (by kernel_rfl) (fun _ _ _ h => h) (Or.inl ⟨by rfl, fun w' _ => ?yc0⟩) HH.out ?_
              case yc0 => (go_simp; try with_reducible rfl)
              refine wpAnyH_call (i := 1) (v := .int .u32 ((rr a 2).toNat : Int)) rfl (by kernel_rfl) (by kernel_rfl) (by kernel_rfl) (fun _ _ _ h => h) (by rfl) 62 #[.int .u32 (a.toNat : Int), .int .u64 2] (fun w' => ?yc1) (fun w' => rturn_any a 2 w' (by decide) (by decide)) HH.out ?_
              case yc1 => (go_simp; try with_reducible rfl)
              refine wpAnyH_take (i := 2) (v := ?vc2) rfl (by kernel_rfl) (by kernel_rfl) (by kernel_rfl) (fun _ _ _ h => h) (Or.inl ⟨by rfl, fun w' _ => ?yc2⟩) HH.out ?_
              case yc2 => (go_simp; try with_reducible rfl)
              try simp only [List.getElem_toArray, List.getElem_cons_succ, List.getElem_cons_zero, Act.put, List.setIfInBounds_toArray, List.set_cons_zero, List.set_cons_succ]
              refine wpAnyH_call (i := 3) (v := .int .u32 ((rr a 13).toNat : Int)) rfl (by kernel_rfl) (by kernel_rfl) (by kernel_rfl) (fun _ _ _ h => h) (by rfl) 62 #[.int .u32 (a.toNat : Int), .int .u64 13] (fun w' => ?yc3) (fun w' => rturn_any a 13 w' (by decide) (by decide)) HH.out ?_
              case yc3 => (go_simp; try with_reducible rfl)
              refine wpAnyH_take (i := 4) (v := ?vc4) rfl (by kernel_rfl) (by kernel_rfl) (by kernel_rfl) (fun _ _ _ h => h) (Or.inl ⟨by rfl, fun w' _ => ?yc4⟩) HH.out ?_
              case yc4 => (go_simp; try with_reducible rfl)
              refine wpAnyH_take (i := 5) (v := ?vc5) rfl (by kernel_rfl) (by kernel_rfl) (by kernel_rfl) (fun _ _ _ h => h) (Or.inl ⟨by rfl, fun w' _ => ?yc5⟩) HH.out ?_
              case yc5 => (go_simp; try with_reducible rfl)
              refine wpAnyH_call (i := 6) (v := .int .u32 ((rr a 22).toNat : Int)) rfl (by kernel_rfl) (by kernel_rfl) (by kernel_rfl) (fun _ _ _ h => h) (by rfl) 62 #[.int .u32 (a.toNat : Int), .int .u64 22] (fun w' => ?yc6) (fun w' => rturn_any a 22 w' (by decide) (by decide)) HH.out ?_
              case yc6 => (go_simp; try with_reducible rfl)
              try simp only [List.getElem_toArray, List.getElem_cons_succ, List.getElem_cons_zero, Act.put, List.setIfInBounds_toArray, List.set_cons_zero, List.set_cons_succ]
              refine wpAnyH_take (i := 7) (v := ?vc7) rfl (by kernel_rfl) (by kernel_rfl) (by kernel_rfl) (fun _ _ _ h => h) (Or.inl ⟨by rfl, fun w' _ => ?yc7⟩) HH.out ?_
              case yc7 => (go_simp; try with_reducible rfl)
              refine wpAnyH_take (i := 8) (v := ?vc8) rfl (by kernel_rfl) (by kernel_rfl) (by kernel_rfl) (fun _ _ _ h => h) (Or.inl ⟨by rfl, fun w' _ => ?yc8⟩) HH.out ?_
              case yc8 => (go_simp; try with_reducible rfl)
              refine wpAnyH_take (i := 9) (v := ?vc9) rfl (by kernel_rfl) (by kernel_rfl) (by kernel_rfl) (fun _ _ _ h => h) (Or.inl ⟨by rfl, fun w' _ => ?yc9⟩) HH.out ?_
              case yc9 => (go_simp; try with_reducible rfl)
              refine wpAnyH_take (i := 10) (v := .int .u32 (b.toNat : Int)) rfl (by kernel_rfl) (by kernel_rfl) (by kernel_rfl) (fun _ _ _ h => h) (Or.inl ⟨by rfl, fun w' hw' => ?yc10⟩) HH.out ?_
              case yc10 => (have hc := hw'.1; go_simp; try with_reducible rfl)
              try simp only [List.getElem_toArray, List.getElem_cons_succ, List.getElem_cons_zero, Act.put, List.setIfInBounds_toArray, List.set_cons_zero, List.set_cons_succ]
              refine wpAnyH_take (i := 11) (v := ?vc11) rfl (by kernel_rfl) (by kernel_rfl) (by kernel_rfl) (fun _ _ _ h => h) (Or.inl ⟨by rfl, fun w' _ => ?yc11⟩) HH.out ?_
              case yc11 => (go_simp; try with_reducible rfl)
              refine wpAnyH_take (i := 12) (v := ?vc12) rfl (by kernel_rfl) (by kernel_rfl) (by kernel_rfl) (fun _ _ _ h => h) (Or.inl ⟨by rfl, fun w' _ => ?yc12⟩) HH.out ?_
              case yc12 => (go_simp; try with_reducible rfl)
              refine wpAnyH_take (i := 13) (v := ?vc13) rfl (by kernel_rfl) (by kernel_rfl) (by kernel_rfl) (fun _ _ _ h => h) (Or.inl ⟨by rfl, fun w' _ => ?yc13⟩) HH.out ?_
              case yc13 => (go_simp; try with_reducible rfl)
              refine wpAnyH_take (i := 14) (v := .int .u32 (c.toNat : Int)) rfl (by kernel_rfl) (by kernel_rfl) (by kernel_rfl) (fun _ _ _ h => h) (Or.inl ⟨by rfl, fun w' hw' => ?yc14⟩) HH.out ?_
              case yc14 => (have hc := hw'.2; go_simp; try with_reducible rfl)
              try simp only [List.getElem_toArray, List.getElem_cons_succ, List.getElem_cons_zero, Act.put, List.setIfInBounds_toArray, List.set_cons_zero, List.set_cons_succ]
              refine wpAnyH_take (i := 15) (v := ?vc15) rfl (by kernel_rfl) (by kernel_rfl) (by kernel_rfl) (fun _ _ _ h => h) (Or.inl ⟨by rfl, fun w' _ => ?yc15⟩) HH.out ?_
              case yc15 => (go_simp; try with_reducible rfl)
              refine wpAnyH_take (i := 16) (v := ?vc16) rfl (by kernel_rfl) (by kernel_rfl) (by kernel_rfl) (fun _ _ _ h => h) (Or.inl ⟨by rfl, fun w' _ => ?yc16⟩) HH.out ?_
              case yc16 => (go_simp; try with_reducible rfl)
              refine wpAnyH_take (i := 17) (v := ?vc17) rfl (by kernel_rfl) (by kernel_rfl) (by kernel_rfl) (fun _ _ _ h => h) (Or.inl ⟨by rfl, fun w' _ => ?yc17⟩) HH.out ?_
              case yc17 => (go_simp; try with_reducible rfl)
              refine wpAnyH_take (i := 18) (v := .int .u32 (b.toNat : Int)) rfl (by kernel_rfl) (by kernel_rfl) (by kernel_rfl) (fun _ _ _ h => h) (Or.inl ⟨by rfl, fun w' hw' => ?yc18⟩) HH.out ?_
              case yc18 => (have hc := hw'.1; go_simp; try with_reducible rfl)
              try simp only [List.getElem_toArray, List.getElem_cons_succ, List.getElem_cons_zero, Act.put, List.setIfInBounds_toArray, List.set_cons_zero, List.set_cons_succ]
              refine wpAnyH_take (i := 19) (v := ?vc19) rfl (by kernel_rfl) (by kernel_rfl) (by kernel_rfl) (fun _ _ _ h => h) (Or.inl ⟨by rfl, fun w' _ => ?yc19⟩) HH.out ?_
              case yc19 => (go_simp; try with_reducible rfl)
              refine wpAnyH_take (i := 20) (v := .int .u32 (c.toNat : Int)) rfl (by kernel_rfl) (by kernel_rfl) (by kernel_rfl) (fun _ _ _ h => h) (Or.inl ⟨by rfl, fun w' hw' => ?yc20⟩) HH.out ?_
              case yc20 => (have hc := hw'.2; go_simp; try with_reducible rfl)
              refine wpAnyH_take (i := 21) (v := ?vc21) rfl (by kernel_rfl) (by kernel_rfl) (by kernel_rfl) (fun _ _ _ h => h) (Or.inl ⟨by rfl, fun w' _ => ?yc21⟩) HH.out ?_
              case yc21 => (go_simp; try with_reducible rfl)
              refine wpAnyH_take (i := 22) (v := ?vc22) rfl (by kernel_rfl) (by kernel_rfl) (by kernel_rfl) (fun _ _ _ h => h) (Or.inl ⟨by rfl, fun w' _ => ?yc22⟩) HH.out ?_
              case yc22 => (go_simp; try with_reducible rfl)
              try simp only [List.getElem_toArray, List.getElem_cons_succ, List.getElem_cons_zero, Act.put, List.setIfInBounds_toArray, List.set_cons_zero, List.set_cons_succ]
              refine wpAnyH_take (i := 23) (v := ?vc23) rfl (by kernel_rfl) (by kernel_rfl) (by kernel_rfl) (fun _ _ _ h => h) (Or.inl ⟨by rfl, fun w' _ => ?yc23⟩) HH.out ?_
              case yc23 => (go_simp; try with_reducible rfl)
              refine wpAnyH_take (i := 24) (v := ?vc24) rfl (by kernel_rfl) (by kernel_rfl) (by kernel_rfl) (fun _ _ _ h => h) (Or.inl ⟨by rfl, fun w' _ => ?yc24⟩) HH.out ?_
              case yc24 => (go_simp; try with_reducible rfl)
              try simp only [List.getElem_toArray, List.getElem_cons_succ, List.getElem_cons_zero, Act.put, List.setIfInBounds_toArray, List.set_cons_zero, List.set_cons_succ]
              refine wpAnyH_done (by kernel_rfl) ?_ _
              clear HH
              obtain ⟨T2, hT2⟩ : ∃ T, T = St.t2 ⟨a, b, c, d, e, f, g, h0⟩ := ⟨_, rfl⟩
              rw [t2_wrap a b c d e f g h0, ← hT2]
              obtain ⟨N0, hN0⟩ : ∃ N, N = T1 + T2 := ⟨_, rfl⟩
              obtain ⟨N4, hN4⟩ : ∃ N, N = d + T1 := ⟨_, rfl⟩
              have e0' : ((T1.toNat : Int) + (T2.toNat : Int)) % 4294967296 = (N0.toNat : Int) := by rw [hN0]; exact w_add T1 T2
              have e4' : ((d.toNat : Int) + (T1.toNat : Int)) % 4294967296 = (N4.toNat : Int) := by rw [hN4]; exact w_add d T1
              have HST : Hid ((mixTo (St.of s) ws (k + 1)).list = [N0, a, b, c, N4, e, f, g]) := by
                show _ = _
                rw [mixTo, ← HZ.out, hN0, hN4, hT2, HT1.out, ← HKK.out, ← HY.out, ← HX.out]; rfl
              clear hT2 hN0 hN4
              go_wp2_with (refine wpList_store_row rfl 60 (.tmp 12) (.tmp 166) rfl w6.heap.size (uv [N0, a, b, c, N4, e, f, g]) rfl rfl 60 (uv (St.list ⟨a, b, c, d, e, f, g, h0⟩)) H6.out info28 rfl (uv_one _) ?_
                           generalize hw9 : World.setRow _ _ _ = w9
                           have q6 : Blk w9 w6.heap.size (uv [N0, a, b, c, N4, e, f, g]) 60 := by rw [← hw9]; exact setRow_heap _ _ _ _ _ _ H6.out
                           have q5 : Blk w9 w5.heap.size (uv kk) 83 := by rw [← hw9]; unfold Blk; rw [setRow_other _ _ _ _ n1]; exact H5.out
                           have q4 : Blk w9 (w.heap.size + 1 + 1 + 1) (uv ws) 83 := by rw [← hw9]; unfold Blk; rw [setRow_other _ _ _ _ (Nat.ne_of_lt n3)]; exact H4.out
                           have q1 : Blk w9 w.heap.size (uv s) 60 := by rw [← hw9]; unfold Blk; rw [setRow_other _ _ _ _ (Nat.ne_of_lt n2)]; exact H1.out
                           have q3 : Blk w9 (w.heap.size + 1 + 1) (uv (List.replicate 8 0)) 60 := by rw [← hw9]; unfold Blk; rw [setRow_other _ _ _ _ (by omega)]; exact H3.out
                           have qb : Below w.heap.size w w9 := by rw [← hw9]; exact below_setRow HB.out.drew.drew (Nat.le_of_lt n2) _
                           have E6 := Lib.hid q6
                           have E5 := Lib.hid q5
                           have E4 := Lib.hid q4
                           have E1 := Lib.hid q1
                           have E3 := Lib.hid q3
                           have EB := Lib.hid qb
                           clear q6 q5 q4 q1 q3 qb hw9 H6 H5 H4 H1 H3 HB c0 c1 c2 c3 c4 c5 c6 c7 C4 C5)
              go_roundw
              case rel => exact ⟨k + 1, by omega, by go_num, by rw [HST.out]; exact E6.out, E5.out, E4.out, E1.out, E3.out, EB.out⟩
              case measure => simp [intOf]; omega
            · obtain rfl : k = 64 := by omega
              clear R6 R5 R4 R1 R3 RB H5 H4
              obtain ⟨m, hm⟩ : ∃ m, m = (mixTo (St.of s) ws 64).list := ⟨_, rfl⟩
              have HM : Hid (m.length = 8) := by show _ = _; rw [hm]; rfl
              have HC : Hid (compL s blk = sumsTo m s 8) := by
                show _ = _
                rw [compL, mixL, ← HW.out, ← hm, sums_comm s m HN.out HM.out]
              have H6' : Hid (Blk wr w6.heap.size (uv m) 60) := by rw [hm]; exact H6
              clear H6 hm
              go_wp2_with fail
              go_loopw [18] (fun i wo => ∃ k : Nat, k ≤ 8 ∧ i = .int .i64 k ∧ Blk wo w6.heap.size (uv (sumsTo m s k)) 60 ∧ Blk wo w.heap.size (uv s) 60 ∧ Blk wo (w.heap.size + 1 + 1) (uv (List.replicate 8 0)) 60 ∧ Below w.heap.size w wo) (fun i _ => 8 - (intOf i).toNat)
              case atStart => exact ⟨0, Nat.zero_le _, rfl, H6'.out, H1.out, H3.out, HB.out⟩
              case round =>
                clear H6' H1 H3 HB
                obtain ⟨k, hk, rfl, R6, R1, R3, RB⟩ := hrel
                by_cases hlt : k < 8
                · have k0 : (0 : Int) ≤ (k : Int) := by omega
                  have k1 : (k : Int) < 8 := by omega
                  obtain ⟨x, hx⟩ : ∃ x, x = (sumsTo m s k).getD k 0 := ⟨_, rfl⟩
                  obtain ⟨y, hy⟩ : ∃ y, y = s.getD k 0 := ⟨_, rfl⟩
                  have C0 := R6.cellu (k := k) (by rw [sumsTo_length, HM.out]; omega)
                  have C1 := R1.cellu (k := k) (by rw [HN.out]; omega)
                  have C2 := R6.free k
                  rw [← hx] at C0
                  rw [← hy] at C1
                  have HX := Lib.hid hx
                  have HY := Lib.hid hy
                  have H6 := Lib.hid R6
                  have H1 := Lib.hid R1
                  have H3 := Lib.hid R3
                  have HB := Lib.hid RB
                  clear hx hy R6 R1 R3 RB
                  go_wp2
                  go_region
                  go_wp2
                  go_roundw
                  case rel =>
                    refine ⟨k + 1, by omega, by go_num, ?_, by exact H1.out.other (Nat.ne_of_lt n2) _ _, by exact H3.out.other (by omega) _ _, by exact (HB.out.setCell (p := ⟨w6.heap.size, k, none⟩) (Nat.le_of_lt n2) _).drew⟩
                    rw [sumsTo, ← HX.out, ← HY.out]
                    exact H6.out.setv k _ (int_eq (w_add x y))
                  case measure => simp [intOf]; omega
                · obtain rfl : k = 8 := by omega
                  have hi : (Try.prog.info? 60).map (·.size) = some (uv (sumsTo m s 8)).size := by rw [uv_size, sumsTo_length, HM.out]; exact info28
                  have Hi := Lib.hid hi
                  have H6 := Lib.hid R6
                  have H3 := Lib.hid R3
                  have HB := Lib.hid RB
                  clear hi R6 R1 R3 RB
                  go_wp2_with (first
                    | (refine wpList_load_row rfl 60 (.tmp 12) rfl w6.heap.size rfl 60 (uv (sumsTo m s 8)) (0, 0) _ H6.out Try.underlying60 rfl Hi.out ?_)
                    | (refine wpList_store_row rfl 60 (.tmp 4) (.tmp 180) rfl (w.heap.size + 1 + 1) (uv (sumsTo m s 8)) rfl rfl 60 (uv (List.replicate 8 0)) H3.out Hi.out (by rw [uv_size, uv_size, sumsTo_length, HM.out]; rfl) (uv_one _) ?_))
                  exact bodyPost_ret (v := .agg (uv (sumsTo m s 8))) (results_cell_row Try.results55 _ _ (w.heap.size + 1 + 1) 60 (uv (sumsTo m s 8)) (0, 0) _ rfl (setRow_heap _ _ _ _ _ _ H3.out) Try.underlying60 rfl Hi.out) rfl ⟨by rw [HC.out], below_setRow HB.out (by omega) _⟩
end Go.Proofs.Ytobkkbpeoohfkaa
