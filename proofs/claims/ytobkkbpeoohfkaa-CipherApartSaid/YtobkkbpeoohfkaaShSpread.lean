/-
  The contracts of word, spread: a block's words.
-/
import Derived.Test.YtobkkbpeoohfkaaShTurn
import Derived.BigRegion
namespace Go.Proofs.Ytobkkbpeoohfkaa
open Go.RowKit
theorem be4_val (b0 b1 b2 b3 : UInt8) : bits BinOp.or IntKind.u32 (bits BinOp.or IntKind.u32 (bits BinOp.or IntKind.u32 ((b0.toNat : Int) * 16777216) ((b1.toNat : Int) * 65536)) ((b2.toNat : Int) * 256)) (b3.toNat : Int) = ((be4 b0 b1 b2 b3).toNat : Int) := by
  rw [show (256 : Int) = 2 ^ 8 from rfl, show (65536 : Int) = 2 ^ 16 from rfl, show (16777216 : Int) = 2 ^ 24 from rfl, w_bshl b0 (by omega), w_bshl b1 (by omega), w_bshl b2 (by omega), w_byte b3, w_or, w_or, w_or]
  rfl
set_option maxHeartbeats 400000 in
theorem word_any (g o n c : Nat) (b0 b1 b2 b3 : UInt8) (w : World) (hn : 4 ≤ n) (c0 : w.cell? ⟨g, o, none⟩ = some (.int .u8 (b0.toNat : Int)))
    (c1 : w.cell? ⟨g, o + 1, none⟩ = some (.int .u8 (b1.toNat : Int))) (c2 : w.cell? ⟨g, o + 2, none⟩ = some (.int .u8 (b2.toNat : Int))) (c3 : w.cell? ⟨g, o + 3, none⟩ = some (.int .u8 (b3.toNat : Int))) :
    Calls Try.prog 66 #[.slice (some ⟨g, o, none⟩) n c] w (RetQ (.int .u32 ((be4 b0 b1 b2 b3).toNat : Int)) w) := by
  have l0 : (0 : Int) < (n : Int) := by omega
  have l1 : (1 : Int) < (n : Int) := by omega
  have l2 : (2 : Int) < (n : Int) := by omega
  have l3 : (3 : Int) < (n : Int) := by omega
  have b0h : (b0.toNat : Int) ≤ 255 := by have := b0.toNat_lt; omega
  have b1h : (b1.toNat : Int) ≤ 255 := by have := b1.toNat_lt; omega
  have b2h : (b2.toNat : Int) ≤ 255 := by have := b2.toNat_lt; omega
  have b3h : (b3.toNat : Int) ≤ 255 := by have := b3.toNat_lt; omega
  go_enter Try.func66, Try.ntmps66
  go_wp2
  go_quiet (fail)
  go_wp2
  go_ret
  exact RetQ.mk1 (ret_int (be4_val b0 b1 b2 b3))
theorem info48 : (Try.prog.info? 83).map (·.size) = some 64 := by kernel_rfl
theorem info28 : (Try.prog.info? 60).map (·.size) = some 8 := by kernel_rfl
theorem info29 : (Try.prog.info? 52).map (·.size) = some 64 := by kernel_rfl
theorem info33 : (Try.prog.info? 23).map (·.size) = some 32 := by kernel_rfl
theorem wAt_low {blk : List UInt8} {u : List UInt32} {k m : Nat} (hk : k < 16) (hm : m = 4 * k) : wAt blk u k = be4 (blk.getD m 0) (blk.getD (m + 1) 0) (blk.getD (m + 2) 0) (blk.getD (m + 3) 0) := by
  rw [wAt, if_pos hk, wordB, hm]
theorem sg0_val (x : UInt32) : bits BinOp.xor IntKind.u32 (bits BinOp.xor IntKind.u32 ((rr x 7).toNat : Int) ((rr x 18).toNat : Int)) ((x.toNat : Int) / 8) = ((sg0 x).toNat : Int) := by
  rw [show (8 : Int) = 2 ^ 3 from rfl, w_shr x (by omega), w_xor, w_xor]; rfl
theorem sg1_val (x : UInt32) : bits BinOp.xor IntKind.u32 (bits BinOp.xor IntKind.u32 ((rr x 17).toNat : Int) ((rr x 19).toNat : Int)) ((x.toNat : Int) / 1024) = ((sg1 x).toNat : Int) := by
  rw [show (1024 : Int) = 2 ^ 10 from rfl, w_shr x (by omega), w_xor, w_xor]; rfl
theorem w_add4 (a b c d : UInt32) : ((a.toNat : Int) + (b.toNat : Int) + (c.toNat : Int) + (d.toNat : Int)) % 4294967296 = ((a + b + c + d).toNat : Int) := by
  rw [UInt32.toNat_add, UInt32.toNat_add, UInt32.toNat_add]; omega
theorem word_val (x y u v : UInt32) : (bits BinOp.xor IntKind.u32 (bits BinOp.xor IntKind.u32 ((rr y 17).toNat : Int) ((rr y 19).toNat : Int)) ((y.toNat : Int) / 1024) + (u.toNat : Int) + bits BinOp.xor IntKind.u32 (bits BinOp.xor IntKind.u32 ((rr x 7).toNat : Int) ((rr x 18).toNat : Int)) ((x.toNat : Int) / 8) + (v.toNat : Int)) % 4294967296 = ((sg1 y + u + sg0 x + v).toNat : Int) := by
  rw [sg0_val, sg1_val, w_add4]
set_option maxHeartbeats 800000 in
theorem spread_any (blk : List UInt8) (hb : blk.length = 64) (w : World) :
    Calls Try.prog 57 #[.agg (bva blk)] w (RetB (.agg (uv (wTo blk 64))) w) := by
  go_enter Try.func57, Try.ntmps57
  go_wp2
  go_loopw [10] (fun i wr => ∃ k : Nat, k ≤ 16 ∧ i = .int .i64 k ∧ Blk wr w.heap.size (bva blk) 52 ∧ Blk wr (w.heap.size + 1) (uv (List.replicate 64 0)) 83 ∧ Blk wr (w.heap.size + 1 + 1) (uv (wTo blk k)) 83 ∧ Below w.heap.size w wr) (fun i _ => 16 - (intOf i).toNat)
  case atStart =>
    obtain ⟨b1, b2, b3, hb⟩ := three_blocks w (.cells (bva blk) 52) (.cells (uv (List.replicate 64 0)) 83) (.cells (uv (List.replicate 64 0)) 83)
    exact ⟨0, by omega, rfl, b1, b2, b3, hb⟩
  case round =>
    obtain ⟨k, hk, rfl, B1, B2, B3, hbel⟩ := hrel
    by_cases hlt : k < 16
    · obtain ⟨m, hm⟩ : ∃ m : Nat, m = 4 * k := ⟨_, rfl⟩
      have em : 4 * (k : Int) = (m : Int) := by omega
      have m0 : (0 : Int) ≤ (m : Int) := by omega
      have m1 : (m : Int) ≤ 60 := by omega
      have m1' : (m : Int) ≤ 64 := by omega
      have m2 : ¬ 64 = m := by omega
      have k0 : (0 : Int) ≤ (k : Int) := by omega
      have k1 : (k : Int) < 64 := by omega
      have HM := Lib.hid hm
      have C0 := Lib.hid (B1.cellb (k := m) (by omega))
      have C1 := Lib.hid (B1.cellb (k := m + 1) (by omega))
      have C2 := Lib.hid (B1.cellb (k := m + 2) (by omega))
      have C3 := Lib.hid (B1.cellb (k := m + 3) (by omega))
      have D0 := B3.cellu (k := k) (by rw [wTo_length]; omega)
      have D1 := B3.free k
      have G1 := Lib.hid B1
      have G2 := Lib.hid B2
      have G3 := Lib.hid B3
      clear hm B1 B2 B3
      go_wp2_with fail
      refine (word_any w.heap.size m _ _ _ _ _ _ _ ?_ C0.out C1.out C2.out C3.out).mono ?_
      · have := HM.out; omega
      rintro e w1 ⟨rfl, q, rfl⟩
      go_wp2
      go_roundw
      case rel => exact ⟨k + 1, by omega, by go_num, (G1.out.drewN q).other (by omega) _ _, (G2.out.drewN q).other (by omega) _ _, by rw [wTo, wAt_low hlt HM.out]; exact (G3.out.drewN q).set k _, (below_drewN' hbel q).setCell (by simp; omega) _⟩
      case measure => simp [intOf]; omega
    · have hk16 : k = 16 := by omega
      rw [hk16] at B3
      clear hk16
      have G1 := Lib.hid B1
      have G2 := Lib.hid B2
      have G3 := Lib.hid B3
      clear B1 B2 B3
      go_wp2
      go_loopw [5] (fun i wr => ∃ k : Nat, 16 ≤ k ∧ k ≤ 64 ∧ i = .int .i64 k ∧ Blk wr w.heap.size (bva blk) 52 ∧ Blk wr (w.heap.size + 1) (uv (List.replicate 64 0)) 83 ∧ Blk wr (w.heap.size + 1 + 1) (uv (wTo blk k)) 83 ∧ Below w.heap.size w wr) (fun i _ => 64 - (intOf i).toNat)
      case atStart => exact ⟨16, by omega, by omega, rfl, G1.out, G2.out, G3.out, hbel⟩
      case round =>
        clear G1 G2 G3
        obtain ⟨k, hk0, hk, rfl, B1, B2, B3, hbel⟩ := hrel
        by_cases hlt : k < 64
        · obtain ⟨p, hp⟩ : ∃ p : Nat, p = k - 15 := ⟨_, rfl⟩
          obtain ⟨q, hq⟩ : ∃ q : Nat, q = k - 2 := ⟨_, rfl⟩
          obtain ⟨r, hr⟩ : ∃ r : Nat, r = k - 7 := ⟨_, rfl⟩
          obtain ⟨s, hs⟩ : ∃ s : Nat, s = k - 16 := ⟨_, rfl⟩
          have ep : (k : Int) - 15 = (p : Int) := by omega
          have eq : (k : Int) - 2 = (q : Int) := by omega
          have er : (k : Int) - 7 = (r : Int) := by omega
          have es : (k : Int) - 16 = (s : Int) := by omega
          have p0 : (0 : Int) ≤ (p : Int) := by omega
          have p1 : (p : Int) < 64 := by omega
          have q0 : (0 : Int) ≤ (q : Int) := by omega
          have q1 : (q : Int) < 64 := by omega
          have r0 : (0 : Int) ≤ (r : Int) := by omega
          have r1 : (r : Int) < 64 := by omega
          have s0 : (0 : Int) ≤ (s : Int) := by omega
          have s1 : (s : Int) < 64 := by omega
          have k0 : (0 : Int) ≤ (k : Int) := by omega
          have k1 : (k : Int) < 64 := by omega
          obtain ⟨x, hx⟩ : ∃ x, x = (wTo blk k).getD p 0 := ⟨_, rfl⟩
          obtain ⟨y, hy⟩ : ∃ y, y = (wTo blk k).getD q 0 := ⟨_, rfl⟩
          obtain ⟨u, hu⟩ : ∃ u, u = (wTo blk k).getD r 0 := ⟨_, rfl⟩
          obtain ⟨v, hv⟩ : ∃ v, v = (wTo blk k).getD s 0 := ⟨_, rfl⟩
          have C1 := B3.cellu (k := p) (by rw [wTo_length]; omega)
          have C2 := B3.cellu (k := q) (by rw [wTo_length]; omega)
          have C3 := B3.cellu (k := r) (by rw [wTo_length]; omega)
          have C4 := B3.cellu (k := s) (by rw [wTo_length]; omega)
          have C5 := B3.cellu (k := k) (by rw [wTo_length]; omega)
          rw [← hx] at C1
          rw [← hy] at C2
          rw [← hu] at C3
          rw [← hv] at C4
          obtain ⟨z, hz⟩ : ∃ z, z = (wTo blk k).getD k 0 := ⟨_, rfl⟩
          rw [← hz] at C5
          have C6 := B3.free k
          have HV : Hid (wAt blk (wTo blk k) k = sg1 y + u + sg0 x + v) := by
            show _ = _
            rw [wAt, if_neg (by omega), hx, hy, hu, hv, hp, hq, hr, hs]
          have G1 := Lib.hid B1
          have G2 := Lib.hid B2
          have G3 := Lib.hid B3
          clear hx hy hu hv hz hp hq hr hs B1 B2 B3
          have b0 : (0 : Int) ≤ (x.toNat : Int) := by omega
          have b1 : (0 : Int) ≤ (y.toNat : Int) := by omega
          go_wp2
          go_quiet (fail)
          go_wp2_with fail
          refine (turned_any x 7 _ (by decide) (by decide)).mono ?_
          rintro e w' ⟨rfl, rfl⟩
          go_wp2_with fail
          refine (turned_any x 18 _ (by decide) (by decide)).mono ?_
          rintro e w' ⟨rfl, rfl⟩
          go_wp2_with fail
          refine (turned_any y 17 _ (by decide) (by decide)).mono ?_
          rintro e w' ⟨rfl, rfl⟩
          go_wp2_with fail
          refine (turned_any y 19 _ (by decide) (by decide)).mono ?_
          rintro e w' ⟨rfl, rfl⟩
          go_wp2_with fail
          go_region
          go_wp2
          go_roundw
          case rel => exact ⟨k + 1, by omega, by omega, by go_num, by exact (G1.out.drewN _).other (by omega) _ _, by exact (G2.out.drewN _).other (by omega) _ _, by rw [wTo, HV.out]; exact (G3.out.drewN _).setv k _ (int_eq (word_val x y u v)), by exact (below_drewN' hbel _).setCell (by simp; omega) _⟩
          case measure => simp [intOf]; omega
        · obtain rfl : k = 64 := by omega
          have hi : (Try.prog.info? 83).map (·.size) = some (uv (wTo blk 64)).size := by rw [uv_size, wTo_length]; exact info48
          have Hi := Lib.hid hi
          have G2 := Lib.hid B2
          have G3 := Lib.hid B3
          clear hi B1 B2 B3
          go_wp2_with (first
            | (refine wpList_load_row rfl 83 (.tmp 3) rfl (w.heap.size + 1 + 1) rfl 83 (uv (wTo blk 64)) (0, 0) _ G3.out Try.underlying83 rfl Hi.out ?_)
            | (refine wpList_store_row rfl 83 (.tmp 2) (.tmp 63) rfl (w.heap.size + 1) (uv (wTo blk 64)) rfl rfl 83 (uv (List.replicate 64 0)) G2.out Hi.out (by rw [uv_size, uv_size, wTo_length]; rfl) (uv_one _) ?_))
          exact bodyPost_ret (v := .agg (uv (wTo blk 64))) (results_cell_row Try.results57 _ _ (w.heap.size + 1) 83 (uv (wTo blk 64)) (0, 0) _ rfl (setRow_heap _ _ _ _ _ _ G2.out) Try.underlying83 rfl Hi.out) rfl ⟨rfl, below_setRow hbel (by omega) _⟩
end Go.Proofs.Ytobkkbpeoohfkaa
