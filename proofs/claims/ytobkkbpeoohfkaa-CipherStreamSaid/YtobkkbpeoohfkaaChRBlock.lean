import Derived.Test.YtobkkbpeoohfkaaArr
import Derived.Test.YtobkkbpeoohfkaaChTold
import Derived.Test.YtobkkbpeoohfkaaChRKey
import Derived.Test.YtobkkbpeoohfkaaChRRounds
import Derived.BigRegion
namespace Go.Proofs.Ytobkkbpeoohfkaa
open Go.RowKit
theorem info35 : (Try.prog.info? 22).map (·.size) = some 32 := by kernel_rfl
theorem sum_byte {K : List UInt32} {x y : UInt32} {k d m : Nat} (hK : K.length = 16) (hd : d = k / 4) (hm : m = 8 * (k % 4)) (hk : k < 64) (hx : x = K.getD d 0) (hy : y = (rounds K).getD d 0) :
    (((x.toNat : Int) + (y.toNat : Int)) % 4294967296) / 2 ^ m % 256 = ((byteAt ((csumsTo K (rounds K) 16).getD (k / 4) 0) (k % 4)).toNat : Int) := by
  rw [sumsTo_get, if_pos ⟨by omega, by omega⟩, ← hd, ← hx, ← hy, w_add, byteAt_val _ hm]
set_option maxHeartbeats 800000 in
theorem rblock_any (key : List UInt8) (hkey : key.length = 32) (c : UInt32) (n : Nat) (w : World) :
    Calls Try.prog 25 #[.agg (bva key), .int .u32 c.toNat, .int .u64 (n : Int)] w (RetB (.agg (bva (blockL key c n))) w) := by
  have HL : Hid ((keyL key c n).length = 16) := keyL_length key c n
  have b0 := heap_alloc2_old w (.cells (bva key) 22) (.cells (bva (List.replicate 64 0)) 52)
  have b1 := heap_alloc2_new w (.cells (bva key) 22) (.cells (bva (List.replicate 64 0)) 52)
  have bb : Below w.heap.size w ((w.alloc (.cells (bva key) 22)).alloc (.cells (bva (List.replicate 64 0)) 52)) := ((Below.refl _ _).alloc (Nat.le_refl _) _).alloc (by simp) _
  have H0 := Lib.hid b0
  have H1 := Lib.hid b1
  have HB := Lib.hid bb
  have HI : Hid ((Try.prog.info? 22).map (·.size) = some (bva key).size) := by rw [bva_size, hkey]; exact info35
  have HS : Hid ((Try.prog.info? 64).map (·.size) = some (uv (keyL key c n)).size) := by rw [uv_size, HL.out]; exact info30
  have HT : Hid ((Try.prog.info? 52).map (·.size) = some (bva (blockL key c n)).size) := by rw [bva_size, blockL_length]; exact info38
  have HR : Hid ((rounds (keyL key c n)).length = 16) := by rw [rounds_length]; exact HL.out
  clear b0 b1 bb
  go_enter Try.func25, Try.ntmps25
  go_wp2_with (refine wpList_load_row rfl 22 (.tmp 3) rfl w.heap.size rfl 22 (bva key) (0, 0) _ ?hg Try.underlying22 rfl HI.out ?_; case hg => exact H0.out)
  refine (rkeyState_any key hkey c n _).mono ?_
  rintro e w1 ⟨rfl, hb1⟩
  have p0 : Below w.heap.size w w1 := HB.out.trans (hb1.mono (by simp; omega))
  have p2 : Blk w1 (w.heap.size + 1) (bva (List.replicate 64 0)) 52 := block_below H1.out hb1
  have P2 := Lib.hid p2
  clear p2 hb1
  go_wp2_with (first
    | (refine wpList_store_row rfl 64 (.tmp 7) (.tmp 14) rfl w1.heap.size (uv (keyL key c n)) rfl rfl 64 (uv (List.replicate 16 0)) (heap_alloc_new _ _) HS.out (by rw [uv_size, uv_size, HL.out]; rfl) (uv_one _) ?_; generalize hw2 : World.setRow _ _ _ = w2; have HW := Lib.hid hw2; clear hw2; have q0 : Blk w2 w1.heap.size (uv (keyL key c n)) 64 := (by rw [← HW.out]; exact blk_new _))
    | (refine wpList_load_row rfl 64 (.tmp 7) rfl w1.heap.size rfl 64 (uv (keyL key c n)) (0, 0) _ q0 Try.underlying64 rfl HS.out ?_))
  have q1 : Blk w2 (w.heap.size + 1) (bva (List.replicate 64 0)) 52 := by rw [← HW.out]; exact blk_past P2.out
  have q2 : Below w.heap.size w w2 := by rw [← HW.out]; exact below_new p0 p0.size
  clear P2 p0 HW
  refine (crrounds_any (keyL key c n) HL.out _).mono ?_
  rintro e w3 ⟨rfl, hb3⟩
  have q0' := q0.below hb3
  have q1' := q1.below hb3
  have q2' := q2.trans (hb3.mono q2.size)
  have Q0 := Lib.hid q0'
  have Q1 := Lib.hid q1'
  have Q2 := Lib.hid q2'
  have HX : Hid ((Try.prog.info? 64).map (·.size) = some (uv (rounds (keyL key c n))).size) := by rw [uv_size, HR.out]; exact info30
  clear q0 q1 q2 q0' q1' q2' hb3
  go_wp2_with (refine wpList_store_row rfl 64 (.tmp 8) (.tmp 16) rfl w3.heap.size (uv (rounds (keyL key c n))) rfl rfl 64 (uv (List.replicate 16 0)) (heap_alloc_new _ _) HX.out (by rw [uv_size, uv_size, HR.out]; rfl) (uv_one _) ?_; generalize hw4 : World.setRow _ _ _ = w4; have HW := Lib.hid hw4; clear hw4)
  have r0 : Blk w4 w1.heap.size (uv (keyL key c n)) 64 := by rw [← HW.out]; exact blk_past Q0.out
  have r1 : Blk w4 (w.heap.size + 1) (bva (List.replicate 64 0)) 52 := by rw [← HW.out]; exact blk_past Q1.out
  have r2 : Below w.heap.size w w4 := by rw [← HW.out]; exact below_new Q2.out Q2.out.size
  have r3 : Blk w4 w3.heap.size (uv (rounds (keyL key c n))) 64 := by rw [← HW.out]; exact blk_new _
  have l1 := r1.lt
  have l0 := r0.lt
  have l3 := r3.lt
  have R0 := Lib.hid r0
  have R1 := Lib.hid r1
  have R2 := Lib.hid r2
  have R3 := Lib.hid r3
  clear Q0 Q1 Q2 HW r0 r1 r2 r3
  go_loopw [10] (fun i wr => ∃ k : Nat, k ≤ 64 ∧ i = .int .i64 k ∧ Blk wr w1.heap.size (uv (keyL key c n)) 64 ∧ Blk wr w3.heap.size (uv (rounds (keyL key c n))) 64 ∧ Blk wr (w.heap.size + 1) (bva (List.replicate 64 0)) 52 ∧ Blk wr w4.heap.size (bva (toldTo (csumsTo (keyL key c n) (rounds (keyL key c n)) 16) k)) 52 ∧ Below w.heap.size w wr) (fun i _ => 64 - (intOf i).toNat)
  case atStart =>
    refine ⟨0, by omega, rfl, ?_, ?_, ?_, heap_alloc_new _ _, R2.out.alloc R2.out.size _⟩
    · unfold Blk; rw [heap_alloc_old _ _ l0]; exact R0.out
    · unfold Blk; rw [heap_alloc_old _ _ l3]; exact R3.out
    · unfold Blk; rw [heap_alloc_old _ _ l1]; exact R1.out
  case round =>
    obtain ⟨k, hk, rfl, B0, B1, B2, B3, hbel⟩ := hrel
    clear R0 R1 R2 R3
    by_cases hlt : k < 64
    · obtain ⟨d, hd⟩ : ∃ d : Nat, d = k / 4 := ⟨_, rfl⟩
      obtain ⟨m, hm⟩ : ∃ m : Nat, m = 8 * (k % 4) := ⟨_, rfl⟩
      have ed : (k : Int) / 4 = (d : Int) := by omega
      have em : 8 * ((k : Int) % 4) = (m : Int) := by omega
      have k0 : (0 : Int) ≤ (k : Int) := by omega
      have k1 : (k : Int) < 64 := by omega
      have d0 : (0 : Int) ≤ (d : Int) := by omega
      have d1 : (d : Int) < 16 := by omega
      have m0 : (0 : Int) ≤ (m : Int) := by omega
      have m1 : (m : Int) ≤ 24 := by omega
      obtain ⟨x, hx⟩ : ∃ x, x = (keyL key c n).getD d 0 := ⟨_, rfl⟩
      obtain ⟨y, hy⟩ : ∃ y, y = (rounds (keyL key c n)).getD d 0 := ⟨_, rfl⟩
      have C0 := B0.cellu (k := d) (by rw [HL.out]; omega)
      rw [← hx] at C0
      have C1 := B1.cellu (k := d) (by rw [HR.out]; omega)
      rw [← hy] at C1
      have D0 := B3.cellb (k := k) (by rw [toldTo_length]; omega)
      have D1 := B3.free k
      have HX := Lib.hid hx
      have HY := Lib.hid hy
      have HD := Lib.hid hd
      have HM := Lib.hid hm
      have G0 := Lib.hid B0
      have G1 := Lib.hid B1
      have G2 := Lib.hid B2
      have G3 := Lib.hid B3
      clear hx hy hd hm B0 B1 B2 B3
      go_wp2
      go_region
      go_wp2
      go_roundw
      case rel => exact ⟨k + 1, by omega, by go_num, by exact G0.out.other (by omega) _ _, by exact G1.out.other (by omega) _ _, by exact G2.out.other (by omega) _ _, by rw [toldTo]; exact G3.out.setb k _ (int_eq (sum_byte HL.out HD.out HM.out hlt HX.out HY.out)), by exact (hbel.setCell (by simp; omega) _).drew⟩
      case measure => simp [intOf]; omega
    · obtain rfl : k = 64 := by omega
      rw [toldTo_all] at B3
      have G2 := Lib.hid B2
      have G3 := Lib.hid B3
      clear B0 B1 B2 B3
      go_wp2_with (first
        | (refine wpList_load_row rfl 52 (.tmp 9) rfl w4.heap.size rfl 52 (bva (blockL key c n)) (0, 0) _ G3.out Try.underlying52 rfl HT.out ?_)
        | (refine wpList_store_row rfl 52 (.tmp 6) (.tmp 38) rfl (w.heap.size + 1) (bva (blockL key c n)) rfl rfl 52 (bva (List.replicate 64 0)) G2.out HT.out (by rw [bva_size, bva_size, blockL_length]; rfl) (bva_one _) ?_))
      exact bodyPost_ret (v := .agg (bva (blockL key c n))) (results_cell_row Try.results25 _ _ (w.heap.size + 1) 52 (bva (blockL key c n)) (0, 0) _ rfl (setRow_heap _ _ _ _ _ _ G2.out) Try.underlying52 rfl HT.out) rfl ⟨rfl, below_setRow hbel (by omega) _⟩
end Go.Proofs.Ytobkkbpeoohfkaa
