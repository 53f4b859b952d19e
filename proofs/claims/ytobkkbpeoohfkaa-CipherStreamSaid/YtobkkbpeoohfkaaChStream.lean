import Derived.Test.YtobkkbpeoohfkaaArr
import Derived.Test.YtobkkbpeoohfkaaChBlock
import Derived.Test.YtobkkbpeoohfkaaChRBlock
import Derived.Test.YtobkkbpeoohfkaaHere
import Derived.Laws.CopyOwn
namespace Go.Proofs.Ytobkkbpeoohfkaa
open Go.RowKit
theorem cinfo_byte : (Try.prog.info? 5).map (fun i => (i.zero, i.size, i.bytes)) = some (some (.int .u8 0), 1, 1) := by kernel_rfl
theorem cinfo5 : (Try.prog.info? 5).map (·.size) = some 1 := by kernel_rfl
/-- The byte of a stream at a place. -/
def strAt (key : List UInt8) (n j : Nat) : UInt8 := (blockL key (UInt32.ofNat (j / 64)) n).getD (j % 64) 0
/-- A stream, as far as its first k blocks are laid. -/
def strTo (key : List UInt8) (n s k : Nat) : List UInt8 := (List.range s).map fun j => if j < 64 * k then strAt key n j else 0
theorem strTo_length (key : List UInt8) (n s k : Nat) : (strTo key n s k).length = s := by simp [strTo]
theorem strTo_get {key : List UInt8} {n s k j : Nat} (h : j < s) : (strTo key n s k)[j]? = some (if j < 64 * k then strAt key n j else 0) := by
  simp [strTo, h]
theorem strTo_zero (key : List UInt8) (n s : Nat) : strTo key n s 0 = List.replicate s 0 := by
  apply List.ext_getElem?
  intro j
  by_cases h : j < s
  · rw [strTo_get h, List.getElem?_replicate, if_pos h, if_neg (by omega)]
  · rw [List.getElem?_eq_none (by rw [strTo_length]; omega), List.getElem?_eq_none (by simp; omega)]
theorem strTo_all {key : List UInt8} {n s k : Nat} (h : s ≤ 64 * k) : strTo key n s k = streamL key n s := by
  unfold strTo streamL
  apply List.map_congr_left
  intro j hj
  have := List.mem_range.1 hj
  rw [if_pos (by omega)]; rfl
theorem strTo_step {key : List UInt8} {n s k at_ m : Nat} (ha : at_ = 64 * k) (hm : m = min 64 (s - at_)) (h : at_ < s) :
    splice (strTo key n s k) at_ ((blockL key (UInt32.ofNat k) n).take m) = strTo key n s (k + 1) := by
  have hbl := blockL_length key (UInt32.ofNat k) n
  have hl : ((blockL key (UInt32.ofNat k) n).take m).length = m := by simp [hbl]; omega
  apply List.ext_getElem?
  intro j
  rw [splice_get _ _ _ (by rw [hl, strTo_length]; omega), hl]
  by_cases hj : j < s
  · rw [strTo_get hj, strTo_get hj]
    by_cases h1 : j < at_
    · rw [if_pos h1, if_pos (by omega), if_pos (by omega)]
    · rw [if_neg h1]
      by_cases h2 : j < at_ + m
      · rw [if_pos h2, if_pos (by omega), List.getElem?_take, if_pos (by omega), strAt, show j / 64 = k by omega, show j % 64 = j - at_ by omega, List.getD_eq_getElem?_getD, List.getElem?_eq_getElem (by rw [hbl]; omega)]
        rfl
      · rw [if_neg h2, if_neg (by omega), if_neg (by omega)]
  · rw [if_neg (by omega), if_neg (by omega), List.getElem?_eq_none (by rw [strTo_length]; omega), List.getElem?_eq_none (by rw [strTo_length]; omega)]
/-- What a stream's call answers. -/
def streamI (key : List UInt8) (n : Nat) (size : Int) : List UInt8 := if 1 ≤ size ∧ size ≤ 65536 then streamL key n size.toNat else []
theorem block_as (key : List UInt8) (hkey : key.length = 32) (x : Int) (c : UInt32) (n : Nat) (w : World) (hx : x = (c.toNat : Int)) :
    Calls Try.prog 24 #[.agg (bva key), .int .u32 x, .int .u64 (n : Int)] w (RetB (.agg (bva (blockL key c n))) w) := by
  rw [hx]; exact block_any key hkey c n w
set_option maxHeartbeats 800000 in
theorem stream_in (key : List UInt8) (hkey : key.length = 32) (n s : Nat) (w : World) (hs1 : 1 ≤ s) (hs2 : s ≤ 65536) :
    Calls Try.prog 23 #[.agg (bva key), .int .u64 (n : Int), .int .i64 (s : Int)] w (RetRow 5 (bv (streamL key n s)) w) := by
  have g1 : ¬ (s : Int) < 1 := by omega
  have g2 : ¬ (s : Int) > 65536 := by omega
  have g2' : (s : Int) ≤ 65536 := by omega
  obtain ⟨i0, hi, hz0, hz1, hz2⟩ := info_parts cinfo_byte
  have HI : Hid ((Try.prog.info? 23).map (·.size) = some (bva key).size) := by rw [bva_size, hkey]; exact info36
  have b0 := heap_alloc_new w (.cells (bva key) 23)
  have B0 := Lib.hid b0
  clear b0
  go_enter Try.func23, Try.ntmps23
  go_wp2_with (at_make; refine wpList_make_full _ rfl _ _ _ rfl (w.heap.size + 1) 5 i0 _ 1 Try.underlying33 hi hz0 hz1 .i64 .i64 _ _ s rfl rfl rfl rfl ?_ ?_ ?_ ?_; (rw [hz2]; omega); (unfold maxLen; omega); (simp); intro w1 hown hg)
  have e0 : (w.alloc (.cells (bva key) 23)).heap.size = w.heap.size + 1 := by simp
  rw [e0, made_zero, ← strTo_zero key n s] at hown
  have bl : Below w.heap.size w w1 := ((Below.refl _ _).alloc (Nat.le_refl _) _).grown hg (by simp) (fun _ h => by cases h)
  have bk : Blk w1 w.heap.size (bva key) 23 := by
    have h1 : Below (w.heap.size + 1) (w.alloc (.cells (bva key) 23)) w1 := (Below.refl _ _).grown hg (by simp) (fun _ h => by cases h)
    unfold Blk
    rw [h1.block _ (by omega)]
    exact B0.out
  have bo := blk_of_own hown (by omega)
  clear hown hg e0 B0 hi hz0 hz1 hz2
  have BL := Lib.hid bl
  have BK := Lib.hid bk
  have BO := Lib.hid bo
  clear bl bk bo
  go_loopw [8, 9] (fun i _ wr => ∃ k t : Nat, Hid (t = 64 * k) ∧ t ≤ s + 63 ∧ i = .int .i64 t ∧ Blk wr w.heap.size (bva key) 23 ∧ Blk wr (w.heap.size + 1) (bva (strTo key n s k)) 5 ∧ Below w.heap.size w wr) (fun i _ _ => s - (intOf i).toNat)
  case atStart => exact ⟨0, 0, rfl, by omega, rfl, BK.out, BO.out, BL.out⟩
  case round =>
    obtain ⟨k, t, HT, ht, rfl, B1, B2, hbel⟩ := hrel
    clear BL BK BO
    by_cases hlt : t < s
    · have ek : (t : Int) / 64 = (k : Int) := by have := HT.out; omega
      have k0 : (0 : Int) ≤ (k : Int) := by omega
      have k1 : (k : Int) ≤ 1024 := by have := HT.out; omega
      have kc : (k : Int) = ((UInt32.ofNat k).toNat : Int) := by rw [UInt32.toNat_ofNat']; omega
      have KC := Lib.hid kc
      clear kc
      have G1 := Lib.hid B1
      have G2 := Lib.hid B2
      clear B1 B2
      go_wp2_with (refine wpList_load_row rfl 23 (.tmp 3) rfl w.heap.size rfl 23 (bva key) (0, 0) _ ?hg Try.underlying23 rfl HI.out ?_; case hg => exact G1.out)
      refine (block_as key hkey _ (UInt32.ofNat k) n _ KC.out).mono ?_
      rintro e w2 ⟨rfl, hb2⟩
      have p1 := G1.out.below hb2
      have p2 := G2.out.below hb2
      have p3 := hbel.trans (hb2.mono hbel.size)
      have P1 := Lib.hid p1
      have P2 := Lib.hid p2
      have P3 := Lib.hid p3
      clear p1 p2 p3 G1 G2 hbel hb2
      have HX : Hid ((Try.prog.info? 52).map (·.size) = some (bva (blockL key (UInt32.ofNat k) n)).size) := by rw [bva_size, blockL_length]; exact info38
      go_wp2_with (refine wpList_store_row rfl 52 (.tmp 9) (.tmp 28) rfl w2.heap.size (bva (blockL key (UInt32.ofNat k) n)) rfl rfl 52 (bva (List.replicate 64 0)) (heap_alloc_new _ _) HX.out (by rw [bva_size, bva_size, blockL_length]; rfl) (bva_one _) ?_; generalize hw3 : World.setRow _ _ _ = w3; have HW := Lib.hid hw3; clear hw3)
      have r1 : Blk w3 w.heap.size (bva key) 23 := by rw [← HW.out]; exact blk_past P1.out
      have r2 : Blk w3 (w.heap.size + 1) (bva (strTo key n s k)) 5 := by rw [← HW.out]; exact blk_past P2.out
      have r3 : Blk w3 w2.heap.size (bva (blockL key (UInt32.ofNat k) n)) 52 := by rw [← HW.out]; exact blk_new _
      have r4 : Below w.heap.size w w3 := by rw [← HW.out]; exact below_new P3.out P3.out.size
      have l2 := P2.out.lt
      have R1 := Lib.hid r1
      have R2 := Lib.hid r2
      have R3 := Lib.hid r3
      have R4 := Lib.hid r4
      clear r1 r2 r3 r4 P1 P2 P3 HW
      have t0 : (0 : Int) ≤ (t : Int) := by omega
      have t1 : (t : Int) ≤ (s : Int) := by omega
      have t2 : ¬ s = t := by omega
      refine wp_region_any (by kernel_rfl) ?_
      change wpAny _ _ _ _ _ _ _ (World.drew _)
      refine wpAny_take (i := 0) (v := ?v0) rfl (by kernel_rfl) (by kernel_rfl) (by kernel_rfl) (fun _ _ _ h => h) (Or.inl ⟨by rfl, ?y0⟩) ?_
      case y0 => (intro w'; go_simp; try with_reducible rfl)
      refine wpAny_take (i := 1) (v := ?v1) rfl (by kernel_rfl) (by kernel_rfl) (by kernel_rfl) (fun _ _ _ h => h) (Or.inl ⟨by rfl, ?y1⟩) ?_
      case y1 => (intro w'; go_simp; try with_reducible rfl)
      refine wpAny_take (i := 2) (v := ?v2) rfl (by kernel_rfl) (by kernel_rfl) (by kernel_rfl) (fun _ _ _ h => h) (Or.inl ⟨by rfl, ?y2⟩) ?_
      case y2 => (intro w'; go_simp; try with_reducible rfl)
      refine wpAny_take (i := 3) (v := ?v3) rfl (by kernel_rfl) (by kernel_rfl) (by kernel_rfl) (fun _ _ _ h => h) (Or.inl ⟨by rfl, ?y3⟩) ?_
      case y3 => (intro w'; go_simp; try with_reducible rfl)
      refine wpAny_ready (rs := [4]) (by kernel_rfl) (by simp) (AllReady.cons rfl (fun K hK => ?_) AllReady.nil)
      obtain ⟨m, hm⟩ : ∃ m, m = min 64 (s - t) := ⟨_, rfl⟩
      have hbl := blockL_length key (UInt32.ofNat k) n
      have hl : ((blockL key (UInt32.ofNat k) n).take m).length = m := by simp [hbl]; omega
      refine step_copy_splice rfl (.tmp 31) (.tmp 32) 33 33 rfl 5 Try.underlying33 cinfo5 (some ⟨w.heap.size + 1, t, none⟩) (some ⟨w2.heap.size, 0, none⟩) (s - t) (s - t) 64 64 rfl rfl (w.heap.size + 1) t (bv (strTo key n s k)) 5 R2.out (bv ((blockL key (UInt32.ofNat k) n).take m)) (by rw [bv_length, hl, hm]) (fun _ => ⟨rfl, _, rfl, fun j v hv => ?_⟩) (by rw [bv_length, bv_length, hl, strTo_length]; omega) (bv_one _) (w.heap.size + 1) w3.drew (Below.refl _ _) (Nat.le_refl _) ?_
      · rw [add_head]
        show w3.cell? ⟨w2.heap.size, j, none⟩ = some v
        rw [R3.out.cell, bva, List.getElem?_toArray]
        exact bv_take_get hv
      intro w4 hg4 hb4
      refine hK _ _ ?_
      clear hK K
      refine wpAny_done (by kernel_rfl) ?_ _
      go_wp2
      go_roundw
      case rel =>
        refine ⟨k + 1, t + 64, (by have h := HT.out; show t + 64 = 64 * (k + 1); omega), by omega, by go_num, ?_, ?_, R4.out.drew.trans (hb4.mono (by omega))⟩
        · unfold Blk; rw [hb4.block _ (by omega)]; exact R1.out
        · have h := hg4.out
          rw [splice_bv, strTo_step HT.out hm hlt] at h
          exact h
      case measure => simp [intOf]; omega
    · have h64 : s ≤ 64 * k := by have := HT.out; omega
      rw [strTo_all h64] at B2
      have G2 := Lib.hid B2
      clear B1 B2
      go_wp2
      go_ret
      exact RetRow.mk rfl (own_of_blk G2.out (streamL_length _ _ _) (by unfold maxLen; omega) (by omega)) hbel

set_option maxHeartbeats 400000 in
theorem stream_out (key : List UInt8) (n : Nat) (s : Int) (w : World) (hs : s < 1 ∨ 65536 < s) :
    Calls Try.prog 23 #[.agg (bva key), .int .u64 (n : Int), .int .i64 s] w (RetRow 5 (bv []) w) := by
  rcases hs with hs | hs
  · go_enter Try.func23, Try.ntmps23
    go_wp2
    go_ret
    exact RetRow.mk rfl (World.ownsRow_nil _ _ _ _) ((Below.refl _ _).alloc (Nat.le_refl _) _)
  · have hs' : ¬ s < 1 := by omega
    go_enter Try.func23, Try.ntmps23
    go_wp2
    go_ret
    exact RetRow.mk rfl (World.ownsRow_nil _ _ _ _) ((Below.refl _ _).alloc (Nat.le_refl _) _)

theorem stream_any (key : List UInt8) (hkey : key.length = 32) (n : Nat) (size : Int) (w : World) :
    Calls Try.prog 23 #[.agg (bva key), .int .u64 (n : Int), .int .i64 size] w (RetRow 5 (bv (streamI key n size)) w) := by
  by_cases h : 1 ≤ size ∧ size ≤ 65536
  · obtain ⟨s, rfl⟩ := Int.eq_ofNat_of_zero_le (by omega : 0 ≤ size)
    rw [streamI, if_pos h, Int.toNat_natCast]
    exact stream_in key hkey n s w (by omega) (by omega)
  · rw [streamI, if_neg h]
    exact stream_out key n size w (by omega)
end Go.Proofs.Ytobkkbpeoohfkaa
