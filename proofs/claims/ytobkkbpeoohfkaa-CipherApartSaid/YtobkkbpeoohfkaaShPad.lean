/-
  The contracts of padded, Pad: a text padded, in new memory.
-/
import Derived.Test.YtobkkbpeoohfkaaRows
import Derived.Test.YtobkkbpeoohfkaaShPlain
namespace Go.Proofs.Ytobkkbpeoohfkaa
open Go.RowKit
theorem info_byte : (Try.prog.info? 5).map (fun i => (i.zero, i.size, i.bytes)) = some (some (.int .u8 0), 1, 1) := by kernel_rfl
theorem info5 : (Try.prog.info? 5).map (·.size) = some 1 := by kernel_rfl
theorem Rd.src {B : Nat} {w : World} {A : Option Addr} {xs : List Value} (h : Rd B w A xs) (hl : 0 < xs.length) : ∃ ad, A = some ad ∧ ∀ j v, xs[j]? = some v → w.cell? (ad.add j) = some v := by
  obtain ⟨ad, rfl, _, _⟩ := h 0 _ (List.getElem?_eq_getElem hl)
  refine ⟨ad, rfl, fun j v hv => ?_⟩
  obtain ⟨ad', e, _, hc⟩ := h j v hv
  injection e with e
  subst e
  exact hc
/-- A padded text, as far as k bytes of its length are laid. -/
def padTo (b : List UInt8) (size k : Nat) : List UInt8 := b ++ 128 :: (List.replicate (padN b.length - b.length - 9) 0 ++ ((beL (8 * size) 8).take k ++ List.replicate (8 - k) 0))
theorem padTo_length (b : List UInt8) (size k : Nat) (hk : k ≤ 8) : (padTo b size k).length = padN b.length := by
  have := padN_le b.length
  simp [padTo, beL_length]; omega
theorem padTo_zero (b : List UInt8) (size : Nat) : (splice (List.replicate (padN b.length) 0) 0 b).set b.length 128 = padTo b size 0 := by
  have := padN_le b.length
  have e : splice (List.replicate (padN b.length) (0 : UInt8)) 0 b = b ++ 0 :: List.replicate (padN b.length - b.length - 1) 0 := by
    unfold splice
    rw [List.take_zero, List.nil_append, List.drop_replicate, ← List.replicate_succ]
    congr 2; omega
  rw [e, List.set_append_right _ _ (Nat.le_refl _), Nat.sub_self, List.set_cons_zero, padTo, List.take_zero, List.nil_append, List.replicate_append_replicate]
  congr 3; omega
theorem padTo_all (b : List UInt8) (size : Nat) : padTo b size 8 = padP b size := by
  rw [padTo, padP, List.take_of_length_le (by rw [beL_length]; omega), Nat.sub_self, List.replicate_zero, List.append_nil]
theorem beL_get {n s k : Nat} (h : k < s) : (beL n s)[k]? = some (UInt8.ofNat (n / 2 ^ (8 * (s - 1 - k)) % 256)) := by
  simp [beL, h]
theorem padTo_step {b : List UInt8} {size k m : Nat} (hk : k < 8) (hm : m = padN b.length - 8 + k) : (padTo b size k).set m (UInt8.ofNat (8 * size / 2 ^ (8 * (7 - k)) % 256)) = padTo b size (k + 1) := by
  have h1 := padN_le b.length
  obtain ⟨j, hj⟩ : ∃ j, 8 - k = j + 1 := ⟨7 - k, by omega⟩
  have hj' : 8 - (k + 1) = j := by omega
  have e2 : (beL (8 * size) 8).take (k + 1) = (beL (8 * size) 8).take k ++ [UInt8.ofNat (8 * size / 2 ^ (8 * (7 - k)) % 256)] := by
    rw [List.take_add_one, beL_get hk]; rfl
  have hl : ((beL (8 * size) 8).take k).length = k := by rw [List.length_take, beL_length]; omega
  unfold padTo
  rw [hj, hj', e2, List.replicate_succ, List.set_append_right _ _ (by omega)]
  obtain ⟨i, hi⟩ : ∃ i, m - b.length = i + 1 := ⟨m - b.length - 1, by omega⟩
  rw [hi, List.set_cons_succ, List.set_append_right _ _ (by rw [List.length_replicate]; omega), List.length_replicate, List.set_append_right _ _ (by rw [hl]; omega), hl,
    show i - (padN b.length - b.length - 9) - k = 0 by omega, List.set_cons_zero, List.append_assoc]
  rfl
theorem byte_val (N d : Nat) : (N : Int) / 2 ^ d % 256 = ((UInt8.ofNat (N / 2 ^ d % 256)).toNat : Int) := by
  simp
set_option maxHeartbeats 800000 in
theorem padded_any {B : Nat} (A : Option Addr) (n c : Nat) (b : List UInt8) (size : Nat) (w : World) (hn : b.length = n) (hB : B ≤ w.heap.size) (ha : Rd B w A (bv b)) (hs : n ≤ 70368744177664) (hz : size ≤ 140737488355328) :
    Calls Try.prog 45 #[.slice A n c, .int .u64 (size : Int)] w (RetRow 5 (bv (padP b size)) w) := by
  obtain ⟨i0, hi, hz0, hz1, hz2⟩ := info_parts info_byte
  obtain ⟨T, hT⟩ : ∃ T, T = padN b.length := ⟨_, rfl⟩
  have hT' : ((n : Int) + 1 + 8 + 64 - 1) / 64 * 64 = (T : Int) := by rw [hT, hn]; unfold padN; omega
  have hTl : n + 9 ≤ T ∧ T ≤ n + 72 := by omega
  obtain ⟨t8, ht8⟩ : ∃ t8 : Nat, t8 = T - 8 := ⟨_, rfl⟩
  have et8 : (T : Int) - 8 = (t8 : Int) := by omega
  have t80 : (0 : Int) ≤ (t8 : Int) := by omega
  have t81 : (t8 : Int) ≤ (T : Int) := by omega
  have t82 : ¬ T = t8 := by omega
  have HN := Lib.hid hn
  have HT := Lib.hid hT
  have H8 := Lib.hid ht8
  clear hn hT ht8
  go_enter Try.func45, Try.ntmps45
  go_wp2_with (first
    | (at_make
       refine wpList_make_full _ rfl _ _ _ rfl w.heap.size 5 i0 _ 1 Try.underlying33 hi hz0 hz1 .i64 .i64 _ _ T rfl rfl rfl rfl ?_ ?_ ?_ ?_
       · rw [hz2]; omega
       · unfold maxLen; omega
       · exact Nat.le_refl _
       intro w1 hown hg
       rw [made_zero] at hown
       have p1 : Below w.heap.size w w1 := (Below.refl _ _).grown hg (Nat.le_refl _) (fun _ h => by cases h)
       have P2 := Lib.hid (blk_of_own hown (by omega))
       have P3 := Lib.hid ((ha.more hB).below p1)
       have P1 := Lib.hid p1
       clear p1 hown hg ha hi hz0 hz1 hz2
       have n1 : (n : Int) ≤ (T : Int) := by omega)
    | (refine wpList_copy_splice rfl (.tmp 20) (.tmp 21) 33 33 rfl 5 Try.underlying33 info5 (some ⟨w.heap.size, 0, none⟩) A T T n c rfl rfl w.heap.size 0 (bv (List.replicate T 0)) 5 P2.out (bv b) (by rw [bv_length, HN.out]; exact (Nat.min_eq_left (by omega)).symm) (fun h => ⟨rfl, Rd.src P3.out h⟩) (by rw [bv_length, bv_length, List.length_replicate, HN.out]; omega) (bv_one _) w.heap.size w P1.out (Nat.le_refl _) ?_
       intro w2 hg2 hb2
       have q2 : Blk w2 w.heap.size (bva (splice (List.replicate T 0) 0 b)) 5 := by have h := hg2.out; rw [splice_bv] at h; exact h
       have hc := q2.cellb (k := n) (by rw [length_splice _ _ _ (by rw [List.length_replicate, HN.out]; omega), List.length_replicate]; omega)
       have hf := q2.free n
       obtain ⟨v0, hv0⟩ : ∃ v, v = ((splice (List.replicate T 0) 0 b).getD n 0) := ⟨_, rfl⟩
       rw [← hv0] at hc
       have Q2 := Lib.hid q2
       clear q2 hg2 hv0 P1 P2 P3))
  have q3 : Blk (w2.setCell ⟨w.heap.size, n, none⟩ (.int .u8 128)) w.heap.size (bva (padTo b size 0)) 5 := by
    have h := Q2.out.setb (v := .int .u8 128) n 128 rfl
    rw [← HN.out, HT.out, padTo_zero] at h
    rw [← HN.out]
    exact h
  have q4 : Below w.heap.size w (w2.setCell ⟨w.heap.size, n, none⟩ (.int .u8 128)) := hb2.setCell (Nat.le_refl _) _
  clear Q2 hc hf hb2
  go_loopw [9, 36] (fun _ i wr => ∃ k : Nat, k ≤ 8 ∧ i = .int .i64 k ∧ Blk wr w.heap.size (bva (padTo b size k)) 5 ∧ Below w.heap.size w wr) (fun _ i _ => 8 - (intOf i).toNat)
  case atStart => exact ⟨0, by omega, rfl, q3, q4⟩
  case round =>
    clear q3 q4
    obtain ⟨k, hk, rfl, B1, hbel⟩ := hrel
    by_cases hlt : k < 8
    · obtain ⟨m, hm⟩ : ∃ m : Nat, m = t8 + k := ⟨_, rfl⟩
      obtain ⟨d, hd⟩ : ∃ d : Nat, d = 8 * (7 - k) := ⟨_, rfl⟩
      have ed : 8 * (7 - (k : Int)) = (d : Int) := by omega
      have d0 : (0 : Int) ≤ (d : Int) := by omega
      have d1 : (d : Int) ≤ 56 := by omega
      have k0 : (0 : Int) ≤ (k : Int) := by omega
      have k1 : (k : Int) < 8 := by omega
      have C1 := B1.cellb (k := t8 + k) (by rw [padTo_length _ _ _ hk, ← HT.out]; omega)
      obtain ⟨v1, hv1⟩ : ∃ v, v = (padTo b size k).getD (t8 + k) 0 := ⟨_, rfl⟩
      rw [← hv1] at C1
      have C2 := B1.free (t8 + k)
      have G1 := Lib.hid B1
      have HD := Lib.hid hd
      have HM := Lib.hid hm
      clear hv1 hd hm B1
      go_wp2
      go_roundw
      case rel =>
        refine ⟨k + 1, by omega, by go_num, ?_, hbel.setCell (Nat.le_refl _) _⟩
        rw [← padTo_step (m := t8 + k) hlt (by rw [H8.out, HT.out])]
        refine G1.out.setb _ _ (int_eq ?_)
        rw [HD.out]; exact byte_val (8 * size) _
      case measure => simp [intOf]; omega
    · obtain rfl : k = 8 := by omega
      rw [padTo_all] at B1
      have G1 := Lib.hid B1
      clear B1
      go_wp2
      go_ret
      exact RetRow.mk rfl (own_of_blk G1.out (by rw [padP_length, ← HT.out]) (by unfold maxLen; omega) (Nat.le_refl _)) hbel
theorem pad_any {B : Nat} (A : Option Addr) (n c : Nat) (b : List UInt8) (w : World) (hn : b.length = n) (hB : B ≤ w.heap.size) (ha : Rd B w A (bv b)) (hs : n ≤ 70368744177664) :
    Calls Try.prog 32 #[.slice A n c] w (RetRow 5 (bv (padL b)) w) := by
  have HN := Lib.hid hn
  clear hn
  go_enter Try.func32, Try.ntmps32
  go_wp2_with fail
  refine (padded_any A n c b n _ HN.out hB ha hs (by omega)).mono ?_
  rintro e w' ⟨A', n', c', rfl, ho, hb⟩
  have HO := Lib.hid ho
  clear ho
  go_wp2_with fail
  go_ret
  exact RetRow.mk rfl (by rw [padL, HN.out]; exact HO.out) hb
end Go.Proofs.Ytobkkbpeoohfkaa
