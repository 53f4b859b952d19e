/-
  The contract of Frame of package wire: the frame of parts that are none too long, in new memory.
-/
import Derived.Test.YtdemfaolkmillaaWiPut
namespace Go.Proofs.Ytdemfaolkmillaa.Wi
open Go.RowKit

/-- The frame of parts. -/
def frameL (ls : List (List UInt8)) : List UInt8 := ls.flatMap fun l => putL l.length 2 ++ l
theorem frame_append (a b : List (List UInt8)) : frameL (a ++ b) = frameL a ++ frameL b := List.flatMap_append
theorem frame_one (l : List UInt8) : frameL [l] = putL l.length 2 ++ l := by simp [frameL]
theorem frame_more {ls : List (List UInt8)} {k : Nat} (h : k < ls.length) : frameL (ls.take (k + 1)) = frameL (ls.take k) ++ (putL ls[k].length 2 ++ ls[k]) := by
  rw [List.take_succ_eq_append_getElem h, frame_append, frame_one]
theorem frame_step {ls : List (List UInt8)} {k : Nat} (h : k < ls.length) : (frameL (ls.take (k + 1))).length = (frameL (ls.take k)).length + (2 + ls[k].length) := by
  rw [frame_more h, List.length_append, List.length_append, putL_length]
theorem frame_le (ls : List (List UInt8)) (k : Nat) : (frameL (ls.take k)).length ≤ (frameL ls).length := by
  have h : frameL ls = frameL (ls.take k) ++ frameL (ls.drop k) := by rw [← frame_append, List.take_append_drop]
  rw [h, List.length_append]
  omega
theorem frame_all (ls : List (List UInt8)) : frameL (ls.take ls.length) = frameL ls := by rw [List.take_of_length_le (Nat.le_refl _)]

theorem ret_frame {z z' : Int} {b : Bool} (h : z = z') : Ending.returned (.tuple #[.int .i64 z, .bool b]) = .returned (.tuple #[.int .i64 z', .bool b]) := by rw [h]

set_option maxHeartbeats 400000 in
theorem fsize_any {B : Nat} (A : Option Addr) (n c : Nat) (ls : List (List UInt8)) (w : World) (hn : ls.length = n) (hnm : n ≤ maxLen)
    (ha : RdB B w A ls) (hp : ∀ l ∈ ls, l.length ≤ 65535) (ht : (frameL ls).length ≤ 140737488355328) :
    Calls Try.prog 43 #[.slice A n c] w fun e w' => e = .returned (.tuple #[.int .i64 ((frameL ls).length : Int), .bool true]) ∧ w = w' := by
  subst hn
  unfold maxLen at hnm
  have HT := Lib.hid (frame_le ls)
  have HP := Lib.hid hp
  clear hp
  go_enter Try.func43, Try.ntmps43
  go_wp2
  go_loop [4, 6, 9] (fun s p i => ∃ k Z : Nat, k ≤ ls.length ∧ i = .int .i64 k ∧ s = .int .i64 Z ∧ Z ≤ 140737488355328 ∧ Hid (Z = (frameL (ls.take k)).length)) (fun _ _ i => ls.length - (intOf i).toNat)
  case atStart => exact ⟨0, 0, Nat.zero_le _, rfl, rfl, by omega, rfl⟩
  case round =>
    obtain ⟨k, Z, hk, rfl, rfl, hZ, HZ⟩ := hrel
    by_cases hlt : k < ls.length
    · obtain ⟨ad, A', c', rfl, _, hc, _, _, _⟩ := ha.at_ hlt
      have h1 : (ls[k].length : Int) ≤ 65535 := by have := HP.out _ (List.getElem_mem hlt); omega
      go_wp2
      go_round
      case rel => exact ⟨k + 1, Z + (2 + ls[k].length), by omega, by go_num, by go_num, by rw [HZ.out, ← frame_step hlt]; exact Nat.le_trans (HT.out _) ht, by show _ = _; rw [HZ.out, frame_step hlt]⟩
      case measure => simp [intOf]; omega
    · obtain rfl : k = ls.length := by omega
      go_wp2
      go_ret2
      exact ⟨ret_frame (by rw [HZ.out, frame_all]), rfl⟩

theorem putI_two (n : Nat) : putI (n : Int) 2 = putL n 2 := by simp [putI]
set_option maxHeartbeats 400000 in
theorem wframe_any (A : Option Addr) (n c : Nat) (ls : List (List UInt8)) (w : World) (hn : ls.length = n) (hnm : n ≤ maxLen)
    (ha : RdB w.heap.size w A ls) (hp : ∀ l ∈ ls, l.length ≤ 65535) (ht : (frameL ls).length ≤ 140737488355328) :
    Calls Try.prog 27 #[.slice A n c] w (RetRowT 5 (bv (frameL ls)) w) := by
  have HF := Lib.hid (fsize_any A n c ls w hn hnm ha hp ht)
  subst hn
  unfold maxLen at hnm
  have HT := Lib.hid (frame_le ls)
  have HP := Lib.hid hp
  clear hp
  obtain ⟨i0, hi, hz0, hz1, hz2⟩ := info_parts info_byte
  go_enter Try.func27, Try.ntmps27
  go_wp2_with (first
    | (go_at_call 43; refine (HF.out).mono ?_; rintro e w' ⟨rfl, rfl⟩)
    | (at_make; refine wpList_make_own _ rfl _ _ _ rfl w.heap.size 5 i0 _ 1 Try.underlying28 hi hz0 hz1 .i64 .i64 _ (frameL ls).length rfl rfl rfl ?_ ?_ ?_ ?_; (rw [hz2]; omega); (unfold maxLen; omega); (exact Nat.le_refl _); intro w1 hown hg))
  go_loopw [6, 8, 20] (fun o p i wr => ∃ k A' c', k ≤ ls.length ∧ i = .int .i64 (k : Nat) ∧ o = .slice A' (frameL (ls.take k)).length c' ∧ Below w.heap.size w wr ∧ wr.ownsRow w.heap.size 5 1 (.slice A' (frameL (ls.take k)).length c') (frameL (ls.take k)).length (bv (frameL (ls.take k)))) (fun _ _ i _ => ls.length - (intOf i).toNat)
  case atStart => exact ⟨0, _, _, Nat.zero_le _, rfl, rfl, (Below.refl _ _).grown hg (Nat.le_refl _) (fun _ h => by cases h), hown⟩
  case round =>
    obtain ⟨k, A', c', hk, rfl, rfl, hb, how⟩ := hrel
    by_cases hlt : k < ls.length
    · obtain ⟨ad, A2, c2, rfl, hbl, hc0, _, _, hrl⟩ := ha.at_ hlt
      have hc := (hb.cell (p := ad.add k) (by rw [add_block]; exact hbl)).trans hc0
      clear hc0
      have h1 : (ls[k].length : Int) ≤ 65535 := by have := HP.out _ (List.getElem_mem hlt); omega
      have hsz : ((frameL (ls.take k)).length + 2 + ls[k].length) * 1 ≤ 140737488355328 := by have := HT.out (k + 1); rw [frame_step hlt] at this; omega
      go_wp2_with (first
        | (go_at_call 44; refine (wput_any _ _ _ ?_ ?_).mono ?_; omega; omega; rintro e w2 ⟨A3, n3, c3, rfl, hown3, hb3⟩; obtain rfl : 2 = n3 := by (have := own_blen hown3; rw [putI_two, putL_length] at this; exact this))
        | (at_builtin; refine wpList_app _ rfl (.tmp 24) (.tmp 28) _ rfl bytesElt (base := w.heap.size) rfl (own_below how hb3) rfl (Rd.own hown3) (own_len hown3) (bv_one _) ?_ ?_ ?_; omega; exact Nat.le_trans hb.size hb3.size; intro A4 c4 w4 hown4 hg4 _; have hb4 := app_below (hb.trans (hb3.mono hb.size)) (own_below how hb3) hg4 (Nat.le_refl _) (Nat.le_trans hb.size hb3.size))
        | (at_builtin; refine wpList_app _ rfl (.tmp 30) (.tmp 31) _ rfl bytesElt (base := w.heap.size) rfl hown4 rfl (hrl.below hb4) (bv_length _) (bv_one _) ?_ ?_ ?_; omega; exact hb4.size; intro A5 c5 w5 hown5 hg5 _; have hb5 := app_below hb4 hown4 hg5 (Nat.le_refl _) hb4.size))
      go_roundw
      case rel => exact ⟨k + 1, A5, c5, by omega, by go_num, slice_eq (by rw [frame_step hlt]; omega), hb5, own_eq hown5 (by rw [frame_step hlt]; omega) (by rw [frame_more hlt, bv_append, bv_append, putI_two, List.append_assoc])⟩
      case measure => simp [intOf]; omega
    · obtain rfl : k = ls.length := by omega
      go_wp2
      go_ret2
      exact RetRowT.mk rfl (own_eq how rfl (by rw [frame_all])) hb
/-- A frame tells its parts. -/
theorem putL_inj {m n : Nat} (hm : m ≤ 65535) (hn : n ≤ 65535) (h : putL m 2 = putL n 2) : m = n := by
  have h0 : (putL m 2)[0]? = (putL n 2)[0]? := by rw [h]
  have h1 : (putL m 2)[1]? = (putL n 2)[1]? := by rw [h]
  rw [putL_get (by omega), putL_get (by omega)] at h0 h1
  injection h0 with h0
  injection h1 with h1
  have e0 := congrArg UInt8.toNat h0
  have e1 := congrArg UInt8.toNat h1
  rw [UInt8.toNat_ofNat', UInt8.toNat_ofNat'] at e0 e1
  simp at e0 e1
  omega
theorem frame_inj : ∀ (a b : List (List UInt8)), (∀ l ∈ a, l.length ≤ 65535) → (∀ l ∈ b, l.length ≤ 65535) → frameL a = frameL b → a = b
  | [], [], _, _, _ => rfl
  | [], l :: b, _, _, h => by
    have h1 := congrArg List.length h
    rw [show l :: b = [l] ++ b from rfl, frame_append, frame_one, List.length_append, List.length_append, putL_length] at h1
    have h2 : (frameL ([] : List (List UInt8))).length = 0 := rfl
    omega
  | l :: a, [], _, _, h => by
    have h1 := congrArg List.length h
    rw [show l :: a = [l] ++ a from rfl, frame_append, frame_one, List.length_append, List.length_append, putL_length] at h1
    have h2 : (frameL ([] : List (List UInt8))).length = 0 := rfl
    omega
  | l :: a, m :: b, ha, hb, h => by
    have h' : putL l.length 2 ++ (l ++ frameL a) = putL m.length 2 ++ (m ++ frameL b) := by
      have e : ∀ (x : List UInt8) (r : List (List UInt8)), frameL (x :: r) = putL x.length 2 ++ (x ++ frameL r) := fun x r => by
        rw [show x :: r = [x] ++ r from rfl, frame_append, frame_one, List.append_assoc]
      rw [← e, ← e]; exact h
    obtain ⟨h1, h2⟩ := List.append_inj h' (by rw [putL_length, putL_length])
    have hl := putL_inj (ha l (by simp)) (hb m (by simp)) h1
    obtain ⟨h3, h4⟩ := List.append_inj h2 hl
    rw [h3, frame_inj a b (fun x hx => ha x (by simp [hx])) (fun x hx => hb x (by simp [hx])) h4]
end Go.Proofs.Ytdemfaolkmillaa.Wi
