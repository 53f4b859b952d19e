/-
  The contract of the reference's Frame: the frame of parts that are none too long, in new memory.
-/
import Derived.Test.YtafnpgjioehnjaaFrame
import Derived.Deep.RegionHeld3
import Derived.Deep.DrawnRows
namespace Go.Proofs.Ytafnpgjioehnjaa
open Go.RowKit

theorem put_two {x : Nat} (h : x ≤ 65535) : [Value.int .u8 (IntKind.u8.wrap (IntKind.i64.wrap ((x : Int) / 256))), .int .u8 (IntKind.u8.wrap ((x : Int).tmod 256))] = bv (putL x 2) := by
  have e : putL x 2 = [UInt8.ofNat (x / 256 % 256), UInt8.ofNat (x % 256)] := by simp [putL, List.range_succ]
  rw [e]
  show _ = [Value.int .u8 ((UInt8.ofNat (x / 256 % 256)).toNat : Int), .int .u8 ((UInt8.ofNat (x % 256)).toNat : Int)]
  rw [ofNat_byte, ofNat_byte, IntWalk.i64_in _ (by omega), IntWalk.u8_in _ (by omega), IntWalk.rem_in _ _ (by omega), IntWalk.u8_in _ (by omega)]
  congr 2
  · omega

set_option maxHeartbeats 400000 in
theorem rframe_any (A : Option Addr) (n c : Nat) (ls : List (List UInt8)) (w : World) (hn : ls.length = n) (hnm : n ≤ maxLen)
    (ha : RdB w.heap.size w A ls) (hp : ∀ l ∈ ls, l.length ≤ 65535) (ht : (frameL ls).length ≤ 140737488355328) :
    Calls Try.prog 18 #[.slice A n c] w (RetRowT 5 (bv (frameL ls)) w) := by
  subst hn
  unfold maxLen at hnm
  have HT := Lib.hid (frame_le ls)
  have HP := Lib.hid hp
  clear hp
  go_enter Try.func18, Try.ntmps18
  go_wp2
  go_loopw [4, 5] (fun o i wr => ∃ k A' c', k ≤ ls.length ∧ i = .int .i64 (k : Nat) ∧ o = .slice A' (frameL (ls.take k)).length c' ∧ Below w.heap.size w wr ∧ wr.ownsRow w.heap.size 5 1 (.slice A' (frameL (ls.take k)).length c') (frameL (ls.take k)).length (bv (frameL (ls.take k)))) (fun _ i _ => ls.length - (intOf i).toNat)
  case atStart => exact ⟨0, none, 0, Nat.zero_le _, rfl, rfl, Below.refl _ _, World.ownsRow_nil w _ _ _⟩
  case round =>
    obtain ⟨k, A', c', hk, rfl, rfl, hb, how⟩ := hrel
    by_cases hlt : k < ls.length
    · obtain ⟨ad, A2, c2, rfl, hbl, hc0, _, _, hrl⟩ := ha.at_ hlt
      have hc := (hb.cell (p := ad.add k) (by rw [add_block]; exact hbl)).trans hc0
      have hblk : (ad.add k).block < w.heap.size := by rw [add_block]; exact hbl
      have h1 : (ls[k].length : Int) ≤ 65535 := by have := HP.out _ (List.getElem_mem hlt); omega
      have hsz : ((frameL (ls.take k)).length + 2 + ls[k].length) * 1 ≤ 140737488355328 := by have := HT.out (k + 1); rw [frame_step hlt] at this; omega
      have h0 : (0 : Int) ≤ (k : Int) := by omega
      have h2 : (k : Int) < (ls.length : Int) := by omega
      obtain ⟨x, hx⟩ : ∃ x : Nat, x = ls[k].length := ⟨_, rfl⟩
      rw [← hx] at hc hc0 h1 hsz
      have HC0 := Lib.hid hc0
      clear hc0
      have HX := Lib.hid hx
      have h1c : ∀ u ∈ [Value.int .u8 (IntKind.u8.wrap (IntKind.i64.wrap ((x : Int) / 256))), .int .u8 (IntKind.u8.wrap ((x : Int).tmod 256))], u.oneCell' = true := by intro u hu; simp at hu; rcases hu with rfl | rfl <;> rfl
      clear hx
      go_wp2
      go_region_held3 (fun w' => w'.cell? (ad.add k) = some (.slice A2 x c2)) (first | go_keep | exact (hb4.cell hblk).trans HC0.out) ((refine step_app _ ?_ (.tmp 18) (.tmp 33) 23 ?_ (e := 5) (z := .int .u8 0) (bytes := 1) ?_ (base := w.heap.size) (n := (frameL (ls.take k)).length) (v := .slice A' (frameL (ls.take k)).length c') (xs := bv (frameL (ls.take k))) ?_ ?_ (B := wr.heap.size + 1) (m := 2) (c := 2) (A := some ⟨wr.heap.size, 0, none⟩) (news := [.int .u8 (IntKind.u8.wrap (IntKind.i64.wrap ((x : Int) / 256))), .int .u8 (IntKind.u8.wrap ((x : Int).tmod 256))]) ?_ ?_ ?_ ?_ ?_ ?_ ?_; rfl; rfl; exact bytesElt; rfl; exact how.alloc _; rfl; exact Rd.lit wr 5 _; rfl; exact h1c; omega; exact ((hb.alloc hb.size _).drew).size; intro A4 c4 w4 hown4 hg4 _; have hb4 := app_below ((hb.alloc hb.size _).drew) (how.alloc _).drew hg4 (Nat.le_refl _) ((hb.alloc hb.size _).drew).size))
      have hc4 := (hb4.cell hblk).trans HC0.out
      clear hg4 h1c hc
      go_wp2_with (at_builtin; refine wpList_app _ rfl (.tmp 35) (.tmp 39) _ rfl bytesElt (base := w.heap.size) (v := .slice A4 ((frameL (ls.take k)).length + 2) c4) rfl hown4 (m := x) rfl (hrl.below hb4) (by rw [bv_length, HX.out]) (bv_one _) ?_ ?_ ?_; omega; exact hb4.size; intro A5 c5 w5 hown5 hg5 _; have hb5 := app_below hb4 hown4 hg5 (Nat.le_refl _) hb4.size)
      go_roundw
      case rel => exact ⟨k + 1, A5, c5, by omega, by go_num, slice_eq (by rw [frame_step hlt, HX.out]; omega), hb5, own_eq hown5 (by rw [frame_step hlt, HX.out]; omega) (by rw [frame_more hlt, bv_append, bv_append, ← HX.out, ← put_two (x := x) (by omega), List.append_assoc])⟩
      case measure => simp [intOf]; omega
    · obtain rfl : k = ls.length := by omega
      go_wp2
      go_ret2
      exact RetRowT.mk rfl (own_eq how rfl (by rw [frame_all])) hb
end Go.Proofs.Ytafnpgjioehnjaa
