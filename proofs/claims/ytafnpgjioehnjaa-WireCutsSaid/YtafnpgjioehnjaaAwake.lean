/-
  The contract of awake: it returns true, and what there was is as it was.
-/
import Derived.Test.YtafnpgjioehnjaaFrame
import Derived.Test.YtafnpgjioehnjaaSame
namespace Go.Proofs.Ytafnpgjioehnjaa
open Go.RowKit

theorem awake_rows (w : World) (c d : Nat) (hd : d = 0) (hc : 1 ≤ c) (hc' : c ≤ maxLen) : RdB (w.heap.size + 1 + 1) ((w.alloc (.cells #[Value.int .u8 7] 5)).alloc (.cells #[.slice (some ⟨w.heap.size, 0, none⟩) 1 c, .slice none 0 d] 23)) (some ⟨w.heap.size + 1, 0, none⟩) [[7], []] := by
  refine ⟨[.slice (some ⟨w.heap.size, 0, none⟩) 1 c, .slice none 0 d], rfl, ?_, ?_⟩
  · have h := Rd.lit (w.alloc (.cells #[Value.int .u8 7] 5)) 23 [.slice (some ⟨w.heap.size, 0, none⟩) 1 c, .slice none 0 d]
    have e : (w.alloc (.cells #[Value.int .u8 7] 5)).heap.size = w.heap.size + 1 := by simp
    rw [e] at h
    exact h
  · intro k v l hv hl
    match k, hv, hl with
    | 0, hv, hl =>
      injection hv with hv; injection hl with hl
      subst hv; subst hl
      refine ⟨_, _, rfl, hc, hc', ?_⟩
      have h := Rd.lit w 5 [Value.int .u8 7]
      exact (h.below ((Below.refl (w.heap.size + 1) _).alloc (by simp) _)).more (by omega)
    | 1, hv, hl =>
      injection hv with hv; injection hl with hl
      subst hv; subst hl
      exact ⟨_, _, rfl, by simp, by subst hd; simp, Rd.none⟩
    | k + 2, hv, hl => simp at hv

set_option maxHeartbeats 400000 in
theorem awake_any (w : World) : Calls Try.prog 11 #[] w (RetB (.bool true) w) := by
  go_enter Try.func11, Try.ntmps11
  go_wp2_with fail
  refine (wframe_any _ _ _ [[7], []] _ rfl two_le_maxLen ?_ ?_ ?_).mono ?_
  · have h := awake_rows w 1 0 rfl (by omega) (by unfold maxLen; omega)
    simpa using h
  · intro l hl; simp at hl; rcases hl with rfl | rfl <;> simp
  · rw [show (frameL [[7], []]).length = 5 from rfl]; omega
  · rintro e w1 ⟨A1, n1, c1, rfl, hown1, hb1⟩
    obtain rfl : 5 = n1 := own_blen hown1
    have hbw1 : Below w.heap.size w w1 := (((Below.refl _ _).alloc (Nat.le_refl _) _).alloc (by simp) _).trans (hb1.mono (by simp; omega))
    have hs1 : w.heap.size + 2 ≤ w1.heap.size := by have := hb1.size; simp at this; omega
    have hm5 : 5 ≤ maxLen := by unfold maxLen; omega
    go_wp2_with fail
    refine (same_b (b := true) (xs := [0, 1, 7, 0, 0]) (ys := [0, 1, 7, 0, 0]) rfl rfl rfl ((Rd.own hown1).below ((Below.refl _ _).alloc (Nat.le_refl _) _)) (Rd.lit w1 5 [.int .u8 0, .int .u8 1, .int .u8 7, .int .u8 0, .int .u8 0]) hm5 hm5).mono ?_
    rintro e w2 ⟨rfl, q, rfl⟩
    go_wp2_with fail
    refine (wput_any 258 3 _ (by omega) (by omega)).mono ?_
    rintro e w3 ⟨A3, n3, c3, rfl, hown3, hb3⟩
    obtain rfl : 3 = n3 := own_blen hown3
    have hm3 : 3 ≤ maxLen := by unfold maxLen; omega
    go_wp2_with fail
    refine (same_b (b := true) (xs := [0, 1, 2]) (ys := [0, 1, 2]) rfl rfl rfl ((Rd.own hown3).below ((Below.refl _ _).alloc (Nat.le_refl _) _)) (Rd.lit w3 5 [.int .u8 0, .int .u8 1, .int .u8 2]) hm3 hm3).mono ?_
    rintro e w4 ⟨rfl, q', rfl⟩
    go_wp2_with fail
    go_ret
    refine ⟨rfl, below_drewN' ((hbw1.trans ?_).alloc ?_ _) q'⟩
    · exact (below_drewN' ((Below.refl _ _).alloc (by omega) _) q).trans (hb3.mono (by simp; omega))
    · have := hb3.size; simp at this; omega
end Go.Proofs.Ytafnpgjioehnjaa
