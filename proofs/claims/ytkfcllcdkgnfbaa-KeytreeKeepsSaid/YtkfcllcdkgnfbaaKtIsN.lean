/-
  The contract of isNode: has the whole tree a node there?
-/
import Derived.Test.YtkfcllcdkgnfbaaKtFind
namespace Go.Proofs.Ytkfcllcdkgnfbaa.Kt
open Go.RowKit
attribute [local go_sem ↓] Go.wp_at_zero Go.wp_at_succ
def nodeB (x : Nd) : Bool := decide (0 ≤ x.d) && (decide (x.d ≤ 17) && (decide (x.a < 131072) && decide (x.a % manyI x.d = 0)))
theorem nodeB_iff {x : Nd} (ha : 0 ≤ x.a) (hs : x.s.length = 32) : nodeB x = true ↔ okH x := by
  simp only [nodeB, Bool.and_eq_true, decide_eq_true_eq, okH]
  constructor
  · rintro ⟨h0, h1, h2, h3⟩
    refine ⟨h0, h1, ha, h3, ?_, hs⟩
    obtain ⟨q, hq⟩ := Int.dvd_of_emod_eq_zero h3
    have hk : ∃ K : Int, manyI x.d * K = 131072 := by
      have h : x.d = 0 ∨ x.d = 1 ∨ x.d = 2 ∨ x.d = 3 ∨ x.d = 4 ∨ x.d = 5 ∨ x.d = 6 ∨ x.d = 7 ∨ x.d = 8 ∨ x.d = 9 ∨ x.d = 10 ∨ x.d = 11 ∨ x.d = 12 ∨ x.d = 13 ∨ x.d = 14 ∨ x.d = 15 ∨ x.d = 16 ∨ x.d = 17 := by omega
      rcases h with h | h | h | h | h | h | h | h | h | h | h | h | h | h | h | h | h | h <;> rw [h]
      · exact ⟨1, by decide⟩
      · exact ⟨2, by decide⟩
      · exact ⟨4, by decide⟩
      · exact ⟨8, by decide⟩
      · exact ⟨16, by decide⟩
      · exact ⟨32, by decide⟩
      · exact ⟨64, by decide⟩
      · exact ⟨128, by decide⟩
      · exact ⟨256, by decide⟩
      · exact ⟨512, by decide⟩
      · exact ⟨1024, by decide⟩
      · exact ⟨2048, by decide⟩
      · exact ⟨4096, by decide⟩
      · exact ⟨8192, by decide⟩
      · exact ⟨16384, by decide⟩
      · exact ⟨32768, by decide⟩
      · exact ⟨65536, by decide⟩
      · exact ⟨131072, by decide⟩
    obtain ⟨K, hK⟩ := hk
    have hm := (manyI_ok h0 h1).2
    rw [hq, ← hK] at h2 ⊢
    have hqk : q < K := Int.lt_of_mul_lt_mul_left h2 (by omega)
    have : manyI x.d * (q + 1) ≤ manyI x.d * K := Int.mul_le_mul_of_nonneg_left (by omega) (by omega)
    rw [Int.mul_add, Int.mul_one] at this
    exact this
  · rintro ⟨h0, h1, h2, h3, h4, _⟩
    have := (manyI_ok h0 h1).2
    exact ⟨h0, h1, by omega, h3⟩
set_option maxRecDepth 100000 in
set_option maxHeartbeats 800000 in
theorem isNode_any (x : Nd) (ha : 0 ≤ x.a) (w : World) :
    Calls Try.prog 39 #[.agg (ndC x)] w (RetB (.bool (nodeB x)) w) := by
  have b1 : Blk (w.alloc (.cells (ndC x) 48)) w.heap.size (ndC x) 48 := heap_alloc_new _ _
  have BB := Lib.hid (show Below w.heap.size w (w.alloc (.cells (ndC x) 48)) from (Below.refl _ _).alloc (Nat.le_refl _) _)
  have c0 := ndt_d b1
  have c1 := ndt_a b1
  clear b1
  by_cases h0 : 0 ≤ x.d
  · by_cases h1 : x.d ≤ 17
    · obtain ⟨M, hM⟩ : ∃ M, M = manyI x.d := ⟨_, rfl⟩
      have hm := (manyI_ok h0 h1).2
      rw [← hM] at hm
      have d0 : decide (x.d < 0) = false := decide_eq_false (by omega)
      have d1 : decide (x.d > 17) = false := decide_eq_false (by omega)
      have HQ := Lib.hid (show ∀ W, Calls Try.prog 37 #[.int .i64 x.d] W (RetQ (.int .u64 M) W) from fun W => by rw [hM]; exact leaves_q x.d h0 h1 W)
      have HQ0 := Lib.hid (show ∀ W, Calls Try.prog 37 #[.int .i64 0] W (RetQ (.int .u64 131072) W) from fun W => leaves_q 0 (by omega) (by omega) W)
      by_cases h2 : x.a < 131072
      · have d2 : decide (x.a < 131072) = true := decide_eq_true h2
        have hMz : (M == 0) = false := by simp; omega
        obtain ⟨r, hr⟩ : ∃ r, x.a.tmod M = r := ⟨_, rfl⟩
        have hr' : r = x.a % M := by rw [← hr]; exact Int.tmod_eq_emod_of_nonneg ha
        have hb : nodeB x = (r == 0) := by
          rw [nodeB, ← hM, decide_eq_true h0, decide_eq_true h1, d2, ← hr', Bool.true_and, Bool.true_and, Bool.true_and]
          by_cases h : r = 0 <;> simp [h]
        rw [hb]
        clear hb h0 h1 h2 hM ha hr'
        go_enter Try.func39, Try.ntmps39
        go_wp2_with fail
        go_quiet ((go_at_call 37; first | exact RetQ.quiet (HQ0.out _) | exact RetQ.quiet (HQ.out _)))
        go_wp2
        go_ret
        exact ⟨rfl, below_drewN' BB.out _⟩
      · have d2 : decide (x.a < 131072) = false := decide_eq_false h2
        have hb : nodeB x = false := by rw [nodeB, d2]; simp
        rw [hb]
        clear hb h0 h1 h2 hM ha HQ
        go_enter Try.func39, Try.ntmps39
        go_wp2_with fail
        go_quiet ((go_at_call 37; exact RetQ.quiet (HQ0.out _)))
        go_wp2
        go_ret
        exact ⟨rfl, below_drewN' BB.out _⟩
    · have d0 : decide (x.d < 0) = false := decide_eq_false (by omega)
      have d1 : decide (x.d > 17) = true := decide_eq_true (by omega)
      have hb : nodeB x = false := by rw [nodeB, decide_eq_false h1]; simp
      rw [hb]
      clear hb h0 h1 ha
      go_enter Try.func39, Try.ntmps39
      go_wp2
      go_ret
      exact ⟨rfl, BB.out⟩
  · have d0 : decide (x.d < 0) = true := decide_eq_true (by omega)
    have hb : nodeB x = false := by rw [nodeB, decide_eq_false h0]; simp
    rw [hb]
    clear hb h0 ha
    go_enter Try.func39, Try.ntmps39
    go_wp2
    go_ret
    exact ⟨rfl, BB.out⟩
end Go.Proofs.Ytkfcllcdkgnfbaa.Kt
