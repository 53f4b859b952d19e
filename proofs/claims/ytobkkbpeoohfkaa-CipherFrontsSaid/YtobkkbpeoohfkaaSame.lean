/-
  The contract of Same: it tells whether two rows of bytes are the same, and only reads.
-/
import Derived.Test.YtobkkbpeoohfkaaRows
import Derived.Test.YtobkkbpeoohfkaaWords
import Derived.Deep.QuietTactic
import Derived.BigQuiet
namespace Go.Proofs.Ytobkkbpeoohfkaa
open Go.RowKit

theorem take_more {α : Type} {xs ys : List α} {k : Nat} (h : xs.take k = ys.take k) (h1 : k < xs.length) (h2 : k < ys.length) (e : xs[k] = ys[k]) : xs.take (k + 1) = ys.take (k + 1) := by
  rw [List.take_succ_eq_append_getElem h1, List.take_succ_eq_append_getElem h2, h, e]
theorem same_not {α : Type} [DecidableEq α] {xs ys : List α} {k : Nat} (h1 : k < xs.length) (h2 : k < ys.length) (e : ¬ xs[k] = ys[k]) : decide (xs = ys) = false := by
  rw [decide_eq_false_iff_not]
  rintro rfl
  exact e rfl
theorem same_all {α : Type} [DecidableEq α] {xs ys : List α} {k : Nat} (h : xs.take k = ys.take k) (h1 : ¬ k < xs.length) (hl : xs.length = ys.length) : decide (xs = ys) = true := by
  rw [decide_eq_true_iff]
  rwa [List.take_of_length_le (by omega), List.take_of_length_le (by omega)] at h
theorem same_len {α : Type} [DecidableEq α] {xs ys : List α} (hl : ¬ xs.length = ys.length) : decide (xs = ys) = false := by
  rw [decide_eq_false_iff_not]
  rintro rfl
  exact hl rfl

set_option maxHeartbeats 400000 in
theorem same_any {B B' : Nat} (A A' : Option Addr) (n m c d : Nat) (xs ys : List UInt8) (w : World) (hn : xs.length = n) (hm : ys.length = m)
    (ha : Rd B w A (bv xs)) (hb : Rd B' w A' (bv ys)) (hn' : n ≤ maxLen) (hm' : m ≤ maxLen) :
    Calls Try.prog 18 #[.slice A n c, .slice A' m d] w (RetQ (.bool (decide (xs = ys))) w) := by
  subst hn
  subst hm
  unfold maxLen at hn' hm'
  by_cases hl : xs.length = ys.length
  · have HL := Lib.hid hl
    have hle : xs.length ≤ ys.length := by omega
    have hge : ys.length ≤ xs.length := by omega
    clear hl
    go_enter Try.func18, Try.ntmps18
    go_wp2
    go_loopw [5] (fun i wr => ∃ k q : Nat, k ≤ xs.length ∧ i = .int .i64 k ∧ Hid (xs.take k = ys.take k) ∧ wr = w.drewN q) (fun i _ => xs.length - (intOf i).toNat)
    case atStart => exact ⟨0, 0, Nat.zero_le _, rfl, rfl, rfl⟩
    case round =>
      obtain ⟨k, q, hk, rfl, HT, rfl⟩ := hrel
      by_cases hlt : k < xs.length
      · have hlt' : k < ys.length := by omega
        obtain ⟨ad, hA, _, hca⟩ := ha.at_ hlt
        obtain ⟨bd, hB, _, hcb⟩ := hb.at_ hlt'
        subst hA
        subst hB
        have h0 : (0 : Int) ≤ (k : Int) := by omega
        have h1 : (k : Int) < (xs.length : Int) := by omega
        have h2 : (k : Int) < (ys.length : Int) := by omega
        clear ha hb
        by_cases hxy : xs[k] = ys[k]
        · have hz : ((xs[k].toNat : Int) != (ys[k].toNat : Int)) = false := by simp [hxy]
          have HXY := Lib.hid hxy
          clear hxy
          go_wp2
          go_quiet (fail)
          go_wp2
          go_roundw
          case rel => exact ⟨k + 1, _, by omega, by go_num, take_more HT.out hlt hlt' HXY.out, rfl⟩
          case measure => simp [intOf]; omega
        · have hz : ((xs[k].toNat : Int) != (ys[k].toNat : Int)) = true := by simp [← UInt8.toNat_inj] at hxy ⊢; omega
          have HXY := Lib.hid hxy
          clear hxy
          go_wp2
          go_quiet (fail)
          go_wp2
          go_ret
          exact RetQ.mk2 (ret_bool (same_not hlt hlt' HXY.out).symm)
      · go_wp2
        go_ret
        exact RetQ.mk1 (ret_bool (same_all HT.out hlt HL.out).symm)
  · have hz : ((xs.length : Int) != (ys.length : Int)) = true := by simp; omega
    have HL := Lib.hid hl
    clear hl
    go_enter Try.func18, Try.ntmps18
    go_wp2
    go_ret
    exact RetQ.mk0 (ret_bool (same_len HL.out).symm)

theorem same_b {B B' : Nat} {A A' : Option Addr} {n m c d : Nat} {xs ys : List UInt8} {w : World} {b : Bool} (h : decide (xs = ys) = b) (hn : xs.length = n) (hm : ys.length = m)
    (ha : Rd B w A (bv xs)) (hb : Rd B' w A' (bv ys)) (hn' : n ≤ maxLen) (hm' : m ≤ maxLen) :
    Calls Try.prog 18 #[.slice A n c, .slice A' m d] w (RetQ (.bool b) w) := by
  rw [← h]
  exact same_any A A' n m c d xs ys w hn hm ha hb hn' hm'

theorem same_r {B B' : Nat} {A A' : Option Addr} {n m c d : Nat} {xs ys : List UInt8} {w : World} {b : Bool} (h : decide (xs = ys) = b) (hn : xs.length = n) (hm : ys.length = m)
    (ha : Rd B w A (bv xs)) (hb : Rd B' w A' (bv ys)) (hn' : n ≤ maxLen) (hm' : m ≤ maxLen) :
    Calls Try.prog 18 #[.slice A n c, .slice A' m d] w (RetB (.bool b) w) :=
  (same_b h hn hm ha hb hn' hm').mono fun _ _ ⟨he, q, hq⟩ => ⟨he, by rw [hq]; exact below_drewN' (Below.refl _ _) q⟩

end Go.Proofs.Ytobkkbpeoohfkaa
