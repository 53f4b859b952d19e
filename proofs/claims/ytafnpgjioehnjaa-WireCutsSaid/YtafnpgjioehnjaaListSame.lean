/-
  The contract of Rows: it tells whether two lists of rows of bytes are the same, and only reads.
-/
import Derived.Test.YtafnpgjioehnjaaSame
namespace Go.Proofs.Ytafnpgjioehnjaa
open Go.RowKit

set_option maxHeartbeats 800000 in
theorem rows_any {B B' : Nat} (A A' : Option Addr) (n m c d : Nat) (xs ys : List (List UInt8)) (w : World) (hn : xs.length = n) (hm : ys.length = m)
    (ha : RdB B w A xs) (hb : RdB B' w A' ys) (hn' : n ≤ maxLen) (hm' : m ≤ maxLen) :
    Calls Try.prog 21 #[.slice A n c, .slice A' m d] w (RetQ (.bool (decide (xs = ys))) w) := by
  subst hn
  subst hm
  unfold maxLen at hn' hm'
  by_cases hl : xs.length = ys.length
  · have HL := Lib.hid hl
    have hle : xs.length ≤ ys.length := by omega
    have hge : ys.length ≤ xs.length := by omega
    clear hl
    go_enter Try.func21, Try.ntmps21
    go_wp2
    go_loopw [5] (fun i wr => ∃ k q : Nat, k ≤ xs.length ∧ i = .int .i64 k ∧ Hid (xs.take k = ys.take k) ∧ wr = w.drewN q) (fun i _ => xs.length - (intOf i).toNat)
    case atStart => exact ⟨0, 0, Nat.zero_le _, rfl, rfl, rfl⟩
    case round =>
      obtain ⟨k, q, hk, rfl, HT, rfl⟩ := hrel
      by_cases hlt : k < xs.length
      · have hlt' : k < ys.length := by omega
        obtain ⟨ad, A1, c1, hA, _, hca, hx1, hx2, hrx⟩ := ha.at_ hlt
        obtain ⟨bd, A2, c2, hB, _, hcb, hy1, hy2, hry⟩ := hb.at_ hlt'
        subst hA
        subst hB
        have h0 : (0 : Int) ≤ (k : Int) := by omega
        have h1 : (k : Int) < (xs.length : Int) := by omega
        have h2 : (k : Int) < (ys.length : Int) := by omega
        have mx := Nat.le_trans hx1 hx2
        have my := Nat.le_trans hy1 hy2
        clear ha hb hx1 hx2 hy1 hy2
        have hca' : (w.drewN q).cell? (ad.add k) = some (.slice A1 xs[k].length c1) := hca
        have hcb' : (w.drewN q).cell? (bd.add k) = some (.slice A2 ys[k].length c2) := hcb
        have hrx' : Rd B (w.drewN q) A1 (bv xs[k]) := hrx
        have hry' : Rd B' (w.drewN q) A2 (bv ys[k]) := hry
        clear hca hcb hrx hry
        obtain ⟨v, hv⟩ : ∃ v : World, v = w.drewN q := ⟨_, rfl⟩
        rw [← hv] at hca' hcb' hrx' hry' ⊢
        have HV := Lib.hid hv
        clear hv
        by_cases hxy : xs[k] = ys[k]
        · have HC := Lib.hid (fun W (h1 : Rd B W A1 (bv xs[k])) (h2 : Rd B' W A2 (bv ys[k])) => same_b (b := true) (c := c1) (d := c2) (w := W) (decide_eq_true hxy) rfl rfl h1 h2 mx my)
          have HXY := Lib.hid hxy
          clear hxy mx my
          go_wp2
          go_quiet ((go_at_call 14; exact RetQ.quiet (HC.out _ hrx' hry')))
          go_wp2
          go_roundw
          case rel => exact ⟨k + 1, q + nq, by omega, by go_num, take_more HT.out hlt hlt' HXY.out, by rw [HV.out, World.drewN_drewN]⟩
          case measure => simp [intOf]; omega
        · have HC := Lib.hid (fun W (h1 : Rd B W A1 (bv xs[k])) (h2 : Rd B' W A2 (bv ys[k])) => same_b (b := false) (c := c1) (d := c2) (w := W) (decide_eq_false hxy) rfl rfl h1 h2 mx my)
          have HXY := Lib.hid hxy
          clear hxy mx my
          go_wp2
          go_quiet ((go_at_call 14; exact RetQ.quiet (HC.out _ hrx' hry')))
          go_wp2
          go_ret
          rw [HV.out]
          exact RetQ.mk2 (ret_bool (same_not hlt hlt' HXY.out).symm)
      · go_wp2
        go_ret
        exact RetQ.mk1 (ret_bool (same_all HT.out hlt HL.out).symm)
  · have hz : ((xs.length : Int) != (ys.length : Int)) = true := by simp; omega
    have HL := Lib.hid hl
    clear hl
    go_enter Try.func21, Try.ntmps21
    go_wp2
    go_ret
    exact RetQ.mk0 (ret_bool (same_len HL.out).symm)

theorem rows_r {B B' : Nat} {A A' : Option Addr} {n m c d : Nat} {xs ys : List (List UInt8)} {w : World} {b : Bool} (h : decide (xs = ys) = b) (hn : xs.length = n) (hm : ys.length = m)
    (ha : RdB B w A xs) (hb : RdB B' w A' ys) (hn' : n ≤ maxLen) (hm' : m ≤ maxLen) :
    Calls Try.prog 21 #[.slice A n c, .slice A' m d] w (RetB (.bool b) w) := by
  rw [← h]
  exact (rows_any A A' n m c d xs ys w hn hm ha hb hn' hm').mono fun _ _ ⟨he, q, hq⟩ => ⟨he, by rw [hq]; exact below_drewN' (Below.refl _ _) q⟩
end Go.Proofs.Ytafnpgjioehnjaa
