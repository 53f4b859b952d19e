/-
  The contract of cutPart: the first part of a frame and what is left, where there is one; it only reads.
-/
import Derived.Test.YtafnpgjioehnjaaGet
import Derived.Deep.QuietTactic
import Derived.BigQuiet
namespace Go.Proofs.Ytafnpgjioehnjaa
open Go.RowKit

theorem add_pos {a : Addr} {k : Nat} (h : 0 < k) : a.add k = ⟨a.block, a.off + k, none⟩ := by
  unfold Addr.add; rw [if_neg (by omega)]
/-- What cutPart tells where there is a part of n bytes. -/
def RetCut (B : Nat) (l : List UInt8) (n : Nat) (w : World) (e : Ending) (w' : World) : Prop :=
  ∃ A1 c1 A2 c2, e = .returned (.tuple #[.slice A1 n c1, .slice A2 (l.length - 2 - n) c2, .bool true]) ∧ n ≤ c1 ∧ c1 ≤ maxLen ∧ l.length - 2 - n ≤ c2 ∧ c2 ≤ maxLen ∧
    Rd B w A1 (bv ((l.drop 2).take n)) ∧ Rd B w A2 (bv (l.drop (2 + n))) ∧ ∃ q, w' = w.drewN q
theorem RetCut.mk {B : Nat} {l : List UInt8} {n : Nat} {w : World} {e : Ending} {q q' c1 c2 : Nat} {A1 A2 : Option Addr} (he : e = .returned (.tuple #[.slice A1 n c1, .slice A2 (l.length - 2 - n) c2, .bool true])) (h1 : n ≤ c1) (h2 : c1 ≤ maxLen) (h3 : l.length - 2 - n ≤ c2) (h4 : c2 ≤ maxLen)
    (h5 : Rd B w A1 (bv ((l.drop 2).take n))) (h6 : Rd B w A2 (bv (l.drop (2 + n)))) : RetCut B l n w e ((w.drewN q).drewN q') := ⟨A1, c1, A2, c2, he, h1, h2, h3, h4, h5, h6, q + q', World.drewN_drewN _ _ _⟩
theorem ret_cut {A1 A2 : Option Addr} {n n' m m' c1 c1' c2 c2' : Nat} {b : Bool} (h1 : n = n') (h2 : c1 = c1') (h3 : m = m') (h4 : c2 = c2') : Ending.returned (.tuple #[.slice A1 n c1, .slice A2 m c2, .bool b]) = .returned (.tuple #[.slice A1 n' c1', .slice A2 m' c2', .bool b]) := by
  subst h1; subst h2; subst h3; subst h4; rfl

set_option maxHeartbeats 800000 in
theorem cut_a {B : Nat} (ad : Addr) (c : Nat) (l : List UInt8) (w : World) (n : Nat) (h2 : 2 ≤ l.length) (hlc : l.length ≤ c) (hcm : c ≤ maxLen) (hn : getL (l.take 2) = n) (hnl : n ≤ l.length - 2)
    (ha : Rd B w (some ad) (bv l)) (hc2 : ¬ c = 2) (hcn : ¬ c - 2 = n) :
    Calls Try.prog 25 #[.slice (some ad) l.length c] w (RetCut B l n w) := by
  have HN := Lib.hid hn
  have HM := Lib.hid hcm
  have HA := Lib.hid ha
  unfold maxLen at hcm
  clear hn
  have e0 : (2 : Int) ≤ (c : Int) := by omega
  have e1 : (2 : Int) ≤ (l.length : Int) := by omega
  have e2 : (n : Int) ≤ (l.length : Int) - 2 := by omega
  have e3 : (n : Int) ≤ (c : Int) - 2 := by omega
  have e4 : n ≤ c - 2 := by omega
  have e6 : (n : Int) ≤ ((l.length - 2 : Nat) : Int) := by omega
  have e7 : (n : Int) ≤ ((c - 2 : Nat) : Int) := by omega
  have e8 : (0 : Int) ≤ (n : Int) := by omega
  have e9 : ((l.length - 2 : Nat) : Int) ≤ ((c - 2 : Nat) : Int) := by omega
  go_enter Try.func25, Try.ntmps25
  go_wp2_with fail
  refine (wget_in (l := l.take 2) _ _ _ _ (by simp; omega) (ha.take 2) (by omega) (by omega)).mono ?_
  rintro e w1 ⟨rfl, rfl⟩
  rw [HN.out]
  go_wp2_with fail
  go_quiet (fail)
  go_wp2_with fail
  go_quiet (fail)
  go_wp2_with fail
  go_ret3
  have r1 := HA.out.drop 2
  have r2 := HA.out.drop (2 + n)
  rw [add_pos (by omega)] at r1 r2
  have hm : c ≤ maxLen := HM.out
  exact RetCut.mk (A1 := some ⟨ad.block, ad.off + 2, none⟩) (A2 := some ⟨ad.block, ad.off + 2 + n, none⟩) (c1 := c - 2) (c2 := c - 2 - n) rfl (by omega) (by omega) (by omega) (by omega) (r1.take n) (by rw [Nat.add_assoc]; exact r2)

set_option maxHeartbeats 800000 in
theorem cut_b {B : Nat} (ad : Addr) (c : Nat) (l : List UInt8) (w : World) (n : Nat) (h2 : 2 ≤ l.length) (hlc : l.length ≤ c) (hcm : c ≤ maxLen) (hn : getL (l.take 2) = n) (hnl : n ≤ l.length - 2)
    (ha : Rd B w (some ad) (bv l)) (hc2 : ¬ c = 2) (hcn : c - 2 = n) :
    Calls Try.prog 25 #[.slice (some ad) l.length c] w (RetCut B l n w) := by
  have HN := Lib.hid hn
  have HM := Lib.hid hcm
  have HA := Lib.hid ha
  unfold maxLen at hcm
  clear hn
  have hll : l.length = c := by omega
  have HLL := Lib.hid hll
  have e0 : (2 : Int) ≤ (c : Int) := by omega
  have e1 : (2 : Int) ≤ (l.length : Int) := by omega
  have e2 : (n : Int) ≤ (l.length : Int) - 2 := by omega
  have e6 : (n : Int) ≤ ((l.length - 2 : Nat) : Int) := by omega
  have e8 : (0 : Int) ≤ (n : Int) := by omega
  have e9 : ((l.length - 2 : Nat) : Int) ≤ (n : Int) := by omega
  clear hll
  go_enter Try.func25, Try.ntmps25
  go_wp2_with fail
  refine (wget_in (l := l.take 2) _ _ _ _ (by simp; omega) (ha.take 2) (by omega) (by omega)).mono ?_
  rintro e w1 ⟨rfl, rfl⟩
  rw [HN.out]
  go_wp2_with fail
  go_quiet (fail)
  go_wp2_with fail
  go_quiet (fail)
  go_wp2_with fail
  go_ret3
  have r1 := HA.out.drop 2
  rw [add_pos (by omega)] at r1
  have hm : c ≤ maxLen := HM.out
  have hl := HLL.out
  have r2 : l.drop (2 + n) = [] := List.drop_of_length_le (by omega)
  exact RetCut.mk (A1 := some ⟨ad.block, ad.off + 2, none⟩) (A2 := some ⟨ad.block, ad.off + 2, none⟩) (c1 := n) (c2 := 0) rfl (by omega) (by omega) (by omega) (Nat.zero_le _) (r1.take n) (by rw [r2]; exact Rd.none)

set_option maxHeartbeats 800000 in
theorem cut_c {B : Nat} (ad : Addr) (l : List UInt8) (w : World) (h2 : l.length = 2) (hn : getL (l.take 2) = 0) (ha : Rd B w (some ad) (bv l)) :
    Calls Try.prog 25 #[.slice (some ad) 2 2] w (RetCut B l 0 w) := by
  have HN := Lib.hid hn
  have HLL := Lib.hid h2
  clear hn
  have e3 : l.length ≤ 2 := by omega
  have e4 : 2 ≤ l.length := by omega
  clear h2
  go_enter Try.func25, Try.ntmps25
  go_wp2_with fail
  refine (wget_in (l := l.take 2) _ _ _ _ (by simp; omega) (ha.take 2) (by omega) (by omega)).mono ?_
  rintro e w1 ⟨rfl, rfl⟩
  rw [HN.out]
  go_wp2_with fail
  go_quiet (fail)
  go_wp2_with fail
  go_quiet (fail)
  go_wp2_with fail
  go_ret3
  have r2 : l.drop (2 + 0) = [] := List.drop_of_length_le (by omega)
  exact RetCut.mk (A1 := some ad) (A2 := some ad) (c1 := 0) (c2 := 0) (ret_cut rfl rfl (by omega) rfl) (by omega) (Nat.zero_le _) (by omega) (Nat.zero_le _) (by rw [List.take_zero]; exact Rd.none) (by rw [r2]; exact Rd.none)

theorem cut_yes {B : Nat} (A : Option Addr) (c : Nat) (l : List UInt8) (w : World) (n : Nat) (h2 : 2 ≤ l.length) (hlc : l.length ≤ c) (hcm : c ≤ maxLen) (hn : getL (l.take 2) = n) (hnl : n ≤ l.length - 2)
    (ha : Rd B w A (bv l)) : Calls Try.prog 25 #[.slice A l.length c] w (RetCut B l n w) := by
  obtain ⟨ad, rfl, _, _⟩ := ha.at_ (k := 0) (by omega)
  by_cases hc2 : c = 2
  · subst hc2
    obtain rfl : n = 0 := by omega
    have hl : l.length = 2 := by omega
    have h := cut_c ad l w hl hn ha
    rw [hl]
    exact h
  · by_cases hcn : c - 2 = n
    · exact cut_b ad c l w n h2 hlc hcm hn hnl ha hc2 hcn
    · exact cut_a ad c l w n h2 hlc hcm hn hnl ha hc2 hcn

/-- What cutPart tells where there is none. -/
def RetNoCut (w : World) (e : Ending) (w' : World) : Prop := e = .returned (.tuple #[.slice none 0 0, .slice none 0 0, .bool false]) ∧ ∃ q, w' = w.drewN q

set_option maxHeartbeats 800000 in
theorem cut_short (A : Option Addr) (n c : Nat) (w : World) (h : n < 2) :
    Calls Try.prog 25 #[.slice A n c] w (RetNoCut w) := by
  go_enter Try.func25, Try.ntmps25
  go_wp2_with fail
  go_ret3
  exact ⟨rfl, 0, rfl⟩

set_option maxHeartbeats 800000 in
theorem cut_a' {B : Nat} (ad : Addr) (c : Nat) (l : List UInt8) (w : World) (n : Nat) (h2 : 2 ≤ l.length) (hlc : l.length ≤ c) (hcm : c ≤ maxLen) (hn : getL (l.take 2) = n) (hnl : l.length - 2 < n)
    (ha : Rd B w (some ad) (bv l)) (hc2 : ¬ c = 2) (hn6 : n < 65536) :
    Calls Try.prog 25 #[.slice (some ad) l.length c] w (RetNoCut w) := by
  have HN := Lib.hid hn
  unfold maxLen at hcm
  clear hn
  have e0 : (2 : Int) ≤ (c : Int) := by omega
  have e1 : (2 : Int) ≤ (l.length : Int) := by omega
  have e6 : ((l.length - 2 : Nat) : Int) < (n : Int) := by omega
  have e8 : (0 : Int) ≤ (n : Int) := by omega
  have e9 : ((l.length - 2 : Nat) : Int) ≤ ((c - 2 : Nat) : Int) := by omega
  go_enter Try.func25, Try.ntmps25
  go_wp2_with fail
  refine (wget_in (l := l.take 2) _ _ _ _ (by simp; omega) (ha.take 2) (by omega) (by omega)).mono ?_
  rintro e w1 ⟨rfl, rfl⟩
  rw [HN.out]
  go_wp2_with fail
  go_quiet (fail)
  go_wp2_with fail
  go_ret3
  exact ⟨rfl, nq, rfl⟩

set_option maxHeartbeats 800000 in
theorem cut_c' {B : Nat} (ad : Addr) (l : List UInt8) (w : World) (n : Nat) (h2 : l.length = 2) (hn : getL (l.take 2) = n) (hn0 : 0 < n) (ha : Rd B w (some ad) (bv l)) (hn6 : n < 65536) :
    Calls Try.prog 25 #[.slice (some ad) 2 2] w (RetNoCut w) := by
  have HN := Lib.hid hn
  clear hn
  have e3 : l.length ≤ 2 := by omega
  have e4 : 2 ≤ l.length := by omega
  have e8 : (0 : Int) < (n : Int) := by omega
  clear h2
  go_enter Try.func25, Try.ntmps25
  go_wp2_with fail
  refine (wget_in (l := l.take 2) _ _ _ _ (by simp; omega) (ha.take 2) (by omega) (by omega)).mono ?_
  rintro e w1 ⟨rfl, rfl⟩
  rw [HN.out]
  go_wp2_with fail
  go_quiet (fail)
  go_wp2_with fail
  go_ret3
  exact ⟨rfl, nq, rfl⟩

theorem cut_no {B : Nat} (A : Option Addr) (c : Nat) (l : List UInt8) (w : World) (hlc : l.length ≤ c) (hcm : c ≤ maxLen) (h : l.length < 2 ∨ l.length - 2 < getL (l.take 2))
    (ha : Rd B w A (bv l)) : Calls Try.prog 25 #[.slice A l.length c] w (RetNoCut w) := by
  by_cases h2 : l.length < 2
  · exact cut_short A _ c w h2
  · have hn6 : getL (l.take 2) < 65536 := by
      have h3 := getL_lt (l.take 2)
      have h4 : (l.take 2).length = 2 := by simp; omega
      rwa [h4] at h3
    obtain ⟨ad, rfl, _, _⟩ := ha.at_ (k := 0) (by omega)
    by_cases hc2 : c = 2
    · subst hc2
      have hl : l.length = 2 := by omega
      have hh := cut_c' ad l w _ hl rfl (by omega) ha hn6
      rw [hl]
      exact hh
    · exact cut_a' ad c l w _ (by omega) hlc hcm rfl (by omega) ha hc2 hn6
end Go.Proofs.Ytafnpgjioehnjaa
