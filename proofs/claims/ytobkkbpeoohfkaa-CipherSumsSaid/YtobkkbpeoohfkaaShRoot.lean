/-
  The contracts of the reference's Root, First, Rounds.
-/
import Derived.Test.YtobkkbpeoohfkaaShTimes
import Derived.Test.YtobkkbpeoohfkaaShMid
import Derived.Test.YtobkkbpeoohfkaaShTold
namespace Go.Proofs.Ytobkkbpeoohfkaa
open Go.RowKit
theorem goal_set (p by_ : Nat) : (uq (List.replicate (2 * by_ + 1) 0)).set (2 * by_) (.int .u64 (p : Int)) = uq (goalL p by_) := uq_set _ _ _
set_option maxHeartbeats 1600000 in
theorem root_any (p k : Nat) (w : World) (hp : p < 65536) (hk : k = 2 ∨ k = 3) :
    Calls Try.prog 61 #[.int .i64 (p : Int), .int .i64 (k : Int)] w (RetB (.int .u32 ((rootL p k).toNat : Int)) w) := by
  obtain ⟨i0, hi, hz0, hz1, hz2⟩ := info_parts info40
  obtain ⟨S, hS⟩ : ∃ S, S = 2 * k := ⟨_, rfl⟩
  obtain ⟨N, hN⟩ : ∃ N, N = S + 1 := ⟨_, rfl⟩
  have eS : 2 * (k : Int) = (S : Int) := by omega
  have eN : (S : Int) + 1 = (N : Int) := by omega
  have hSb : S ≤ 6 := by omega
  have s0 : (0 : Int) ≤ (S : Int) := by omega
  have s1 : (S : Int) < (N : Int) := by omega
  have p0 : (0 : Int) ≤ (p : Int) := by omega
  have hk3 : k ≤ 3 := by omega
  have HS := Lib.hid hS
  have HN := Lib.hid hN
  have HK := Lib.hid hk
  clear hS hN hk
  go_enter Try.func61, Try.ntmps61
  go_wp2_with (at_make
               refine wpList_make_full _ rfl _ _ _ rfl w.heap.size 24 i0 _ 1 Try.underlying94 hi hz0 hz1 .i64 .i64 _ _ N rfl rfl rfl rfl ?_ ?_ ?_ ?_
               · rw [hz2]; omega
               · unfold maxLen; omega
               · exact Nat.le_refl _
               intro w1 hown hg
               rw [uq_made] at hown
               have p1 : Below w.heap.size w w1 := (Below.refl _ _).grown hg (Nat.le_refl _) (fun _ h => by cases h)
               have hcell := hown.cellAt S (by omega)
               rw [uq_get (by rw [List.length_replicate]; omega)] at hcell
               obtain ⟨o, ho⟩ : ∃ o, o = (List.replicate N 0).getD S 0 := ⟨_, rfl⟩
               rw [← ho] at hcell
               have hfro := hown.frozenAt S
               have hst := (hown.stored S (.int .u64 (p : Int))).1
               have P1 := Lib.hid p1
               have P2 := Lib.hid hst
               clear p1 hown hg hi hz0 hz1 hz2 ho hst)
  have p2 : (w1.setCell ⟨w.heap.size, S, none⟩ (.int .u64 (p : Int))).ownsRow w.heap.size 24 1 (.slice (some ⟨w.heap.size, 0, none⟩) N N) N (uq (goalL p k)) := by
    have h := P2.out
    rw [HN.out, HS.out, goal_set] at h
    rw [HN.out, HS.out]; exact h
  have p3 : Below w.heap.size w (w1.setCell ⟨w.heap.size, S, none⟩ (.int .u64 (p : Int))) := P1.out.setCell (Nat.le_refl _) _
  clear P2 hcell hfro P1
  go_loopw [7, 8, 9, 10, 11] (fun x i _ _ _ wr => ∃ (n X : Nat) (z : Int), n ≤ 37 ∧ z + (n : Int) = 36 ∧ i = .int .i64 z ∧ x = .int .u64 (X : Int) ∧ Hid (X = rootTo p k n) ∧ Below w.heap.size w wr ∧ wr.ownsRow w.heap.size 24 1 (.slice (some ⟨w.heap.size, 0, none⟩) N N) N (uq (goalL p k))) (fun _ i _ _ _ _ => (intOf i + 1).toNat)
  case atStart => exact ⟨0, 0, 36, by omega, by omega, rfl, rfl, rfl, p3, p2⟩
  case round =>
    clear p2 p3
    obtain ⟨n, X, z, hn, hzn, rfl, rfl, HX, hbel, how⟩ := hrel
    have HB := Lib.hid hbel
    have HO := Lib.hid how
    clear hbel how
    have hrl := root_lt p k n hn
    rw [← HX.out] at hrl
    by_cases hlt : n < 37
    · obtain ⟨m, hm⟩ : ∃ m, m = 36 - n := ⟨_, rfl⟩
      obtain rfl : z = (m : Int) := by omega
      have m0 : (0 : Int) ≤ (m : Int) := by omega
      have m1 : (m : Int) < 64 := by omega
      obtain ⟨P, hP'⟩ : ∃ P, P = 2 ^ m := ⟨_, rfl⟩
      obtain ⟨Y, hY⟩ : ∃ Y, Y = X + P := ⟨_, rfl⟩
      have h36 : 37 - n = m + 1 := by omega
      rw [h36, Nat.pow_succ, ← hP'] at hrl
      have e37 : (2 : Nat) ^ 37 = 137438953472 := rfl
      have hpos : 0 < P := by rw [hP']; exact Nat.two_pow_pos m
      have hYb : Y < 137438953473 := by omega
      have hPb : P < 137438953473 := by omega
      have hXb : X < 137438953473 := by omega
      have eP : IntKind.u64.wrap ((2 : Int) ^ m) = (P : Int) := by rw [hP', ← wrap_u64 (show 2 ^ m < 18446744073709551616 by omega)]; simp
      have eXP : (X : Int) + (P : Int) = (Y : Int) := by omega
      obtain ⟨a, ha⟩ : ∃ a, a = Y % 65536 := ⟨_, rfl⟩
      obtain ⟨b, hb⟩ : ∃ b, b = Y / 65536 := ⟨_, rfl⟩
      obtain ⟨c, hc⟩ : ∃ c, c = b % 65536 := ⟨_, rfl⟩
      obtain ⟨d, hd⟩ : ∃ d, d = b / 65536 := ⟨_, rfl⟩
      have ea : (Y : Int) % 65536 = (a : Int) := by omega
      have eb : (Y : Int) / 65536 = (b : Int) := by omega
      have ec : (b : Int) % 65536 = (c : Int) := by omega
      have ed : (b : Int) / 65536 = (d : Int) := by omega
      have b0 : (0 : Int) ≤ (b : Int) := by omega
      have bb : (b : Int) ≤ 137438953473 := by omega
      have db : (d : Int) ≤ 137438953473 := by omega
      have d0 : (0 : Int) ≤ (d : Int) := by omega
      have Y0 : (0 : Int) ≤ (Y : Int) := by omega
      have X0 : (0 : Int) ≤ (X : Int) := by omega
      have P0 : (0 : Int) ≤ (P : Int) := by omega
      obtain ⟨L, hL⟩ : ∃ L, L = digits Y := ⟨_, rfl⟩
      have hLc : L = [a, c, d] := by rw [hL, digits, ha, hc, hd, hb]
      have HDG : Hid (digits Y = L) := hL.symm
      have HL3 : Hid (L.length = 3) := by show _ = _; rw [hLc]; rfl
      have HLD : Hid (Dig L) := by show Dig L; rw [hL]; exact digits_dig (by omega)
      have RL : Hid (Rd (wr.heap.size + 1) (wr.alloc (.cells #[.int .u64 (a : Int), .int .u64 (c : Int), .int .u64 (d : Int)] 24)) (some ⟨wr.heap.size, 0, none⟩) (uq L)) := by
        show Rd _ _ _ _
        rw [hLc]; exact Rd.lit wr 24 (uq [a, c, d])
      have HR1 : Hid (rootTo p k (n + 1) = if aboveL (powL k Y) (goalL p k) = true then X else Y) := by
        show _ = _
        rw [rootTo, ← HX.out, ← hm, ← hP', ← hY]
      have hDg := goal_dig k hp
      have hGl := goal_length p k
      rw [← HS.out, ← HN.out] at hGl
      have HGD := Lib.hid hDg
      have HGL := Lib.hid hGl
      clear hrl hpos e37 hP' hY h36 hm ha hb hc hd hL hLc hDg hGl
      go_wp2_with fail
      clear eP
      refine (times_any _ _ 3 3 3 3 L L _ HL3.out HL3.out (by simp) (by simp) RL.out RL.out HLD.out HLD.out (by omega) (by omega)).mono ?_
      rintro e w2 ⟨A2, n2, c2, rfl, ho2, bw2⟩
      have hn2 : n2 = 6 := by rw [← own_len ho2, uq_length, times_length HLD.out HLD.out, HL3.out]
      subst hn2
      have O2 := Lib.hid ho2
      have OG := Lib.hid (own_below (HO.out.alloc _) bw2)
      have BG := Lib.hid ((HB.out.alloc HB.out.size _).trans (bw2.mono (by simp; have := HB.out.size; omega)))
      have RL2 := Lib.hid (RL.out.below (bw2.mono (by simp)))
      have hsz2 := bw2.size
      clear ho2 bw2 RL HO HB
      rcases HK.out with hk2 | hk2
      · have hk3' : ¬ k = 3 := by omega
        have HPW : Hid (powL k Y = timesL L L) := by show _ = _; rw [powL, if_neg hk3', HDG.out]
        have hkb : ((k : Int) == 3) = false := by simp; omega
        clear hk2 hk3'
        go_wp2_with fail
        refine (above_any _ _ 6 N _ _ (timesL L L) (goalL p k) _ (by rw [times_length HLD.out HLD.out, HL3.out]) HGL.out (Rd.own O2.out) (Rd.own OG.out) (by omega) (by omega)).mono ?_
        rintro e w3 ⟨rfl, rfl⟩
        cases hab : aboveL (timesL L L) (goalL p k) with
        | true =>
          have HR2 : Hid (X = rootTo p k (n + 1)) := by show _ = _; rw [HR1.out, HPW.out, hab]; rfl
          clear hab
          go_wp2_with fail
          go_roundw
          case rel => exact ⟨n + 1, X, (m : Int) - 1, by omega, by omega, rfl, rfl, HR2.out, BG.out, OG.out⟩
          case measure => (simp [intOf]; try omega)
        | false =>
          have HR2 : Hid (Y = rootTo p k (n + 1)) := by show _ = _; rw [HR1.out, HPW.out, hab]; rfl
          clear hab
          go_wp2_with fail
          go_roundw
          case rel => exact ⟨n + 1, Y, (m : Int) - 1, by omega, by omega, rfl, rfl, HR2.out, BG.out, OG.out⟩
          case measure => (simp [intOf]; try omega)
      · have HPW : Hid (powL k Y = timesL (timesL L L) L) := by show _ = _; rw [powL, if_pos hk2, HDG.out]
        have hkb : ((k : Int) == 3) = true := by simp; omega
        clear hk2
        go_wp2_with fail
        refine (times_any (B' := w2.heap.size) _ _ 6 3 c2 3 (timesL L L) L _ (by rw [times_length HLD.out HLD.out, HL3.out]) HL3.out (Nat.le_refl _) (Nat.le_refl _) (Rd.own O2.out) (RL2.out.more (by simp at hsz2; omega)) (times_dig HLD.out HLD.out) HLD.out (by omega) (by omega)).mono ?_
        rintro e w3 ⟨A3, n3, c3, rfl, ho3, bw3⟩
        have hn3 : n3 = 9 := by rw [← own_len ho3, uq_length, times_length (times_dig HLD.out HLD.out) HLD.out, times_length HLD.out HLD.out, HL3.out]
        subst hn3
        have O3 := Lib.hid ho3
        have OG3 := Lib.hid (own_below OG.out bw3)
        have BG3 := Lib.hid (BG.out.trans (bw3.mono BG.out.size))
        clear ho3 bw3 OG BG O2 RL2
        go_wp2_with fail
        refine (above_any _ _ 9 N _ _ (timesL (timesL L L) L) (goalL p k) _ (by rw [times_length (times_dig HLD.out HLD.out) HLD.out, times_length HLD.out HLD.out, HL3.out]) HGL.out (Rd.own O3.out) (Rd.own OG3.out) (by omega) (by omega)).mono ?_
        rintro e w4 ⟨rfl, rfl⟩
        cases hab : aboveL (timesL (timesL L L) L) (goalL p k) with
        | true =>
          have HR2 : Hid (X = rootTo p k (n + 1)) := by show _ = _; rw [HR1.out, HPW.out, hab]; rfl
          clear hab
          go_wp2_with fail
          go_roundw
          case rel => exact ⟨n + 1, X, (m : Int) - 1, by omega, by omega, rfl, rfl, HR2.out, BG3.out, OG3.out⟩
          case measure => (simp [intOf]; try omega)
        | false =>
          have HR2 : Hid (Y = rootTo p k (n + 1)) := by show _ = _; rw [HR1.out, HPW.out, hab]; rfl
          clear hab
          go_wp2_with fail
          go_roundw
          case rel => exact ⟨n + 1, Y, (m : Int) - 1, by omega, by omega, rfl, rfl, HR2.out, BG3.out, OG3.out⟩
          case measure => (simp [intOf]; try omega)
    · have hn37 : n = 37 := by omega
      have hz1 : ¬ (0 : Int) ≤ z := by omega
      have e37 : (2 : Nat) ^ 37 = 137438953472 := rfl
      obtain ⟨R, hR⟩ : ∃ R, R = X % 4294967296 := ⟨_, rfl⟩
      have eR : (X : Int) % 4294967296 = (R : Int) := by omega
      have X0 : (0 : Int) ≤ (X : Int) := by omega
      have HRT : Hid ((R : Int) = ((rootL p k).toNat : Int)) := by
        show _ = _
        rw [rootL, UInt32.toNat_ofNat', hR, HX.out, hn37]
      clear hrl e37 hR
      go_wp2
      go_ret
      exact ⟨ret_int HRT.out, HB.out⟩
end Go.Proofs.Ytobkkbpeoohfkaa
