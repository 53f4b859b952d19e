/-
  The contract of the reference's Pad: a text padded, byte by byte.
-/
import Derived.Test.YtobkkbpeoohfkaaShPadL
namespace Go.Proofs.Ytobkkbpeoohfkaa
open Go.RowKit
theorem bytesElt : Elt Try.prog 33 5 (.int .u8 0) 1 := ⟨Try.underlying33, by kernel_rfl, rfl, by omega⟩
theorem beL_step (N : Nat) {k : Nat} (hk : k < 8) : (beL N 8).take k ++ [UInt8.ofNat (N / 256 ^ (7 - k) % 256)] = (beL N 8).take (k + 1) := by
  rw [List.take_add_one, beL_get hk, show (256 : Nat) = 2 ^ 8 from rfl, ← Nat.pow_mul]; rfl
set_option maxHeartbeats 1600000 in
theorem rpad_any {B : Nat} (A : Option Addr) (n c : Nat) (b : List UInt8) (w : World) (hn : b.length = n) (hB : B ≤ w.heap.size) (ha : Rd B w A (bv b)) (hs : n ≤ 70368744177664) :
    Calls Try.prog 54 #[.slice A n c] w (RetRow 5 (bv (padL b)) w) := by
  obtain ⟨Z, hZ⟩ : ∃ Z, Z = padN n - n - 9 := ⟨_, rfl⟩
  have HZ : Hid (∀ z, z ≤ Z → ((n + 1 + z) % 64 = 56 ↔ z = Z)) := by
    intro z hz; rw [hZ] at *; unfold padN at *; omega
  have HZN : Hid (Z = padN b.length - b.length - 9) := by rw [hn]; exact hZ
  have hZ2 : Z ≤ 63 := by rw [hZ]; unfold padN; omega
  have HN := Lib.hid hn
  have HA := Lib.hid (ha.more hB)
  clear hn ha hZ
  go_enter Try.func54, Try.ntmps54
  go_wp2_with (first
    | (at_builtin
       refine wpList_app _ rfl (.tmp 8) (.tmp 9) _ rfl bytesElt (base := w.heap.size) (v := .slice (some ⟨w.heap.size, 0, none⟩) 0 0) rfl (World.ownsRow_lit w #[] 0 (Nat.le_refl _) (Nat.zero_le _) rfl) (m := n) rfl (HA.out.below ((Below.refl _ _).alloc (Nat.le_refl _) _)) ((bv_length b).trans HN.out) (bv_one _) ?_ ?_ ?_
       · omega
       · simp
       intro A2 c2 w2 ho2 hg2 _
       have hb2 := app_below ((Below.refl w.heap.size w).alloc (Nat.le_refl _) _) (World.ownsRow_lit w #[] 0 (Nat.le_refl _) (Nat.zero_le _) rfl) hg2 (Nat.le_refl _) (by simp)
       have ho3 := own_eq ho2 (n' := n) (by omega) (xs' := bv b) rfl
       have O2 := Lib.hid ho3
       have B2 := Lib.hid hb2
       clear ho2 ho3 hg2 hb2 HA
       rw [Nat.zero_add])
    | (at_builtin
       refine wpList_app _ rfl (.tmp 10) (.tmp 11) _ rfl bytesElt (base := w.heap.size) (v := .slice A2 n c2) rfl (own_below O2.out ((Below.refl _ _).alloc (Nat.le_refl _) _)) rfl (Rd.lit w2 5 (bv [128])) rfl (bv_one _) ?_ ?_ ?_
       · omega
       · simp; have := B2.out.size; omega
       intro A3 c3 w3 ho3 hg3 _
       have hb3 := app_below (B2.out.alloc B2.out.size _) (own_below O2.out ((Below.refl _ _).alloc (Nat.le_refl _) _)) hg3 (Nat.le_refl _) (by simp; have := B2.out.size; omega)
       have ho4 := own_eq ho3 (n' := n + 1) (by omega) (xs' := bv (b ++ 128 :: List.replicate 0 0)) (by rw [← bv_append]; rfl)
       have O3 := Lib.hid ho4
       have B3 := Lib.hid hb3
       clear ho3 ho4 hg3 hb3 O2 B2))
  go_loopw [3] (fun v wr => ∃ (z m : Nat) (A' : Option Addr) (c' : Nat), z ≤ Z ∧ v = .slice A' m c' ∧ Hid (m = n + 1 + z) ∧ Below w.heap.size w wr ∧ wr.ownsRow w.heap.size 5 1 (.slice A' m c') m (bv (b ++ 128 :: List.replicate z 0))) (fun v _ => match v with | .slice _ m _ => n + 1 + Z - m | _ => 0)
  case atStart => exact ⟨0, n + 1, A3, c3, Nat.zero_le _, rfl, rfl, B3.out, O3.out⟩
  case round =>
    obtain ⟨z, m, A', c', hz, rfl, HM, hb, how⟩ := hrel
    clear O3 B3
    have HB := Lib.hid hb
    have HO := Lib.hid how
    clear hb how
    have hm : m ≤ n + 64 := by have := HM.out; omega
    have h64 := HZ.out z hz
    by_cases hzZ : z = Z
    · have hg : ((m : Int) % 64 != 56) = false := by
        have := h64.2 hzZ
        have := HM.out
        simp; omega
      have HzZ := Lib.hid hzZ
      have ho2 : wr.ownsRow w.heap.size 5 1 (.slice A' m c') m (bv (b ++ 128 :: (List.replicate Z 0 ++ (beL (8 * n) 8).take 0))) := by
        have h := HO.out
        rw [hzZ] at h
        simpa using h
      have HO2 := Lib.hid ho2
      clear ho2
      clear h64 hzZ HO HZ
      go_wp2
      go_loopw [3, 5] (fun v i wr => ∃ (k m' : Nat) (A' : Option Addr) (c' : Nat), k ≤ 8 ∧ i = .int .i64 k ∧ v = .slice A' m' c' ∧ Hid (m' = m + k) ∧ Below w.heap.size w wr ∧ wr.ownsRow w.heap.size 5 1 (.slice A' m' c') m' (bv (b ++ 128 :: (List.replicate Z 0 ++ (beL (8 * n) 8).take k)))) (fun _ i _ => 8 - (intOf i).toNat)
      case atStart => exact ⟨0, m, A', c', by omega, rfl, rfl, rfl, HB.out, HO2.out⟩
      case round =>
        clear HB HO2 hg
        obtain ⟨k, m', A', c', hk, rfl, rfl, HM', hb, how⟩ := hrel
        have HB := Lib.hid hb
        have HO := Lib.hid how
        clear hb how
        have hm' : m' ≤ n + 72 := by have := HM'.out; omega
        by_cases hlt : k < 8
        · go_wp2
          obtain ⟨wo, hwo⟩ : ∃ wo : World, wo = wr := ⟨_, rfl⟩
          go_loop [6, 7] (fun d j => ∃ (q D : Nat), k ≤ q ∧ q ≤ 7 ∧ j = .int .i64 q ∧ d = .int .u64 (D : Int) ∧ Hid (D = 256 ^ (q - k))) (fun _ j => 7 - (intOf j).toNat)
          case atStart => exact ⟨k, 1, Nat.le_refl _, by omega, rfl, rfl, by show 1 = _; rw [Nat.sub_self]⟩
          case round =>
            obtain ⟨q, D, hkq, hq, rfl, rfl, HD⟩ := hrel
            by_cases hlt2 : q < 7
            · have hD : D ≤ 281474976710656 := by rw [HD.out]; exact Nat.le_trans (Nat.pow_le_pow_right (by omega) (show q - k ≤ 6 by omega)) (by decide)
              go_wp2
              go_round
              case rel => exact ⟨q + 1, D * 256, by omega, by omega, by go_num, rfl, by show _ = _; rw [HD.out, show q + 1 - k = (q - k) + 1 by omega, Nat.pow_succ]⟩
              case measure => simp [intOf]; omega
            · obtain rfl : q = 7 := by omega
              have hD0 : 1 ≤ D := by rw [HD.out]; exact Nat.pow_pos (by omega)
              have hD1 : (0 : Int) < (D : Int) := by omega
              obtain ⟨Q, hQ⟩ : ∃ Q : Nat, Q = 8 * n / D := ⟨_, rfl⟩
              have eQ : (n : Int) * 8 / (D : Int) = (Q : Int) := by rw [hQ, Int.mul_comm]; rfl
              have q0 : (0 : Int) ≤ (Q : Int) := by omega
              have HQ := Lib.hid hQ
              clear hQ
              go_wp2_with (at_builtin
                           refine wpList_app _ rfl (.tmp 35) (.tmp 41) _ rfl bytesElt (base := w.heap.size) (v := .slice A' m' c') rfl (own_below HO.out ((Below.refl _ _).alloc (Nat.le_refl _) _)) rfl (Rd.lit wr 5 [.int .u8 ((Q : Int) % 256)]) rfl ?_ ?_ ?_ ?_
                           · intro u hu
                             obtain rfl := List.mem_singleton.1 hu
                             rfl
                           · omega
                           · simp; have := HB.out.size; omega
                           intro A5 c5 w5 ho5 hg5 _)
              go_roundw
              case rel =>
                refine ⟨k + 1, m' + 1, A5, c5, by omega, by go_num, rfl, (by show m' + 1 = m + (k + 1); have := HM'.out; omega), app_below (HB.out.alloc HB.out.size _) (own_below HO.out ((Below.refl _ _).alloc (Nat.le_refl _) _)) hg5 (Nat.le_refl _) (by simp; have := HB.out.size; omega), ?_⟩
                refine own_eq ho5 rfl ?_
                have e : [Value.int .u8 ((Q : Int) % 256)] = bv [UInt8.ofNat (8 * n / 256 ^ (7 - k) % 256)] := by
                  rw [← HD.out, ← HQ.out]
                  show _ = [Value.int .u8 _]
                  rw [int_eq]
                  simp
                rw [e, ← bv_append, List.append_assoc, List.cons_append, List.append_assoc, beL_step _ hlt]
              case measure => simp [intOf]; omega
        · obtain rfl : k = 8 := by omega
          have E : bv (b ++ 128 :: (List.replicate Z 0 ++ (beL (8 * n) 8).take 8)) = bv (padL b) := by
            rw [padL, padP, HZN.out, HN.out, List.take_of_length_le (by rw [beL_length]; omega)]
          have ho9 := own_eq HO.out rfl E
          have HO9 := Lib.hid ho9
          clear ho9 HO E
          go_wp2
          go_ret
          exact RetRow.mk rfl HO9.out HB.out
    · have hg : ((m : Int) % 64 != 56) = true := by
        have h := fun h' => hzZ (h64.1 h')
        have := HM.out
        simp; omega
      clear h64
      go_wp2_with (at_builtin
                   refine wpList_app _ rfl (.tmp 17) (.tmp 18) _ rfl bytesElt (base := w.heap.size) (v := .slice A' m c') rfl (own_below HO.out ((Below.refl _ _).alloc (Nat.le_refl _) _)) rfl (Rd.lit wr 5 (bv [0])) rfl (bv_one _) ?_ ?_ ?_
                   · omega
                   · simp; have := HB.out.size; omega
                   intro A5 c5 w5 ho5 hg5 _)
      go_roundw
      case rel =>
        refine ⟨z + 1, m + 1, A5, c5, by omega, rfl, (by show m + 1 = n + 1 + (z + 1); have := HM.out; omega), app_below (HB.out.alloc HB.out.size _) (own_below HO.out ((Below.refl _ _).alloc (Nat.le_refl _) _)) hg5 (Nat.le_refl _) (by simp; have := HB.out.size; omega), ?_⟩
        exact own_eq ho5 rfl (by rw [← bv_append, List.append_assoc, List.cons_append, ← List.replicate_succ'])
      case measure => have := HM.out; show n + 1 + Z - (m + 1) < n + 1 + Z - m; omega
end Go.Proofs.Ytobkkbpeoohfkaa
