/-
  The contracts of the two Xor: byte by byte, as far as both reach, in new memory.
-/
import Derived.Test.YtobkkbpeoohfkaaWiElt
import Derived.StillTailTactics
import Derived.Laws.BitsAllLaws
namespace Go.Proofs.Ytobkkbpeoohfkaa.Wi
open Go.RowKit

/-- Rows being filled: P as far as k, noughts behind. -/
def fillL (P : List UInt8) (k : Nat) : List UInt8 := P.take k ++ List.replicate (P.length - k) 0
theorem fill_made {P : List UInt8} {s : Nat} (h : P.length = s) : (madeCells (Value.int IntKind.u8 0).cells (s * 1)).toList = bv (fillL P 0) := by
  have e : (Value.int IntKind.u8 0).cells = #[Value.int IntKind.u8 0] := rfl
  rw [e, toList_madeCells_one, fillL, List.take_zero, List.nil_append, bv_replicate, h]
  simp
theorem fill_set {P : List UInt8} {k : Nat} (h : k < P.length) : (bv (fillL P k)).set k (.int .u8 (P[k].toNat : Int)) = bv (fillL P (k + 1)) := by
  have hl : (P.take k).length = k := by simp; omega
  have e1 : List.replicate (P.length - k) (0 : UInt8) = 0 :: List.replicate (P.length - (k + 1)) 0 := by
    rw [← List.replicate_succ]; congr 1; omega
  have e2 : bv (fillL P k) = bv (P.take k) ++ (.int .u8 0 :: List.replicate (P.length - (k + 1)) (.int .u8 0)) := by
    rw [fillL, e1, bv_append, ← bv_replicate]; rfl
  have e3 : bv (fillL P (k + 1)) = bv (P.take k) ++ (.int .u8 (P[k].toNat : Int) :: List.replicate (P.length - (k + 1)) (.int .u8 0)) := by
    rw [fillL, List.take_succ_eq_append_getElem h, List.append_assoc, bv_append, ← bv_replicate]; rfl
  rw [e2, e3, List.set_append_right _ _ (by rw [bv_length]; omega), bv_length, hl, Nat.sub_self]
  rfl
theorem fill_cell {P : List UInt8} {k : Nat} (h : k < P.length) : ∃ v, (bv (fillL P k))[k]? = some v := by
  have hl : k < (fillL P k).length := by simp [fillL]; omega
  exact ⟨_, bv_get hl⟩
theorem fill_done (P : List UInt8) : bv (fillL P P.length) = bv P := by
  rw [fillL, List.take_of_length_le (Nat.le_refl _)]; simp

/-- a xor b, as far as both reach. -/
def xorL (a b : List UInt8) : List UInt8 := List.zipWith (fun x y => x ^^^ y) a b
theorem xorL_length (a b : List UInt8) : (xorL a b).length = min a.length b.length := by simp [xorL]
theorem xorL_get {a b : List UInt8} {k : Nat} (h : k < (xorL a b).length) (h1 : k < a.length) (h2 : k < b.length) : (xorL a b)[k] = a[k] ^^^ b[k] := by simp [xorL]
theorem bits_xor8 (a b : UInt8) : bits .xor .u8 (a.toNat : Int) (b.toNat : Int) = ((a ^^^ b).toNat : Int) := by
  rw [u8_xor_nat _ _ (UInt8.toNat_lt _) (UInt8.toNat_lt _), UInt8.toNat_xor]

set_option maxRecDepth 100000 in
set_option maxHeartbeats 400000 in
theorem wxor_le {B B' : Nat} (A A' : Option Addr) (n m c d : Nat) (xs ys : List UInt8) (w : World) (hn : xs.length = n) (hm : ys.length = m)
    (hB : B ≤ w.heap.size) (hB' : B' ≤ w.heap.size) (ha : Rd B w A (bv xs)) (hb : Rd B' w A' (bv ys)) (hn' : n ≤ 1099511627776) (hm' : m ≤ 1099511627776) (hle : xs.length ≤ ys.length) :
    Calls Try.prog 22 #[.slice A n c, .slice A' m d] w (RetRow 5 (bv (xorL xs ys)) w) := by
  subst hn
  subst hm
  obtain ⟨i0, hi, hz0, hz1, hz2⟩ := info_parts info_byte
  have HL := Lib.hid (show (xorL xs ys).length = xs.length by rw [xorL_length]; omega)
  go_enter Try.func22, Try.ntmps22
  go_wp2_with (at_make; refine wpList_make_full _ rfl _ _ _ rfl w.heap.size 5 i0 _ 1 Try.underlying33 hi hz0 hz1 .i64 .i64 _ _ xs.length rfl rfl rfl rfl ?_ ?_ ?_ ?_; (rw [hz2]; omega); (unfold maxLen; omega); (exact Nat.le_refl _); intro w1 hown hg)
  go_loopw [6, 15] (fun u i wr => ∃ k : Nat, k ≤ xs.length ∧ i = .int .i64 k ∧ Below w.heap.size w wr ∧ wr.ownsRow w.heap.size 5 1 (.slice (some ⟨w.heap.size, 0, none⟩) xs.length xs.length) xs.length (bv (fillL (xorL xs ys) k))) (fun _ i _ => xs.length - (intOf i).toNat)
  case atStart => exact ⟨0, Nat.zero_le _, rfl, (Below.refl _ _).grown hg (Nat.le_refl _) (fun _ h => by cases h), by rw [← fill_made HL.out]; exact hown⟩
  case round =>
    obtain ⟨k, hk, rfl, hbw, how⟩ := hrel
    by_cases hlt : k < xs.length
    · have hx : k < xs.length := by omega
      have hy : k < ys.length := by omega
      have hz : k < (xorL xs ys).length := by rw [HL.out]; exact hlt
      obtain ⟨ad, hA, hbl, hca⟩ := (ha.more hB).at_ hx
      obtain ⟨bd, hA', hbl', hcb⟩ := (hb.more hB').at_ hy
      subst hA
      subst hA'
      have hc1 := (hbw.cell (p := ad.add k) (by rw [add_block]; exact hbl)).trans hca
      have hc2 := (hbw.cell (p := bd.add k) (by rw [add_block]; exact hbl')).trans hcb
      have hc := how.cellAt k (by omega)
      have hf := how.frozenAt k
      obtain ⟨v, hv⟩ := fill_cell hz
      rw [hv] at hc
      have HS := Lib.hid (how.stored k (.int .u8 (bits .xor .u8 (xs[k].toNat : Int) (ys[k].toNat : Int)))).1
      have h0 : (0 : Int) ≤ (k : Int) := by omega
      have h1 : (k : Int) < (xs.length : Int) := by omega
      have h2 : (k : Int) < (ys.length : Int) := by omega
      clear hv ha hb hca hcb
      go_wp2
      go_still_tail 12, (by kernel_rfl)
      go_wp2
      go_roundw
      case rel => exact ⟨k + 1, by omega, by go_num, (hbw.setCell (Nat.le_refl _) _).drew, by rw [← fill_set hz, xorL_get hz hx hy, ← bits_xor8]; exact HS.out⟩
      case measure => simp [intOf]; omega
    · obtain rfl : k = xs.length := by omega
      go_wp2
      go_ret
      exact RetRow.mk rfl (own_eq how rfl (by have h := fill_done (xorL xs ys); rw [HL.out] at h; exact h)) hbw

set_option maxRecDepth 100000 in
set_option maxHeartbeats 400000 in
theorem wxor_gt {B B' : Nat} (A A' : Option Addr) (n m c d : Nat) (xs ys : List UInt8) (w : World) (hn : xs.length = n) (hm : ys.length = m)
    (hB : B ≤ w.heap.size) (hB' : B' ≤ w.heap.size) (ha : Rd B w A (bv xs)) (hb : Rd B' w A' (bv ys)) (hn' : n ≤ 1099511627776) (hm' : m ≤ 1099511627776) (hle : ys.length < xs.length) :
    Calls Try.prog 22 #[.slice A n c, .slice A' m d] w (RetRow 5 (bv (xorL xs ys)) w) := by
  subst hn
  subst hm
  obtain ⟨i0, hi, hz0, hz1, hz2⟩ := info_parts info_byte
  have HL := Lib.hid (show (xorL xs ys).length = ys.length by rw [xorL_length]; omega)
  go_enter Try.func22, Try.ntmps22
  go_wp2_with (at_make; refine wpList_make_full _ rfl _ _ _ rfl w.heap.size 5 i0 _ 1 Try.underlying33 hi hz0 hz1 .i64 .i64 _ _ ys.length rfl rfl rfl rfl ?_ ?_ ?_ ?_; (rw [hz2]; omega); (unfold maxLen; omega); (exact Nat.le_refl _); intro w1 hown hg)
  go_loopw [6, 15] (fun u i wr => ∃ k : Nat, k ≤ ys.length ∧ i = .int .i64 k ∧ Below w.heap.size w wr ∧ wr.ownsRow w.heap.size 5 1 (.slice (some ⟨w.heap.size, 0, none⟩) ys.length ys.length) ys.length (bv (fillL (xorL xs ys) k))) (fun _ i _ => ys.length - (intOf i).toNat)
  case atStart => exact ⟨0, Nat.zero_le _, rfl, (Below.refl _ _).grown hg (Nat.le_refl _) (fun _ h => by cases h), by rw [← fill_made HL.out]; exact hown⟩
  case round =>
    obtain ⟨k, hk, rfl, hbw, how⟩ := hrel
    by_cases hlt : k < ys.length
    · have hx : k < xs.length := by omega
      have hy : k < ys.length := by omega
      have hz : k < (xorL xs ys).length := by rw [HL.out]; exact hlt
      obtain ⟨ad, hA, hbl, hca⟩ := (ha.more hB).at_ hx
      obtain ⟨bd, hA', hbl', hcb⟩ := (hb.more hB').at_ hy
      subst hA
      subst hA'
      have hc1 := (hbw.cell (p := ad.add k) (by rw [add_block]; exact hbl)).trans hca
      have hc2 := (hbw.cell (p := bd.add k) (by rw [add_block]; exact hbl')).trans hcb
      have hc := how.cellAt k (by omega)
      have hf := how.frozenAt k
      obtain ⟨v, hv⟩ := fill_cell hz
      rw [hv] at hc
      have HS := Lib.hid (how.stored k (.int .u8 (bits .xor .u8 (xs[k].toNat : Int) (ys[k].toNat : Int)))).1
      have h0 : (0 : Int) ≤ (k : Int) := by omega
      have h1 : (k : Int) < (xs.length : Int) := by omega
      have h2 : (k : Int) < (ys.length : Int) := by omega
      clear hv ha hb hca hcb
      go_wp2
      go_still_tail 12, (by kernel_rfl)
      go_wp2
      go_roundw
      case rel => exact ⟨k + 1, by omega, by go_num, (hbw.setCell (Nat.le_refl _) _).drew, by rw [← fill_set hz, xorL_get hz hx hy, ← bits_xor8]; exact HS.out⟩
      case measure => simp [intOf]; omega
    · obtain rfl : k = ys.length := by omega
      go_wp2
      go_ret
      exact RetRow.mk rfl (own_eq how rfl (by have h := fill_done (xorL xs ys); rw [HL.out] at h; exact h)) hbw


theorem wxor_any {B B' : Nat} (A A' : Option Addr) (n m c d : Nat) (xs ys : List UInt8) (w : World) (hn : xs.length = n) (hm : ys.length = m)
    (hB : B ≤ w.heap.size) (hB' : B' ≤ w.heap.size) (ha : Rd B w A (bv xs)) (hb : Rd B' w A' (bv ys)) (hn' : n ≤ 1099511627776) (hm' : m ≤ 1099511627776) :
    Calls Try.prog 22 #[.slice A n c, .slice A' m d] w (RetRow 5 (bv (xorL xs ys)) w) := by
  rcases Nat.lt_or_ge ys.length xs.length with h | h
  · exact wxor_gt A A' n m c d xs ys w hn hm hB hB' ha hb hn' hm' h
  · exact wxor_le A A' n m c d xs ys w hn hm hB hB' ha hb hn' hm' h


/-! The reference's: bit by bit. -/
theorem xor_two (a b : Nat) : (a ^^^ b) % 2 = (a % 2 + b % 2) % 2 := by
  have h := @Nat.xor_mod_two_pow a b 1
  simp only [Nat.pow_one] at h
  rw [h]
  rcases Nat.mod_two_eq_zero_or_one a with h1 | h1 <;> rcases Nat.mod_two_eq_zero_or_one b with h2 | h2 <;> rw [h1, h2] <;> rfl
theorem xor_bit (X Y j : Nat) : (X ^^^ Y) % 2 ^ (j + 1) = (X ^^^ Y) % 2 ^ j + 2 ^ j * ((X / 2 ^ j % 2 + Y / 2 ^ j % 2) % 2) := by
  rw [Nat.mod_pow_succ, ← Nat.shiftRight_eq_div_pow, Nat.shiftRight_xor_distrib, xor_two, Nat.shiftRight_eq_div_pow, Nat.shiftRight_eq_div_pow]
theorem xor_same {X Y j x y n : Nat} (hx : x = X / 2 ^ j) (hy : y = Y / 2 ^ j) (hn : n = (X ^^^ Y) % 2 ^ j) (h : ((x : Int) % 2 != (y : Int) % 2) = false) : n = (X ^^^ Y) % 2 ^ (j + 1) := by
  have h' : x % 2 = y % 2 := by
    have : (x : Int) % 2 = (y : Int) % 2 := by simpa using h
    omega
  rw [xor_bit, ← hn, ← hx, ← hy, h', show (y % 2 + y % 2) % 2 = 0 by omega]
  omega
theorem xor_diff {X Y j x y n : Nat} (hx : x = X / 2 ^ j) (hy : y = Y / 2 ^ j) (hn : n = (X ^^^ Y) % 2 ^ j) (h : ((x : Int) % 2 != (y : Int) % 2) = true) : n + 2 ^ j = (X ^^^ Y) % 2 ^ (j + 1) := by
  have h' : x % 2 ≠ y % 2 := by
    intro e
    have : (x : Int) % 2 = (y : Int) % 2 := by omega
    simp [this] at h
  rw [xor_bit, ← hn, ← hx, ← hy, show (x % 2 + y % 2) % 2 = 1 by omega]
  omega
theorem half_step {X j x : Nat} (hx : x = X / 2 ^ j) : x / 2 = X / 2 ^ (j + 1) := by rw [hx, Nat.div_div_eq_div_mul, Nat.pow_succ]
theorem xor_lt {X Y j n : Nat} (hn : n = (X ^^^ Y) % 2 ^ j) : n < 2 ^ j := by rw [hn]; exact Nat.mod_lt _ (Nat.pow_pos (by omega))
theorem bit_step {j : Nat} {b : Int} (hb : j < 8 → b = 2 ^ j) (h : j < 8) : j + 1 < 8 → b * 2 % 256 = 2 ^ (j + 1) := by
  intro h1
  rw [hb h]
  have h2 : j < 7 := by omega
  match j, h2 with
  | 0, _ => rfl
  | 1, _ => rfl
  | 2, _ => rfl
  | 3, _ => rfl
  | 4, _ => rfl
  | 5, _ => rfl
  | 6, _ => rfl
theorem bit_bd {j : Nat} {b : Int} (hb : j < 8 → b = 2 ^ j) (h : j < 8) : ((2 ^ j : Nat) : Int) = b ∧ b ≤ 128 ∧ 0 ≤ b := by
  rw [hb h]
  match j, h with
  | 0, _ => exact ⟨rfl, by decide, by decide⟩
  | 1, _ => exact ⟨rfl, by decide, by decide⟩
  | 2, _ => exact ⟨rfl, by decide, by decide⟩
  | 3, _ => exact ⟨rfl, by decide, by decide⟩
  | 4, _ => exact ⟨rfl, by decide, by decide⟩
  | 5, _ => exact ⟨rfl, by decide, by decide⟩
  | 6, _ => exact ⟨rfl, by decide, by decide⟩
  | 7, _ => exact ⟨rfl, by decide, by decide⟩
theorem xor_sum {X Y j r : Nat} {b : Int} (hr : r = (X ^^^ Y) % 2 ^ j) (hb : j < 8 → b = 2 ^ j) (h : j < 8) : (r : Int) + b ≤ 255 := by
  have h1 := xor_lt hr
  obtain ⟨h2, h3, _⟩ := bit_bd hb h
  omega
theorem xor_end {X Y r : Nat} {a b : UInt8} (hX : X = a.toNat) (hY : Y = b.toNat) (h : r = (X ^^^ Y) % 2 ^ 8) : r = (a ^^^ b).toNat := by
  rw [UInt8.toNat_xor, ← hX, ← hY, h]
  have : X ^^^ Y < 2 ^ 8 := Nat.xor_lt_two_pow (by rw [hX]; exact UInt8.toNat_lt _) (by rw [hY]; exact UInt8.toNat_lt _)
  exact Nat.mod_eq_of_lt this
theorem xor_take {a b : List UInt8} {k : Nat} (h1 : k < a.length) (h2 : k < b.length) {r : Nat} (hr : r = (a[k] ^^^ b[k]).toNat) : bv ((xorL a b).take k) ++ [.int .u8 (r : Int)] = bv ((xorL a b).take (k + 1)) := by
  have hz : k < (xorL a b).length := by rw [xorL_length]; omega
  rw [List.take_succ_eq_append_getElem hz, bv_append, xorL_get hz h1 h2, hr]; rfl
theorem xor_all {a b : List UInt8} {k : Nat} (h : k = a.length ∨ k = b.length) (_h1 : k ≤ a.length) (_h2 : k ≤ b.length) : bv ((xorL a b).take k) = bv (xorL a b) := by
  rw [List.take_of_length_le (by rw [xorL_length]; omega)]

set_option maxHeartbeats 800000 in
theorem rxor_any {B B' : Nat} (A A' : Option Addr) (n m c d : Nat) (xs ys : List UInt8) (w : World) (hn : xs.length = n) (hm : ys.length = m)
    (hB : B ≤ w.heap.size) (hB' : B' ≤ w.heap.size) (ha : Rd B w A (bv xs)) (hb : Rd B' w A' (bv ys)) (hn' : n ≤ 1099511627776) (hm' : m ≤ 1099511627776) :
    Calls Try.prog 28 #[.slice A n c, .slice A' m d] w (RetRow 5 (bv (xorL xs ys)) w) := by
  subst hn
  subst hm
  go_enter Try.func28, Try.ntmps28
  go_wp2
  go_loopw [5, 6] (fun o i wr => ∃ k A1 c1, k ≤ xs.length ∧ k ≤ ys.length ∧ i = .int .i64 (k : Nat) ∧ o = .slice A1 k c1 ∧ Below w.heap.size w wr ∧ wr.ownsRow w.heap.size 5 1 (.slice A1 k c1) k (bv ((xorL xs ys).take k))) (fun _ i _ => xs.length - (intOf i).toNat)
  case atStart => exact ⟨0, none, 0, Nat.zero_le _, Nat.zero_le _, rfl, rfl, Below.refl _ _, World.ownsRow_nil w _ _ _⟩
  case round =>
    obtain ⟨k, A1, c1, hkx, hky, rfl, rfl, hbw, how⟩ := hrel
    by_cases hx : k < xs.length
    · by_cases hy : k < ys.length
      · obtain ⟨ad, hA, hbl, hca⟩ := (ha.more hB).at_ hx
        obtain ⟨bd, hA', hbl', hcb⟩ := (hb.more hB').at_ hy
        subst hA
        subst hA'
        have hc1 := (hbw.cell (p := ad.add k) (by rw [add_block]; exact hbl)).trans hca
        have hc2 := (hbw.cell (p := bd.add k) (by rw [add_block]; exact hbl')).trans hcb
        clear hca hcb ha hb
        obtain ⟨X, hX⟩ : ∃ X : Nat, X = xs[k].toNat := ⟨_, rfl⟩
        obtain ⟨Y, hY⟩ : ∃ Y : Nat, Y = ys[k].toNat := ⟨_, rfl⟩
        have bX : X < 256 := by rw [hX]; exact UInt8.toNat_lt _
        have bY : Y < 256 := by rw [hY]; exact UInt8.toNat_lt _
        rw [← hX] at hc1
        rw [← hY] at hc2
        have HX := Lib.hid hX
        have HY := Lib.hid hY
        clear hX hY
        go_wp2
        obtain ⟨wo, rfl⟩ : ∃ wo : World, wo = wr := ⟨_, rfl⟩
        go_loop [7, 8, 9, 10, 11] (fun x y n b i => ∃ (j p q r : Nat) (z : Int), j ≤ 8 ∧ i = .int .i64 j ∧ x = .int .u8 (p : Int) ∧ y = .int .u8 (q : Int) ∧ n = .int .u8 (r : Int) ∧ b = .int .u8 z ∧ p < 256 ∧ q < 256 ∧ Hid (p = X / 2 ^ j) ∧ Hid (q = Y / 2 ^ j) ∧ Hid (r = (X ^^^ Y) % 2 ^ j) ∧ Hid (j < 8 → z = 2 ^ j)) (fun _ _ _ _ i => 8 - (intOf i).toNat)
        case atStart => exact ⟨0, X, Y, 0, 1, by omega, rfl, rfl, rfl, rfl, rfl, bX, bY, show X = _ by simp, show Y = _ by simp, show 0 = _ by simp [Nat.mod_one], fun _ => rfl⟩
        case round =>
          obtain ⟨j, p, q, r, z, hj, rfl, rfl, rfl, rfl, rfl, hp, hq, HP, HQ, HR, HZ⟩ := hrel
          by_cases h8 : j < 8
          · obtain ⟨z1, z2, z3⟩ := bit_bd HZ.out h8
            have hr2 : (r : Int) + z ≤ 255 := xor_sum HR.out HZ.out h8
            have Z1 := Lib.hid z1
            clear z1
            by_cases ht : ((p : Int) % 2 != (q : Int) % 2) = true
            · go_wp2
              go_round
              case rel => exact ⟨j + 1, p / 2, q / 2, r + 2 ^ j, z * 2 % 256, by omega, by go_num, int_eq (by omega), int_eq (by omega), int_eq (by rw [← Z1.out]; exact (Int.natCast_add _ _).symm), rfl, by omega, by omega, half_step HP.out, half_step HQ.out, xor_diff HP.out HQ.out HR.out ht, bit_step HZ.out h8⟩
              case measure => simp [intOf]; omega
            · have ht' : ((p : Int) % 2 != (q : Int) % 2) = false := by simpa using ht
              clear ht
              go_wp2
              go_round
              case rel => exact ⟨j + 1, p / 2, q / 2, r, z * 2 % 256, by omega, by go_num, int_eq (by omega), int_eq (by omega), rfl, rfl, by omega, by omega, half_step HP.out, half_step HQ.out, xor_same HP.out HQ.out HR.out ht', bit_step HZ.out h8⟩
              case measure => simp [intOf]; omega
          · obtain rfl : j = 8 := by omega
            have HE := Lib.hid (xor_end HX.out HY.out HR.out)
            clear HZ
            go_wp2_with (at_builtin; refine wpList_app _ rfl (.tmp 50) (.tmp 52) _ rfl bytesElt (base := w.heap.size) (v := .slice A1 k c1) rfl (how.alloc _) (m := 1) rfl (Rd.lit wo 5 [.int .u8 (r : Int)]) rfl ?_ ?_ ?_ ?_; (intro u hu; simp at hu; subst hu; rfl); omega; exact (hbw.alloc hbw.size _).size; intro A2 c2 w2 hown2 hg2 _; have hb2 := app_below (hbw.alloc hbw.size _) (how.alloc _) hg2 (Nat.le_refl _) (hbw.alloc hbw.size _).size)
            go_roundw
            case rel => exact ⟨k + 1, A2, c2, by omega, by omega, by go_num, rfl, hb2, own_eq hown2 rfl (xor_take hx hy HE.out)⟩
            case measure => simp [intOf]; omega
      · go_wp2
        go_ret
        exact RetRow.mk rfl (own_eq how rfl (xor_all (by omega) hkx hky)) hbw
    · go_wp2
      go_ret
      exact RetRow.mk rfl (own_eq how rfl (xor_all (by omega) hkx hky)) hbw
end Go.Proofs.Ytobkkbpeoohfkaa.Wi
