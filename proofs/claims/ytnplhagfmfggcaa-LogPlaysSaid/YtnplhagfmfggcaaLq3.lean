/-
  Texts of this seat, one behind the other: WiPut, WiGet, SxPure, SxSum, SxPack, SxClone, SxSlice, SxUnpack, LateHeld, LoOwn, LoPure, LoRef, LoFound, LoLearn, LoNew, LoRl, LoRead, MiUno, KdRotP, MiSee, MuSee, MiChoose, MiHeal, MiSync, Open, KdDeed, KdLieP, MiBoth, MiRepeat.
-/
import Derived.Deep.QuietTactic
import Derived.BigQuiet
import Derived.Laws.BitsAllLaws
import Derived.Laws.CopyOwn
import Derived.Deep.RegionHeld
import Derived.Laws.Tables
import Derived.Laws.Slices
import Derived.OrdersHeld
import Derived.Test.YtnplhagfmfggcaaProg
import Derived.Maps.RangeWalk
import Derived.Deep.Slices
import Derived.OpenShut
import Derived.Laws.Bits64b
import Derived.Test.YtnplhagfmfggcaaLq2
/-
  The contract of wire's Put, in a namespace of its own: a number in so many bytes, the highest first, in new memory.
-/
namespace Go.Proofs.Ytnplhagfmfggcaa.Wi
open Go.RowKit


/-- n in size bytes, the highest first. -/
def putL (n size : Nat) : List UInt8 := (List.range size).map fun i => UInt8.ofNat (n / 2 ^ (8 * (size - 1 - i)) % 256)

theorem putL_length (n s : Nat) : (putL n s).length = s := by simp [putL]
theorem putL_get {n s k : Nat} (h : k < s) : (putL n s)[k]? = some (UInt8.ofNat (n / 2 ^ (8 * (s - 1 - k)) % 256)) := by
  simp [putL, h]
theorem put_made (n s : Nat) : (madeCells (Value.int IntKind.u8 0).cells (s * 1)).toList = bv ((putL n s).take 0 ++ List.replicate (s - 0) 0) := by
  have e : (Value.int IntKind.u8 0).cells = #[Value.int IntKind.u8 0] := rfl
  rw [e, toList_madeCells_one, List.take_zero, List.nil_append, bv_replicate]
  simp
theorem ofNat_byte (x : Nat) : ((UInt8.ofNat (x % 256)).toNat : Int) = ((x % 256 : Nat) : Int) := by simp
theorem put_set {n s k : Nat} (h : k < s) : (bv ((putL n s).take k ++ List.replicate (s - k) 0)).set k (.int .u8 ((n : Int) / 2 ^ (8 * (s - 1 - k)) % 256)) = bv ((putL n s).take (k + 1) ++ List.replicate (s - (k + 1)) 0) := by
  have hl : ((putL n s).take k).length = k := by simp [putL_length]; omega
  have e1 : List.replicate (s - k) (0 : UInt8) = 0 :: List.replicate (s - (k + 1)) 0 := by
    rw [← List.replicate_succ]; congr 1; omega
  have e2 : (putL n s).take (k + 1) = (putL n s).take k ++ [UInt8.ofNat (n / 2 ^ (8 * (s - 1 - k)) % 256)] := by
    rw [List.take_add_one, putL_get h]; rfl
  have e3 : (Value.int .u8 ((n : Int) / 2 ^ (8 * (s - 1 - k)) % 256)) = .int .u8 ((UInt8.ofNat (n / 2 ^ (8 * (s - 1 - k)) % 256)).toNat : Int) := by
    rw [ofNat_byte, Int.natCast_emod, Int.natCast_ediv, Int.natCast_pow]; rfl
  rw [e1, e2, e3, bv_append, List.set_append_right _ _ (by rw [bv_length]; omega), bv_length, hl, Nat.sub_self]
  simp [bv]
theorem put_cell {n s k : Nat} (h : k < s) : ∃ v, (bv ((putL n s).take k ++ List.replicate (s - k) 0))[k]? = some v := by
  have hl : k < ((putL n s).take k ++ List.replicate (s - k) (0 : UInt8)).length := by simp [putL_length]; omega
  exact ⟨_, bv_get hl⟩
theorem put_done (n s : Nat) : bv ((putL n s).take s ++ List.replicate (s - s) 0) = bv (putL n s) := by
  rw [List.take_of_length_le (by rw [putL_length]; exact Nat.le_refl _)]; simp

set_option maxRecDepth 100000 in
set_option maxHeartbeats 400000 in
theorem wput_in (n size : Int) (w : World) (h0 : 0 ≤ n) (h1 : n < 18446744073709551616) (hs0 : 1 ≤ size) (hs8 : size ≤ 8) :
    Calls Try.prog 99 #[.int .u64 n, .int .i64 size] w (RetRow 5 (bv (putL n.toNat size.toNat)) w) := by
  obtain ⟨s, rfl⟩ := Int.eq_ofNat_of_zero_le (by omega : 0 ≤ size)
  obtain ⟨N, rfl⟩ := Int.eq_ofNat_of_zero_le h0
  obtain ⟨i0, hi, hz0, hz1, hz2⟩ := info_parts info_byte
  rw [Int.toNat_natCast, Int.toNat_natCast]
  clear h1
  go_enter Try.func99, Try.ntmps99
  go_wp2_with (at_make; refine wpList_make_full _ rfl _ _ _ rfl w.heap.size 5 i0 _ 1 Try.underlying81 hi hz0 hz1 .i64 .i64 _ _ s rfl rfl rfl rfl ?_ ?_ ?_ ?_; (rw [hz2]; omega); (unfold maxLen; omega); (exact Nat.le_refl _); intro w1 hown hg)
  go_loopw [6, 17] (fun u i wr => ∃ k : Nat, k ≤ s ∧ i = .int .i64 k ∧ Below w.heap.size w wr ∧ wr.ownsRow w.heap.size 5 1 (.slice (some ⟨w.heap.size, 0, none⟩) s s) s (bv ((putL N s).take k ++ List.replicate (s - k) 0))) (fun _ i _ => s - (intOf i).toNat)
  case atStart => exact ⟨0, Nat.zero_le _, rfl, (Below.refl _ _).grown hg (Nat.le_refl _) (fun _ h => by cases h), by rw [← put_made]; exact hown⟩
  case round =>
    obtain ⟨k, hk, rfl, hb, how⟩ := hrel
    by_cases hlt : k < s
    · have hc := how.cellAt k (by omega)
      have hf := how.frozenAt k
      obtain ⟨v, hv⟩ := put_cell (n := N) hlt
      rw [hv] at hc
      have HS := Lib.hid (how.stored k (.int .u8 ((N : Int) / 2 ^ (8 * (s - 1 - k)) % 256))).1
      clear hv
      go_wp2
      go_roundw
      case rel => exact ⟨k + 1, by omega, by go_num, hb.setCell (Nat.le_refl _) _, by rw [← put_set hlt]; exact HS.out⟩
      case measure => simp [intOf]; omega
    · obtain rfl : k = s := by omega
      rw [put_done] at how
      go_wp2
      go_ret
      exact RetRow.mk rfl how hb

set_option maxRecDepth 100000 in
set_option maxHeartbeats 400000 in
theorem wput_out (n size : Int) (w : World) (hs : size < 1 ∨ 8 < size) :
    Calls Try.prog 99 #[.int .u64 n, .int .i64 size] w fun e w' => e = .returned (.slice none 0 0) ∧ w = w' := by
  rcases hs with hs | hs
  · go_enter Try.func99, Try.ntmps99
    go_wp2
    go_ret
    exact ⟨rfl, rfl⟩
  · have hs' : ¬ size < 1 := by omega
    go_enter Try.func99, Try.ntmps99
    go_wp2
    go_ret
    exact ⟨rfl, rfl⟩


/-- n told, whatever the size. -/
def putI (n size : Int) : List UInt8 := if 1 ≤ size ∧ size ≤ 8 then putL n.toNat size.toNat else []

set_option maxRecDepth 100000 in
set_option maxHeartbeats 400000 in
theorem wput_any (n size : Int) (w : World) (h0 : 0 ≤ n) (h1 : n < 18446744073709551616) :
    Calls Try.prog 99 #[.int .u64 n, .int .i64 size] w (RetRow 5 (bv (putI n size)) w) := by
  by_cases h : 1 ≤ size ∧ size ≤ 8
  · rw [putI, if_pos h]
    exact wput_in n size w h0 h1 h.1 h.2
  · rw [putI, if_neg h]
    refine (wput_out n size w (by omega)).mono ?_
    rintro e w' ⟨rfl, rfl⟩
    exact RetRow.mk rfl (World.ownsRow_nil _ _ _ _) (Below.refl _ _)

end Go.Proofs.Ytnplhagfmfggcaa.Wi
/-
  The contract of wire's Get, in a namespace of its own: the number that stands in 1 to 8 bytes.
-/
namespace Go.Proofs.Ytnplhagfmfggcaa.Wi
open Go.RowKit

/-- The number that stands in l. -/
def getL (l : List UInt8) : Nat := l.foldl (fun n c => n * 256 + c.toNat) 0

theorem getL_nil : getL [] = 0 := rfl
theorem getL_snoc (l : List UInt8) (c : UInt8) : getL (l ++ [c]) = getL l * 256 + c.toNat := by simp [getL, List.foldl_append]
theorem getL_step {l : List UInt8} {k : Nat} (h : k < l.length) : getL (l.take (k + 1)) = getL (l.take k) * 256 + l[k].toNat := by
  rw [List.take_succ_eq_append_getElem h, getL_snoc]
theorem getL_take {l : List UInt8} : ∀ k, k ≤ l.length → getL (l.take k) < 256 ^ k
  | 0, _ => by simp [getL]
  | k + 1, h => by
    have h1 := getL_take k (Nat.le_of_succ_le h)
    have hb : l[k].toNat < 256 := UInt8.toNat_lt _
    rw [getL_step h, Nat.pow_succ]
    omega
theorem getL_lt (l : List UInt8) : getL l < 256 ^ l.length := by
  have h := getL_take l.length (Nat.le_refl _)
  rwa [List.take_of_length_le (Nat.le_refl _)] at h
theorem getL_small {l : List UInt8} {k : Nat} (h : k < l.length) (h8 : l.length ≤ 8) : getL (l.take k) * 256 + 255 < 18446744073709551616 := by
  have h1 := getL_take k (Nat.le_of_lt h)
  have h2 : 256 ^ k ≤ 256 ^ 7 := Nat.pow_le_pow_right (by omega) (by omega)
  have h3 : 256 ^ 7 = 72057594037927936 := by decide
  omega
theorem or_byte (Z b : Nat) (hb : b < 256) : Z * 256 ||| b = Z * 256 + b := by
  have e : Z * 256 = Z <<< 8 := by rw [Nat.shiftLeft_eq]
  rw [e, ← Nat.shiftLeft_add_eq_or_of_lt hb]
theorem get_or {l : List UInt8} {k Z : Nat} (hZ : Z = getL (l.take k)) (h : k < l.length) (h8 : l.length ≤ 8) :
    bits BinOp.or IntKind.u64 (IntKind.u64.wrap ((Z : Int) * 256)) (IntKind.u64.wrap (l[k].toNat : Int)) = ((Z * 256 + l[k].toNat : Nat) : Int) := by
  have hs := getL_small h h8
  have hb : l[k].toNat < 256 := UInt8.toNat_lt _
  rw [← hZ] at hs
  have e1 : IntKind.u64.wrap ((Z : Int) * 256) = ((Z * 256 : Nat) : Int) := (IntWalk.u64_in ((Z : Int) * 256) (by omega)).trans (Int.natCast_mul Z 256).symm
  have e2 : IntKind.u64.wrap (l[k].toNat : Int) = (l[k].toNat : Int) := IntWalk.u64_in (l[k].toNat : Int) (by clear e1; omega)
  rw [e1, e2]
  clear e1 e2
  have g1 : Z * 256 < 18446744073709551616 := Nat.lt_of_le_of_lt (Nat.le_add_right _ _) hs
  have g2 : l[k].toNat < 18446744073709551616 := Nat.lt_trans hb (by decide)
  have e3 := u64_or_nat (Z * 256) l[k].toNat g1 g2
  clear g1 g2
  rw [e3, or_byte Z _ hb]
theorem get_all (l : List UInt8) : getL (l.take l.length) = getL l := by rw [List.take_of_length_le (Nat.le_refl _)]
theorem ret_get {z z' : Int} {b : Bool} (h : z = z') : Ending.returned (.tuple #[.int .u64 z, .bool b]) = .returned (.tuple #[.int .u64 z', .bool b]) := by rw [h]

set_option maxRecDepth 100000 in
set_option maxHeartbeats 400000 in
theorem wget_in {B : Nat} (A : Option Addr) (n c : Nat) (l : List UInt8) (w : World) (hn : l.length = n) (ha : Rd B w A (bv l)) (h1 : 1 ≤ n) (h8 : n ≤ 8) :
    Calls Try.prog 101 #[.slice A n c] w fun e w' => e = .returned (.tuple #[.int .u64 (getL l : Int), .bool true]) ∧ w = w' := by
  subst hn
  go_enter Try.func101, Try.ntmps101
  go_wp2
  go_loop [4, 6, 17] (fun m u i => ∃ k Z : Nat, k ≤ l.length ∧ i = .int .i64 k ∧ m = .int .u64 (Z : Int) ∧ Hid (Z = getL (l.take k))) (fun _ _ i => l.length - (intOf i).toNat)
  case atStart => exact ⟨0, 0, Nat.zero_le _, rfl, rfl, rfl⟩
  case round =>
    obtain ⟨k, Z, hk, rfl, rfl, HZ⟩ := hrel
    by_cases hlt : k < l.length
    · obtain ⟨ad, rfl, _, hc⟩ := ha.at_ hlt
      go_wp2
      go_round
      case rel => exact ⟨k + 1, Z * 256 + l[k].toNat, by omega, by go_num, int_eq (get_or HZ.out hlt h8), by show _ = _; rw [getL_step hlt, HZ.out]⟩
      case measure => simp [intOf]; omega
    · obtain rfl : k = l.length := by omega
      go_wp2
      go_ret2
      exact ⟨ret_get (by rw [HZ.out, get_all]), rfl⟩

set_option maxRecDepth 100000 in
set_option maxHeartbeats 400000 in
theorem wget_out (A : Option Addr) (n c : Nat) (w : World) (h : n < 1 ∨ 8 < n) (hm : n ≤ maxLen) :
    Calls Try.prog 101 #[.slice A n c] w fun e w' => e = .returned (.tuple #[.int .u64 0, .bool false]) ∧ w = w' := by
  unfold maxLen at hm
  rcases h with h | h
  · go_enter Try.func101, Try.ntmps101
    go_wp2
    go_ret2
    exact ⟨rfl, rfl⟩
  · have h' : ¬ n < 1 := by omega
    go_enter Try.func101, Try.ntmps101
    go_wp2
    go_ret2
    exact ⟨rfl, rfl⟩

/-- What Get tells of l: a number and whether there is one. -/
def getN (l : List UInt8) : Nat := if 1 ≤ l.length ∧ l.length ≤ 8 then getL l else 0
def getOk (l : List UInt8) : Bool := decide (1 ≤ l.length ∧ l.length ≤ 8)

theorem wget_any {B : Nat} (A : Option Addr) (n c : Nat) (l : List UInt8) (w : World) (hn : l.length = n) (ha : Rd B w A (bv l)) (hm : n ≤ maxLen) :
    Calls Try.prog 101 #[.slice A n c] w fun e w' => e = .returned (.tuple #[.int .u64 (getN l : Int), .bool (getOk l)]) ∧ w = w' := by
  by_cases h : 1 ≤ l.length ∧ l.length ≤ 8
  · rw [getN, if_pos h, show getOk l = true from decide_eq_true h]
    exact wget_in A n c l w hn ha (by omega) (by omega)
  · rw [getN, if_neg h, show getOk l = false from decide_eq_false h]
    exact wget_out A n c w (by omega) hm
end Go.Proofs.Ytnplhagfmfggcaa.Wi
/-
  A sealed sector, as the document tells of it, by any sum. No program but for wire's.
-/
namespace Go.Proofs.Ytnplhagfmfggcaa.Sx
open Go.RowKit Kd
theorem putL_more (n s : Nat) : Wi.putL n (s + 1) = Wi.putL (n / 256) s ++ [UInt8.ofNat (n % 256)] := by
  unfold Wi.putL
  rw [List.range_succ, List.map_append, List.map_singleton]
  congr 1
  · refine List.map_congr_left fun i hi => ?_
    have hi := List.mem_range.1 hi
    rw [Nat.div_div_eq_div_mul, show s + 1 - 1 - i = (s - 1 - i) + 1 by omega, show 8 * (s - 1 - i + 1) = 8 + 8 * (s - 1 - i) by omega, Nat.pow_add]
  · rw [show s + 1 - 1 - s = 0 by omega]; simp
theorem getL_putL (n : Nat) : ∀ s, Wi.getL (Wi.putL n s) = n % 2 ^ (8 * s) := by
  intro s
  induction s generalizing n with
  | zero => simp [Wi.putL, Wi.getL]; omega
  | succ s ih =>
    rw [putL_more]
    unfold Wi.getL
    rw [List.foldl_append]
    show (Wi.getL (Wi.putL (n / 256) s)) * 256 + (UInt8.ofNat (n % 256)).toNat = _
    rw [ih, UInt8.toNat_ofNat', show 8 * (s + 1) = 8 + 8 * s by omega, Nat.pow_add]
    rw [Nat.mod_mul, show (2:Nat) ^ 8 = 256 from rfl]
    omega
theorem get_put8 {n : Nat} (h : n < 18446744073709551616) : Wi.getL (Wi.putL n 8) = n := by
  rw [getL_putL]; exact Nat.mod_eq_of_lt h
theorem get_put4 {n : Nat} (h : n < 4096) : Wi.getL (Wi.putL n 4) = n := by
  rw [getL_putL]; exact Nat.mod_eq_of_lt (by omega)
/-- A key of noughts. -/
def key0 : List UInt8 := List.replicate 32 0
theorem key0_length : key0.length = 32 := rfl
/-- What stands behind the sum. -/
def restL (gen : Nat) (b : List UInt8) : List UInt8 := Wi.putL gen 8 ++ UInt8.ofNat b.length :: (b ++ List.replicate (103 - b.length) 0)
theorem restL_length {gen : Nat} {b : List UInt8} (h : b.length ≤ 103) : (restL gen b).length = 112 := by
  simp [restL, Wi.putL_length]; omega
theorem size_byte {n : Nat} (h : n ≤ 103) : (UInt8.ofNat n).toNat = n := by rw [UInt8.toNat_ofNat']; omega
theorem restL_get {gen : Nat} {b : List UInt8} : (restL gen b).take 8 = Wi.putL gen 8 := by
  rw [restL, List.take_append_of_le_length (by rw [Wi.putL_length]; omega), List.take_of_length_le (by rw [Wi.putL_length]; omega)]
theorem restL_size {gen : Nat} {b : List UInt8} : (restL gen b).getD 8 0 = UInt8.ofNat b.length := by
  rw [List.getD_eq_getElem?_getD, restL, List.getElem?_append_right (by rw [Wi.putL_length]; omega), Wi.putL_length]; rfl
theorem restL_body {gen : Nat} {b : List UInt8} : ((restL gen b).drop 9).take b.length = b := by
  rw [restL, List.drop_append, Wi.putL_length, List.drop_eq_nil_of_le (by rw [Wi.putL_length]; omega), List.nil_append, show 9 - 8 = 1 from rfl, List.drop_succ_cons, List.drop_zero, List.take_append_of_le_length (Nat.le_refl _), List.take_length]
section
variable (f : List UInt8 → List UInt8 → List UInt8)
/-- The sum of a place and of what stands behind the sum. -/
def sumS (at_ : Nat) (r : List UInt8) : List UInt8 := f key0 (Wi.putL at_ 4 ++ r)
/-- May it be packed? -/
def mayS (at_ : Int) (b : List UInt8) : Bool := decide (0 ≤ at_ ∧ at_ < 4096 ∧ b.length ≤ 103)
def sealedS (at_ : Int) (gen : Nat) (b : List UInt8) : List UInt8 := sumS f at_.toNat (restL gen b) ++ restL gen b
/-- What Pack tells. -/
def packS (at_ : Int) (gen : Nat) (b : List UInt8) : List UInt8 := if mayS at_ b then sealedS f at_ gen b else zeroS
def genS (s : List UInt8) : Nat := Wi.getL ((s.drop 16).take 8)
def sizeS (s : List UInt8) : Nat := (s.getD 24 0).toNat
def bodyS (s : List UInt8) : List UInt8 := (s.drop 25).take (sizeS s)
/-- Is it a sealed sector of its place? -/
def okS (at_ : Int) (s : List UInt8) : Bool := decide (sizeS s ≤ 103) && (mayS at_ (bodyS s) && decide (sealedS f at_ (genS s) (bodyS s) = s))
/-- What Unpack tells. -/
def unpackS (at_ : Int) (s : List UInt8) : Nat × List UInt8 := if okS f at_ s then (genS s, bodyS s) else (0, [])
end
section
variable {f : List UInt8 → List UInt8 → List UInt8} (hf : ∀ k l, (f k l).length = 16)
include hf
theorem sumS_length (a : Nat) (r : List UInt8) : (sumS f a r).length = 16 := hf _ _
theorem sealedS_length {a : Int} {gen : Nat} {b : List UInt8} (h : b.length ≤ 103) : (sealedS f a gen b).length = 128 := by
  rw [sealedS, List.length_append, sumS_length hf, restL_length h]
theorem packS_length {a : Int} {gen : Nat} {b : List UInt8} : (packS f a gen b).length = 128 := by
  unfold packS; split
  · rename_i h; exact sealedS_length hf (of_decide_eq_true h).2.2
  · exact zeroS_length
theorem sealed_drop {a : Int} {gen : Nat} {b : List UInt8} : (sealedS f a gen b).drop 16 = restL gen b := by
  rw [sealedS, List.drop_append, sumS_length hf, List.drop_eq_nil_of_le (by rw [sumS_length hf]; omega), Nat.sub_self, List.nil_append, List.drop_zero]
theorem sealed_gen {a : Int} {gen : Nat} {b : List UInt8} (hg : gen < 18446744073709551616) : genS (sealedS f a gen b) = gen := by
  rw [genS, sealed_drop hf, restL_get, get_put8 hg]
theorem sealed_size {a : Int} {gen : Nat} {b : List UInt8} (h : b.length ≤ 103) : sizeS (sealedS f a gen b) = b.length := by
  have e : (sealedS f a gen b).getD 24 0 = (restL gen b).getD 8 0 := by
    rw [List.getD_eq_getElem?_getD, List.getD_eq_getElem?_getD, ← sealed_drop (f := f) hf (a := a), List.getElem?_drop]
  rw [sizeS, e, restL_size, size_byte h]
theorem sealed_body {a : Int} {gen : Nat} {b : List UInt8} (h : b.length ≤ 103) : bodyS (sealedS f a gen b) = b := by
  have e : (sealedS f a gen b).drop 25 = (restL gen b).drop 9 := by
    rw [← sealed_drop (f := f) hf (a := a), List.drop_drop]
  rw [bodyS, sealed_size hf h, e, restL_body]
/-- There and back. -/
theorem ok_sealed {a : Int} {gen : Nat} {b : List UInt8} (ha : mayS a b = true) (hg : gen < 18446744073709551616) : okS f a (sealedS f a gen b) = true := by
  have h := (of_decide_eq_true ha).2.2
  rw [okS, sealed_size hf h, sealed_body hf h, sealed_gen hf hg, ha, decide_eq_true h, decide_eq_true rfl]; rfl
theorem unpack_sealed {a : Int} {gen : Nat} {b : List UInt8} (ha : mayS a b = true) (hg : gen < 18446744073709551616) : unpackS f a (sealedS f a gen b) = (gen, b) := by
  have h := (of_decide_eq_true ha).2.2
  rw [unpackS, ok_sealed hf ha hg, if_pos rfl, sealed_body hf h, sealed_gen hf hg]
/-- Of sealed sectors that are alike the generation and the body are alike. -/
theorem sealed_inj {a a' : Int} {gen gen' : Nat} {b b' : List UInt8} (h : b.length ≤ 103) (h' : b'.length ≤ 103) (hg : gen < 18446744073709551616) (hg' : gen' < 18446744073709551616) (e : sealedS f a gen b = sealedS f a' gen' b') : gen = gen' ∧ b = b' := by
  constructor
  · rw [← sealed_gen hf hg (a := a) (b := b), e, sealed_gen hf hg']
  · rw [← sealed_body hf h (a := a) (gen := gen), e, sealed_body hf h']
end
section
variable {f : List UInt8 → List UInt8 → List UInt8}
theorem ok_may {a : Int} {s : List UInt8} (h : okS f a s = true) : mayS a (bodyS s) = true ∧ sealedS f a (genS s) (bodyS s) = s := by
  rw [okS, Bool.and_eq_true, Bool.and_eq_true] at h
  exact ⟨h.2.1, of_decide_eq_true h.2.2⟩
/-- One spelling. -/
theorem pack_ok {a : Int} {s : List UInt8} (h : okS f a s = true) : packS f a (genS s) (bodyS s) = s := by
  obtain ⟨h1, h2⟩ := ok_may h
  rw [packS, h1, if_pos rfl, h2]
theorem genS_lt (s : List UInt8) : genS s < 18446744073709551616 := by
  refine Nat.lt_of_lt_of_le (Wi.getL_lt _) (Nat.le_trans (Nat.pow_le_pow_right (by omega) (show _ ≤ 8 by rw [List.length_take]; omega)) (by decide))
theorem bodyS_length {s : List UInt8} (h : s.length = 128) (hs : sizeS s ≤ 103) : (bodyS s).length = sizeS s := by
  rw [bodyS, List.length_take, List.length_drop, h]; omega
end
/-- The sector as Pack lays it, part by part. -/
def lay1 (gen : Nat) : List UInt8 := splice zeroS 16 (Wi.putL gen 8)
def lay2 (gen : Nat) (b : List UInt8) : List UInt8 := (lay1 gen).set 24 (UInt8.ofNat b.length)
def lay3 (gen : Nat) (b : List UInt8) : List UInt8 := splice (lay2 gen b) 25 b
theorem lay1_eq (gen : Nat) : lay1 gen = List.replicate 16 0 ++ (Wi.putL gen 8 ++ List.replicate 104 0) := by
  rw [lay1, splice, zeroS, Wi.putL_length, List.take_replicate, List.drop_replicate]; rfl
theorem lay2_eq (gen : Nat) (b : List UInt8) : lay2 gen b = (List.replicate 16 0 ++ Wi.putL gen 8 ++ [UInt8.ofNat b.length]) ++ List.replicate 103 0 := by
  rw [lay2, lay1_eq, List.set_append_right _ _ (by simp), List.length_replicate, List.set_append_right _ _ (by rw [Wi.putL_length]; omega), Wi.putL_length, show List.replicate 104 (0 : UInt8) = 0 :: List.replicate 103 0 from rfl, show 24 - 16 - 8 = 0 from rfl, List.set_cons_zero]
  simp
theorem lay3_eq (gen : Nat) (b : List UInt8) : lay3 gen b = List.replicate 16 0 ++ restL gen b := by
  have hl : (List.replicate 16 (0 : UInt8) ++ Wi.putL gen 8 ++ [UInt8.ofNat b.length]).length = 25 := by simp [Wi.putL_length]
  rw [lay3, lay2_eq, splice, List.take_append_of_le_length (by omega), List.take_of_length_le (by omega), List.drop_append, hl, List.drop_eq_nil_of_le (by omega), List.nil_append, List.drop_replicate, restL, show 25 + b.length - 25 = b.length by omega]
  simp
theorem lay1_length (gen : Nat) : (lay1 gen).length = 128 := by rw [lay1_eq]; simp [Wi.putL_length]
theorem lay2_length (gen : Nat) (b : List UInt8) : (lay2 gen b).length = 128 := by rw [lay2, List.length_set, lay1_length]
theorem lay3_length {gen : Nat} {b : List UInt8} (h : b.length ≤ 103) : (lay3 gen b).length = 128 := by rw [lay3_eq, List.length_append, restL_length h]; simp
theorem lay3_drop (gen : Nat) (b : List UInt8) : (lay3 gen b).drop 16 = restL gen b := by
  rw [lay3_eq, List.drop_append, List.drop_eq_nil_of_le (by simp)]; simp
theorem lay4_eq {f : List UInt8 → List UInt8 → List UInt8} (hf : ∀ k l, (f k l).length = 16) (a : Int) (gen : Nat) (b : List UInt8) : splice (lay3 gen b) 0 (sumS f a.toNat (restL gen b)) = sealedS f a gen b := by
  rw [splice, List.take_zero, List.nil_append, sumS_length hf, sealedS, lay3_drop]
end Go.Proofs.Ytnplhagfmfggcaa.Sx
/-
  The contract of sumOf: the sum of a place and of what stands behind the sum.
-/
namespace Go.Proofs.Ytnplhagfmfggcaa.Sx
open Go.RowKit Kd
attribute [local go_sem ↓] Go.wp_at_zero Go.wp_at_succ
theorem exec_buildS {P : Program} {w : World} {r : Operand → Value} {o : Oper} {v : Value} (t : TypeId) (parts : Array (Nat × Operand)) (ho : o.op = .build t parts) (h : (Instr.build t (parts.map fun (i, x) => (i, r x))).run P w = .ok v w) :
    (execOp r o).run P w = .ok (.value v) w := by
  unfold execOp
  simp only [ho, Sem.run_bind, h, Result.andThen_ok, Sem.run_pure]
theorem blk_lt {w w' : World} {q B : Nat} {cs : Array Value} {A : TypeId} (h : Blk w q cs A) (hb : Below B w w') (hq : q < B) : Blk w' q cs A := (hb.block q hq).trans h
/-- A part of a block of bytes reads as such. -/
theorem rd_part {w : World} {g : Nat} {l : List UInt8} {t : TypeId} (h : Blk w g (bva l) t) (o : Nat) : Rd w.heap.size w (some ⟨g, o, none⟩) (bv (l.drop o)) := fun k u hu => by
  refine ⟨_, rfl, h.lt, ?_⟩
  have e : (⟨g, o, none⟩ : Addr).add k = ⟨g, o + k, none⟩ := by
    unfold Addr.add; split
    · rename_i h; rw [h]; rfl
    · rfl
  rw [e, h.cell, bva, List.getElem?_toArray]
  rw [bv_drop, List.getElem?_drop] at hu
  exact hu
theorem info_sec' : (Try.prog.info? 38).map (·.size) = some 128 := by kernel_rfl
set_option maxRecDepth 100000 in
set_option maxHeartbeats 6400000 in
theorem sumof_any (ci : SCiph) (a : Nat) (ha : a < 4096) (s : List UInt8) (hs : s.length = 128) (w : World) :
    Calls Try.prog 120 #[ci.v, .int .i64 a, .agg (bva s)] w (RetB (.agg (bva (sumS ci.f a (s.drop 16)))) w) := by
  obtain ⟨z, hz0⟩ : ∃ z : List UInt8, z = List.replicate 16 0 := ⟨_, rfl⟩
  have hz : ∀ W, (zeroValue 200).run Try.prog W = .ok (.agg (bva z)) W := fun _ => by rw [hz0]; kernel_rfl
  have HZ3 := Lib.hid (show z.length = 16 by rw [hz0]; rfl)
  have HBK := Lib.hid (show ∀ W, (Instr.build 114 #[]).run Try.prog W = .ok (.agg (bva key0)) W from fun _ => by kernel_rfl)
  obtain ⟨w2, hw2⟩ : ∃ w2, w2 = (w.alloc (.cells (bva s) 38)).alloc (.cells (bva z) 200) := ⟨_, rfl⟩
  have B1 := Lib.hid (show Blk w2 w.heap.size (bva s) 38 from by rw [hw2]; exact heap_alloc2_old _ _ _)
  have B2 := Lib.hid (show Blk w2 (w.heap.size + 1) (bva z) 200 from by rw [hw2]; exact heap_alloc2_new _ _ _)
  have BB := Lib.hid (show Below w.heap.size w w2 from by rw [hw2]; exact ((Below.refl _ _).alloc (Nat.le_refl _) _).alloc (by simp) _)
  have HS2 := Lib.hid (show w2.heap.size = w.heap.size + 1 + 1 by rw [hw2]; simp)
  obtain ⟨O, hO⟩ : ∃ O, O = sumS ci.f a (s.drop 16) := ⟨_, rfl⟩
  have HO := Lib.hid hO
  have HO3 := Lib.hid (show O.length = 16 by rw [hO]; exact ci.len _ _)
  have HIO : Hid ((Try.prog.info? 200).map (·.size) = some (bva O).size) := by rw [bva_size, HO3.out]; exact info_sum
  have HS := Lib.hid hs
  have HA := Lib.hid ha
  obtain ⟨r, hr⟩ : ∃ r, r = s.drop 16 := ⟨_, rfl⟩
  have HR3 := Lib.hid (show r.length = 112 by rw [hr, List.length_drop, hs])
  have HRR := Lib.hid hr
  have wa : IntKind.u64.wrap (a : Int) = (a : Int) := IntWalk.u64_in _ (by omega)
  have hM := ci.hM
  have hN := ci.hN
  have hC := ci.hC
  obtain ⟨T, hT⟩ : ∃ T, T = ci.T := ⟨_, rfl⟩
  obtain ⟨x, hx⟩ : ∃ x, x = ci.x := ⟨_, rfl⟩
  obtain ⟨FF, hF⟩ : ∃ FF, FF = ci.F := ⟨_, rfl⟩
  have hcs := ci.hS
  have HV : ci.v = .iface T x := by rw [hT, hx]; rfl
  rw [← hx, ← hF] at hcs
  rw [← hT, ← hx, ← hF] at hM
  rw [← hT, ← hx] at hN
  have HN := Lib.hid hN
  rw [← hF] at hC
  have HCS := Lib.hid hcs
  rw [← hO, HV]
  clear hz0 hO hs ha hr hT hx hF hcs HV hN
  go_enter Try.func120, Try.ntmps120
  go_wp2_with fail
  rw [← hw2]
  clear hw2
  refine wp_region_held_drew (S := (fun w' => Below w.heap.size w w' ∧ Blk w' w.heap.size (bva s) 38 ∧ ∃ l : List UInt8, l.length = 16 ∧ Blk w' (w.heap.size + 1) (bva l) 200)) (by kernel_rfl) ⟨BB.out.drew, (show Blk _ _ _ _ from B1.out), z, HZ3.out, (show Blk _ _ _ _ from B2.out)⟩ (fun hh => ?_)
  have HH := Lib.hid hh
  clear hh
  refine wpAnyH_take (i := 0) (v := ?vS0) rfl (by kernel_rfl) (by kernel_rfl) (by kernel_rfl) (fun _ _ _ h => h) (Or.inl ⟨by rfl, fun w' _ => ?yS0⟩) HH.out ?_
  case yS0 => (go_simp; try with_reducible rfl)
  refine wpAnyH_take (i := 1) (v := .agg (bva key0)) rfl (by kernel_rfl) (by kernel_rfl) (by kernel_rfl) (fun _ _ _ h => h) (Or.inl ⟨by rfl, fun w' _ => ?yb1⟩) HH.out ?_
  case yb1 => exact exec_buildS 114 #[] rfl (by simp only [List.map_toArray, List.map_nil]; exact HBK.out _)
  try simp only [List.getElem_toArray, List.getElem_cons_succ, List.getElem_cons_zero, Act.put, List.setIfInBounds_toArray, List.set_cons_zero, List.set_cons_succ]
  refine wpAnyH_take (i := 2) (v := ?vS2) rfl (by kernel_rfl) (by kernel_rfl) (by kernel_rfl) (fun _ _ _ h => h) (Or.inl ⟨by rfl, fun w' _ => ?yS2⟩) HH.out ?_
  case yS2 => (go_simp; try with_reducible rfl)
  refine wpAnyH_take (i := 3) (v := ?vS3) rfl (by kernel_rfl) (by kernel_rfl) (by kernel_rfl) (fun _ _ _ h => h) (Or.inl ⟨by rfl, fun w' _ => ?yS3⟩) HH.out ?_
  case yS3 => (go_simp; try with_reducible rfl)
  refine wpAnyH_take (i := 5) (v := ?vS5) rfl (by kernel_rfl) (by kernel_rfl) (by kernel_rfl) (fun _ _ _ h => h) (Or.inl ⟨by rfl, fun w' _ => ?yS5⟩) HH.out ?_
  case yS5 => (go_simp; try with_reducible rfl)
  try simp only [List.getElem_toArray, List.getElem_cons_succ, List.getElem_cons_zero, Act.put, List.setIfInBounds_toArray, List.set_cons_zero, List.set_cons_succ]
  refine wpAnyH_take (i := 7) (v := ?vS7) rfl (by kernel_rfl) (by kernel_rfl) (by kernel_rfl) (fun _ _ _ h => h) (Or.inl ⟨by rfl, fun w' _ => ?yS7⟩) HH.out ?_
  case yS7 => (go_simp; try with_reducible rfl)
  refine wpAnyH_take (i := 8) (v := ?vS8) rfl (by kernel_rfl) (by kernel_rfl) (by kernel_rfl) (fun _ _ _ h => h) (Or.inl ⟨by rfl, fun w' _ => ?yS8⟩) HH.out ?_
  case yS8 => (go_simp; rw [HN.out _ (by decide)]; rfl)
  refine wpAnyH_take (i := 9) (v := ?vS9) rfl (by kernel_rfl) (by kernel_rfl) (by kernel_rfl) (fun _ _ _ h => h) (Or.inl ⟨by rfl, fun w' _ => ?yS9⟩) HH.out ?_
  case yS9 => (go_simp; try with_reducible rfl)
  try simp only [List.getElem_toArray, List.getElem_cons_succ, List.getElem_cons_zero, Act.put, List.setIfInBounds_toArray, List.set_cons_zero, List.set_cons_succ]
  refine wpAnyH_ready (rs := [4]) (by kernel_rfl) (by simp) (AllReadyH.cons rfl (fun K hK => ?_) AllReadyH.nil)
  go_simp
  refine (Wi.wput_in (a : Int) 4 _ (by omega) (by have := HA.out; omega) (by omega) (by omega)).mono ?_
  rintro e w3 ⟨A3, n3, c3, rfl, ho3, hb3⟩
  obtain rfl : 4 = n3 := by have := own_blen ho3; rw [Wi.putL_length] at this; exact this
  have O3 := Lib.hid ho3
  have X1 := Lib.hid (Blk.below (w := w2.drew) B1.out hb3)
  have X2 := Lib.hid (Blk.below (w := w2.drew) B2.out hb3)
  have XB := Lib.hid (BB.out.drew.trans (hb3.mono BB.out.size))
  have HZ4 := Lib.hid (show w.heap.size + 1 + 1 ≤ w3.heap.size from by have := hb3.size; have := HS2.out; simp at *; omega)
  clear ho3 hb3
  go_simp
  refine hK.out _ _ ⟨XB.out, X1.out, z, HZ3.out, X2.out⟩ (fun hh => ?_)
  have HH' := Lib.hid hh
  clear hh hK K HH B1 B2 BB
  have HH := Lib.hid HH'.out
  clear HH'
  refine wpAnyH_ready (rs := [6]) (by kernel_rfl) (by simp) (AllReadyH.cons rfl (fun K hK => ?_) AllReadyH.nil)
  refine step_app _ (by rfl) (.tmp 11) (.tmp 12) _ rfl Wi.bytesElt (base := w2.heap.size) (v := .slice A3 4 c3) rfl (own_more O3.out (by simp)) (m := 112) rfl ((rd_part X1.out 16)) (by rw [bv_length, ← HRR.out, HR3.out]) (bv_one _) (by omega) (by have := HZ4.out; have := HS2.out; omega) ?_
  intro A4 c4 w4 ho4 hg4 _
  rw [← HRR.out, ← bv_append] at ho4
  have O4 := Lib.hid ho4
  have hk : Below w2.heap.size w3 w4 := app_below (Below.refl _ _) (own_more O3.out (by simp)) hg4 (Nat.le_refl _) (by have := HZ4.out; have := HS2.out; omega)
  have Y1 := Lib.hid (blk_lt X1.out hk (by have := HS2.out; omega))
  have Y2 := Lib.hid (blk_lt X2.out hk (by have := HS2.out; omega))
  have YB := Lib.hid (XB.out.trans (hk.mono (by have := HS2.out; omega)))
  clear ho4 hg4 hk
  refine hK.out _ _ ⟨YB.out, Y1.out, z, HZ3.out, Y2.out⟩ (fun hh => ?_)
  have HH' := Lib.hid hh
  clear hh hK K HH X1 X2 XB
  have HH := Lib.hid HH'.out
  clear HH'
  try simp only [List.getElem_toArray, List.getElem_cons_succ, List.getElem_cons_zero, Act.put, List.setIfInBounds_toArray, List.set_cons_zero, List.set_cons_succ]
  refine wpAnyH_ready (rs := [10]) (by kernel_rfl) (by simp) (AllReadyH.cons rfl (fun K hK => ?_) AllReadyH.nil)
  go_simp
  refine (HCS.out key0 key0_length A4 (4 + 112) c4 _ w4 (by have := own_blen O4.out; exact this) (by omega) (Rd.own O4.out)).mono ?_
  rintro e w5 ⟨rfl, bw⟩
  rw [show ci.f key0 (Wi.putL ((a : Int).toNat) (4 : Int).toNat ++ r) = O by rw [HO.out, sumS, HRR.out]; rfl]
  have Z1 := Lib.hid (Y1.out.below bw)
  have Z2 := Lib.hid (Y2.out.below bw)
  have ZB := Lib.hid (YB.out.trans (bw.mono YB.out.size))
  clear bw
  go_simp
  refine hK.out _ _ ⟨ZB.out, Z1.out, z, HZ3.out, Z2.out⟩ (fun hh => ?_)
  have HH' := Lib.hid hh
  clear hh hK K HH Y1 Y2 YB
  have HH := Lib.hid HH'.out
  clear HH'
  try simp only [List.getElem_toArray, List.getElem_cons_succ, List.getElem_cons_zero, Act.put, List.setIfInBounds_toArray, List.set_cons_zero, List.set_cons_succ]
  refine wpAnyH_ready (rs := [11]) (by kernel_rfl) (by simp) (AllReadyH.cons rfl (fun K hK => ?_) AllReadyH.nil)
  rw [if_pos (by rfl)]
  refine wp_store_row 200 (.tmp 6) (.tmp 17) rfl (w.heap.size + 1) (bva O) rfl rfl 200 (bva z) Z2.out HIO.out (by rw [bva_size, bva_size, HO3.out, HZ3.out]) (bva_one _) ?_
  have hb6 : Below w.heap.size w (w5.setRow (w.heap.size + 1) (bva O)) := below_setRow ZB.out (by omega) _
  have h6 : Blk (w5.setRow (w.heap.size + 1) (bva O)) (w.heap.size + 1) (bva O) 200 := setRow_heap _ _ _ _ _ _ Z2.out
  have HB6 := Lib.hid hb6
  have H6 := Lib.hid h6
  refine hK.out _ _ ⟨hb6, (by unfold Blk; rw [setRow_other _ _ _ _ (by omega)]; exact Z1.out), O, HO3.out, h6⟩ (fun hh => ?_)
  clear hh hK K HH hb6 h6
  try simp only [List.getElem_toArray, List.getElem_cons_succ, List.getElem_cons_zero, Act.put]
  refine wpAnyH_done (by kernel_rfl) ?_ _
  go_wp2_with fail
  exact bodyPost_ret (v := .agg (bva O)) (results_cell_row Try.results120 _ _ (w.heap.size + 1) 200 (bva O) (0, 0) _ rfl H6.out Try.underlying200 rfl HIO.out) rfl ⟨rfl, HB6.out⟩
end Go.Proofs.Ytnplhagfmfggcaa.Sx
/-
  The contract of sector.Pack, by any cipher.
-/
namespace Go.Proofs.Ytnplhagfmfggcaa.Sx
open Go.RowKit Kd
attribute [local go_sem ↓] Go.wp_at_zero Go.wp_at_succ
theorem eq_nil_held (T : TypeId) (x : Value) (W : World) : (binOp .eql 164 (.iface T x) .nilIface).run Try.prog W = .ok (.bool false) W :=
  run_eql_held_nil W 164 T x (by kernel_rfl)
theorem eq_nil_nil (W : World) : (binOp .eql 164 .nilIface .nilIface).run Try.prog W = .ok (.bool true) W :=
  run_eql_nil_nil W 164 (by kernel_rfl)
theorem rd_srcS {B : Nat} {w : World} {A : Option Addr} {xs : List Value} (h : Rd B w A xs) (hl : 0 < xs.length) : ∃ ad, A = some ad ∧ ∀ j v, xs[j]? = some v → w.cell? (ad.add j) = some v := by
  obtain ⟨ad, rfl, _, _⟩ := h 0 _ (List.getElem?_eq_getElem hl)
  refine ⟨ad, rfl, fun j v hv => ?_⟩
  obtain ⟨ad', e, _, hc⟩ := h j v hv
  injection e with e
  subst e
  exact hc
theorem rd_bvS {w : World} {g : Nat} {l : List UInt8} {t : TypeId} (h : Blk w g (bva l) t) : Rd w.heap.size w (some ⟨g, 0, none⟩) (bv l) := rd_part h 0
theorem info5S : (Try.prog.info? 5).map (·.size) = some 1 := by kernel_rfl
set_option maxRecDepth 100000 in
set_option maxHeartbeats 1600000 in
theorem pack_nil (a : Int) (gen : Int) (A : Option Addr) (n c : Nat) (w : World)  :
    Calls Try.prog 90 #[.nilIface, .int .i64 a, .int .u64 gen, .slice A n c] w (RetB (.tuple #[.agg (bva zeroS), .bool false]) w) := by
  obtain ⟨z, hz0⟩ : ∃ z : List UInt8, z = zeroS := ⟨_, rfl⟩
  have hz : ∀ W, (zeroValue 38).run Try.prog W = .ok (.agg (bva z)) W := fun _ => by rw [hz0]; kernel_rfl
  have HBZ := Lib.hid (show ∀ W, (Instr.build 38 #[]).run Try.prog W = .ok (.agg (bva z)) W from fun _ => by rw [hz0]; kernel_rfl)
  have HZ3 := Lib.hid (show z.length = 128 by rw [hz0]; exact zeroS_length)
  have HIZ : Hid ((Try.prog.info? 38).map (·.size) = some (bva z).size) := by rw [bva_size, HZ3.out]; exact info_sec
  rw [← hz0]
  clear hz0
  have hq := eq_nil_nil
  go_enter Try.func90, Try.ntmps90
  go_wp2_with (first
    | (refine wpList_build rfl 38 #[] rfl (v := .agg (bva z)) ?hbld ?_; case hbld => exact HBZ.out _)
    | (refine wpList_store_row rfl 38 (.tmp 8) (.tmp 27) rfl w.heap.size (bva z) rfl rfl 38 (bva z) (heap_alloc_new _ _) HIZ.out (by rfl) (bva_one _) ?_))
  exact bodyPost_ret (v := .tuple #[.agg (bva z), .bool false]) (results_ct8 Try.results90 _ _ w.heap.size 38 (bva z) _ rfl (setRow_heap _ _ _ _ _ _ (heap_alloc_new _ _)) Try.underlying38 rfl HIZ.out) rfl ⟨rfl, below_setRow ((Below.refl _ _).alloc (Nat.le_refl _) _) (Nat.le_refl _) _⟩
set_option maxRecDepth 100000 in
set_option maxHeartbeats 1600000 in
theorem pack_no0 (a : Int) (gen : Int) (A : Option Addr) (n c : Nat) (w : World) (T : TypeId) (x : Value) (h : a < 0) :
    Calls Try.prog 90 #[.iface T x, .int .i64 a, .int .u64 gen, .slice A n c] w (RetB (.tuple #[.agg (bva zeroS), .bool false]) w) := by
  obtain ⟨z, hz0⟩ : ∃ z : List UInt8, z = zeroS := ⟨_, rfl⟩
  have hz : ∀ W, (zeroValue 38).run Try.prog W = .ok (.agg (bva z)) W := fun _ => by rw [hz0]; kernel_rfl
  have HBZ := Lib.hid (show ∀ W, (Instr.build 38 #[]).run Try.prog W = .ok (.agg (bva z)) W from fun _ => by rw [hz0]; kernel_rfl)
  have HZ3 := Lib.hid (show z.length = 128 by rw [hz0]; exact zeroS_length)
  have HIZ : Hid ((Try.prog.info? 38).map (·.size) = some (bva z).size) := by rw [bva_size, HZ3.out]; exact info_sec
  rw [← hz0]
  clear hz0
  have hq := eq_nil_held T x
  go_enter Try.func90, Try.ntmps90
  go_wp2_with (first
    | (refine wpList_build rfl 38 #[] rfl (v := .agg (bva z)) ?hbld ?_; case hbld => exact HBZ.out _)
    | (refine wpList_store_row rfl 38 (.tmp 8) (.tmp 27) rfl w.heap.size (bva z) rfl rfl 38 (bva z) (heap_alloc_new _ _) HIZ.out (by rfl) (bva_one _) ?_))
  exact bodyPost_ret (v := .tuple #[.agg (bva z), .bool false]) (results_ct8 Try.results90 _ _ w.heap.size 38 (bva z) _ rfl (setRow_heap _ _ _ _ _ _ (heap_alloc_new _ _)) Try.underlying38 rfl HIZ.out) rfl ⟨rfl, below_setRow ((Below.refl _ _).alloc (Nat.le_refl _) _) (Nat.le_refl _) _⟩
set_option maxRecDepth 100000 in
set_option maxHeartbeats 1600000 in
theorem pack_no1 (a : Int) (gen : Int) (A : Option Addr) (n c : Nat) (w : World) (T : TypeId) (x : Value) (h0 : 0 ≤ a) (h : 4096 ≤ a) :
    Calls Try.prog 90 #[.iface T x, .int .i64 a, .int .u64 gen, .slice A n c] w (RetB (.tuple #[.agg (bva zeroS), .bool false]) w) := by
  obtain ⟨z, hz0⟩ : ∃ z : List UInt8, z = zeroS := ⟨_, rfl⟩
  have hz : ∀ W, (zeroValue 38).run Try.prog W = .ok (.agg (bva z)) W := fun _ => by rw [hz0]; kernel_rfl
  have HBZ := Lib.hid (show ∀ W, (Instr.build 38 #[]).run Try.prog W = .ok (.agg (bva z)) W from fun _ => by rw [hz0]; kernel_rfl)
  have HZ3 := Lib.hid (show z.length = 128 by rw [hz0]; exact zeroS_length)
  have HIZ : Hid ((Try.prog.info? 38).map (·.size) = some (bva z).size) := by rw [bva_size, HZ3.out]; exact info_sec
  rw [← hz0]
  clear hz0
  have hq := eq_nil_held T x
  go_enter Try.func90, Try.ntmps90
  go_wp2_with (first
    | (refine wpList_build rfl 38 #[] rfl (v := .agg (bva z)) ?hbld ?_; case hbld => exact HBZ.out _)
    | (refine wpList_store_row rfl 38 (.tmp 8) (.tmp 27) rfl w.heap.size (bva z) rfl rfl 38 (bva z) (heap_alloc_new _ _) HIZ.out (by rfl) (bva_one _) ?_))
  exact bodyPost_ret (v := .tuple #[.agg (bva z), .bool false]) (results_ct8 Try.results90 _ _ w.heap.size 38 (bva z) _ rfl (setRow_heap _ _ _ _ _ _ (heap_alloc_new _ _)) Try.underlying38 rfl HIZ.out) rfl ⟨rfl, below_setRow ((Below.refl _ _).alloc (Nat.le_refl _) _) (Nat.le_refl _) _⟩
set_option maxRecDepth 100000 in
set_option maxHeartbeats 1600000 in
theorem pack_no2 (a : Int) (gen : Int) (A : Option Addr) (n c : Nat) (w : World) (T : TypeId) (x : Value) (h0 : 0 ≤ a) (h1 : a < 4096) (h : 103 < n) :
    Calls Try.prog 90 #[.iface T x, .int .i64 a, .int .u64 gen, .slice A n c] w (RetB (.tuple #[.agg (bva zeroS), .bool false]) w) := by
  obtain ⟨z, hz0⟩ : ∃ z : List UInt8, z = zeroS := ⟨_, rfl⟩
  have hz : ∀ W, (zeroValue 38).run Try.prog W = .ok (.agg (bva z)) W := fun _ => by rw [hz0]; kernel_rfl
  have HBZ := Lib.hid (show ∀ W, (Instr.build 38 #[]).run Try.prog W = .ok (.agg (bva z)) W from fun _ => by rw [hz0]; kernel_rfl)
  have HZ3 := Lib.hid (show z.length = 128 by rw [hz0]; exact zeroS_length)
  have HIZ : Hid ((Try.prog.info? 38).map (·.size) = some (bva z).size) := by rw [bva_size, HZ3.out]; exact info_sec
  rw [← hz0]
  clear hz0
  have hq := eq_nil_held T x
  have hd : decide ((103 : Int) < (n : Int)) = true := by simp; omega
  go_enter Try.func90, Try.ntmps90
  go_wp2_with (first
    | (refine wpList_build rfl 38 #[] rfl (v := .agg (bva z)) ?hbld ?_; case hbld => exact HBZ.out _)
    | (refine wpList_store_row rfl 38 (.tmp 8) (.tmp 27) rfl w.heap.size (bva z) rfl rfl 38 (bva z) (heap_alloc_new _ _) HIZ.out (by rfl) (bva_one _) ?_))
  exact bodyPost_ret (v := .tuple #[.agg (bva z), .bool false]) (results_ct8 Try.results90 _ _ w.heap.size 38 (bva z) _ rfl (setRow_heap _ _ _ _ _ _ (heap_alloc_new _ _)) Try.underlying38 rfl HIZ.out) rfl ⟨rfl, below_setRow ((Below.refl _ _).alloc (Nat.le_refl _) _) (Nat.le_refl _) _⟩
set_option maxRecDepth 100000 in
set_option maxHeartbeats 6400000 in
theorem pack_yes (ci : SCiph) (k : Nat) (hk : k < 4096) (gen : Nat) (hg : gen < 18446744073709551616) (A : Option Addr) (n c : Nat) (l : List UInt8) (w : World) (hl : l.length = n) (hn : n ≤ 103) (hr : Rd w.heap.size w A (bv l)) :
    Calls Try.prog 90 #[ci.v, .int .i64 k, .int .u64 gen, .slice A n c] w (RetB (.tuple #[.agg (bva (sealedS ci.f k gen l)), .bool true]) w) := by
  obtain ⟨z, hz0⟩ : ∃ z : List UInt8, z = zeroS := ⟨_, rfl⟩
  have hz : ∀ W, (zeroValue 38).run Try.prog W = .ok (.agg (bva z)) W := fun _ => by rw [hz0]; kernel_rfl
  have HBZ := Lib.hid (show ∀ W, (Instr.build 38 #[]).run Try.prog W = .ok (.agg (bva z)) W from fun _ => by rw [hz0]; kernel_rfl)
  have HZ3 := Lib.hid (show z.length = 128 by rw [hz0]; exact zeroS_length)
  have HIZ : Hid ((Try.prog.info? 38).map (·.size) = some (bva z).size) := by rw [bva_size, HZ3.out]; exact info_sec
  obtain ⟨y, hy0⟩ : ∃ y : List UInt8, y = List.replicate 16 0 := ⟨_, rfl⟩
  have hy : ∀ W, (zeroValue 200).run Try.prog W = .ok (.agg (bva y)) W := fun _ => by rw [hy0]; kernel_rfl
  have HY3 := Lib.hid (show y.length = 16 by rw [hy0]; rfl)
  obtain ⟨w2, hw2⟩ : ∃ w2, w2 = (w.alloc (.cells (bva z) 38)).alloc (.cells (bva z) 38) := ⟨_, rfl⟩
  have B1 := Lib.hid (show Blk w2 w.heap.size (bva z) 38 from by rw [hw2]; exact heap_alloc2_old _ _ _)
  have B2 := Lib.hid (show Blk w2 (w.heap.size + 1) (bva z) 38 from by rw [hw2]; exact heap_alloc2_new _ _ _)
  have BB := Lib.hid (show Below w.heap.size w w2 from by rw [hw2]; exact ((Below.refl _ _).alloc (Nat.le_refl _) _).alloc (by simp) _)
  have HS2 := Lib.hid (show w2.heap.size = w.heap.size + 1 + 1 by rw [hw2]; simp)
  obtain ⟨O, hO⟩ : ∃ O, O = sumS ci.f k (restL gen l) := ⟨_, rfl⟩
  have HO3 := Lib.hid (show O.length = 16 by rw [hO]; exact ci.len _ _)
  have HIO : Hid ((Try.prog.info? 200).map (·.size) = some (bva O).size) := by rw [bva_size, HO3.out]; exact info_sum
  obtain ⟨R, hR⟩ : ∃ R, R = sealedS ci.f k gen l := ⟨_, rfl⟩
  have HR0 := Lib.hid (show splice (lay3 gen l) 0 O = R by rw [hO, hR]; exact lay4_eq ci.len k gen l)
  have HR3 := Lib.hid (show R.length = 128 by rw [hR]; exact sealedS_length ci.len (by omega))
  have HIR : Hid ((Try.prog.info? 38).map (·.size) = some (bva R).size) := by rw [bva_size, HR3.out]; exact info_sec
  obtain ⟨m, hm⟩ : ∃ m, m = lay3 gen l := ⟨_, rfl⟩
  have HM3 := Lib.hid (show m.length = 128 by rw [hm]; exact lay3_length (by omega))
  have HM0 := Lib.hid (show splice (lay2 gen l) 25 l = m by rw [hm]; rfl)
  have HIM : Hid ((Try.prog.info? 38).map (·.size) = some (bva m).size) := by rw [bva_size, HM3.out]; exact info_sec
  have HCS := Lib.hid (show ∀ W, Calls Try.prog 120 #[ci.v, .int .i64 k, .agg (bva m)] W (RetB (.agg (bva O)) W) from fun W => by
    have h := sumof_any ci k hk m HM3.out W
    rw [hm, lay3_drop] at h
    rw [hO, hm]; exact h)
  rw [← hm] at HR0
  have HZ0 := Lib.hid (show splice z 16 (Wi.putL gen 8) = lay1 gen by rw [hz0]; rfl)
  have HL2 := Lib.hid (show (lay1 gen).set 24 (UInt8.ofNat n) = lay2 gen l by rw [lay2, hl])
  have HG := Lib.hid (show U64 gen from hg)
  have HL := Lib.hid hl
  have HR := Lib.hid hr
  have hq := eq_nil_held ci.T ci.x
  obtain ⟨T, hT⟩ : ∃ T, T = ci.T := ⟨_, rfl⟩
  obtain ⟨x, hx⟩ : ∃ x, x = ci.x := ⟨_, rfl⟩
  have HV : ci.v = .iface T x := by rw [hT, hx]; rfl
  rw [← hT, ← hx] at hq
  rw [HV] at HCS
  rw [← hR, HV]
  have k0 : (0 : Int) ≤ (k : Int) := by omega
  have k1 : (k : Int) < 4096 := by omega
  have hd : decide ((103 : Int) < (n : Int)) = false := by simp; omega
  have wn : IntKind.u8.wrap (n : Int) = (n : Int) := IntWalk.u8_in _ (by omega)
  have HN := Lib.hid hn
  clear hz0 hy0 hO hR hm hT hx HV hg hl hr hk hn
  go_enter Try.func90, Try.ntmps90
  go_wp2_with fail
  rw [← hw2]
  clear hw2
  refine wp_region_held_drew (S := (fun w' => Below w.heap.size w w' ∧ Blk w' w.heap.size (bva z) 38 ∧ ∃ l : List UInt8, l.length = 128 ∧ Blk w' (w.heap.size + 1) (bva l) 38)) (by kernel_rfl) ⟨BB.out.drew, (show Blk _ _ _ _ from B1.out), z, HZ3.out, (show Blk _ _ _ _ from B2.out)⟩ (fun hh => ?_)
  have HH := Lib.hid hh
  clear hh
  refine wpAnyH_take (i := 0) (v := ?vP0) rfl (by kernel_rfl) (by kernel_rfl) (by kernel_rfl) (fun _ _ _ h => h) (Or.inl ⟨by rfl, fun w' _ => ?yP0⟩) HH.out ?_
  case yP0 => (go_simp; try with_reducible rfl)
  refine wpAnyH_take (i := 1) (v := ?vP1) rfl (by kernel_rfl) (by kernel_rfl) (by kernel_rfl) (fun _ _ _ h => h) (Or.inl ⟨by rfl, fun w' _ => ?yP1⟩) HH.out ?_
  case yP1 => (go_simp; try with_reducible rfl)
  try simp only [List.getElem_toArray, List.getElem_cons_succ, List.getElem_cons_zero, Act.put, List.setIfInBounds_toArray, List.set_cons_zero, List.set_cons_succ]
  refine wpAnyH_ready (rs := [2]) (by kernel_rfl) (by simp) (AllReadyH.cons rfl (fun K hK => ?_) AllReadyH.nil)
  go_simp
  refine (Wi.wput_in (gen : Int) 8 _ (by omega) HG.out.int (by omega) (by omega)).mono ?_
  rintro e w3 ⟨A3, n3, c3, rfl, ho3, hb3⟩
  rw [show ((gen : Int)).toNat = gen from Int.toNat_natCast gen, show (8 : Int).toNat = 8 from rfl] at ho3
  obtain rfl : 8 = n3 := by have := own_blen ho3; rw [Wi.putL_length] at this; exact this
  have O3 := Lib.hid ho3
  have X1 := Lib.hid (Blk.below (w := w2.drew) B1.out hb3)
  have X2 := Lib.hid (Blk.below (w := w2.drew) B2.out hb3)
  have XB := Lib.hid (BB.out.drew.trans (hb3.mono BB.out.size))
  have XX := Lib.hid (show Below w2.heap.size w2 w3 from (Below.refl _ _).drew.trans hb3)
  clear ho3 hb3
  go_simp
  refine hK.out _ _ ⟨XB.out, X1.out, z, HZ3.out, X2.out⟩ (fun hh => ?_)
  have HH' := Lib.hid hh
  clear hh hK K HH B1 B2 BB
  have HH := Lib.hid HH'.out
  clear HH'
  refine wpAnyH_ready (rs := [3]) (by kernel_rfl) (by simp) (AllReadyH.cons rfl (fun K hK => ?_) AllReadyH.nil)
  refine step_copy_splice (by rfl) (.tmp 28) (.tmp 30) 81 81 rfl 5 Try.underlying81 info5S (some ⟨w.heap.size + 1, 16, none⟩) A3 8 112 8 c3 rfl rfl (w.heap.size + 1) 16 (bv z) 38 X2.out (bv (Wi.putL gen 8)) (by rw [bv_length, Wi.putL_length]; rfl) (fun h => ⟨rfl, rd_srcS (Rd.own O3.out) h⟩) (by rw [bv_length, bv_length, Wi.putL_length, HZ3.out]; omega) (bv_one _) (w.heap.size + 1) w3 (Below.refl _ _) (Nat.le_refl _) ?_
  intro w4 hc4 hb4
  rw [splice_bv, HZ0.out] at hc4
  have Y1 := Lib.hid (blk_lt X1.out hb4 (by omega))
  have Y2 := Lib.hid (show Blk w4 (w.heap.size + 1) (bva (lay1 gen)) 38 from hc4.out)
  have YB := Lib.hid (XB.out.trans (hb4.mono (by omega)))
  clear hc4 hb4
  refine hK.out _ _ ?keep (fun hh => ?_)
  case keep => exact ⟨YB.out, Y1.out, lay1 gen, lay1_length gen, Y2.out⟩
  clear hh hK K HH X1 X2 XB XX O3
  try simp only [List.getElem_toArray, List.getElem_cons_succ, List.getElem_cons_zero, Act.put, List.setIfInBounds_toArray, List.set_cons_zero, List.set_cons_succ]
  refine wpAnyH_done (by kernel_rfl) ?_ _
  have Y24 := Lib.hid (Y2.out.cellb (k := 24) (by rw [lay1_length]; omega))
  have YF := Lib.hid (Y2.out.free 24)
  have y24 := Y24.out
  have yf := YF.out
  go_wp2_with (show wpList _ _ _ ({ dst := some 38, op := .call { callee := .builtin .copy, args := #[.tmp 36, .tmp 37], argTypes := _ }, type := _, pos := _, after := _, guard := _ } :: _) _ _; apply Classical.byContradiction; intro hneg)
  refine hneg ?_
  clear hneg
  obtain ⟨w5, hw5⟩ : ∃ w5, w5 = World.setCell w4 ⟨w.heap.size + 1, 24, none⟩ (.int .u8 (n : Int)) := ⟨_, rfl⟩
  rw [← hw5]
  have Z1 := Lib.hid (show Blk w5 w.heap.size (bva z) 38 from by rw [hw5]; exact Y1.out.other (by omega) _ _)
  have Z2 := Lib.hid (show Blk w5 (w.heap.size + 1) (bva (lay2 gen l)) 38 from by rw [hw5, ← HL2.out]; exact Y2.out.setb 24 _ (int_eq (by rw [UInt8.toNat_ofNat']; have := HN.out; omega)))
  have ZB := Lib.hid (show Below w.heap.size w w5 from by rw [hw5]; exact YB.out.setCell (by simp) _)
  clear y24 yf Y24 YF Y1 Y2 YB hw5
  refine wpList_copy_splice rfl (.tmp 36) (.tmp 37) 81 81 rfl 5 Try.underlying81 info5S (some ⟨w.heap.size + 1, 25, none⟩) A 103 103 n c rfl rfl (w.heap.size + 1) 25 (bv (lay2 gen l)) 38 Z2.out (bv l) (by rw [bv_length, HL.out]; exact (Nat.min_eq_left HN.out).symm) (fun h => ⟨rfl, rd_srcS (HR.out.below ZB.out) h⟩) (by rw [bv_length, bv_length, lay2_length, HL.out]; have := HN.out; omega) (bv_one _) (w.heap.size + 1) w5 (Below.refl _ _) (Nat.le_refl _) ?_
  intro w6 hc6 hb6
  rw [splice_bv, HM0.out] at hc6
  have V1 := Lib.hid (blk_lt Z1.out hb6 (by omega))
  have V2 := Lib.hid (show Blk w6 (w.heap.size + 1) (bva m) 38 from hc6.out)
  have VB := Lib.hid (ZB.out.trans (hb6.mono (by omega)))
  clear hc6 hb6 Z1 Z2 ZB
  go_wp2_with (refine wpList_load_row rfl 38 (.tmp 10) rfl (w.heap.size + 1) rfl 38 (bva m) (0, 0) _ V2.out Try.underlying38 rfl HIM.out ?_)
  refine (HCS.out _).mono ?_
  rintro e w7 ⟨rfl, bw⟩
  have U1 := Lib.hid (V1.out.below bw)
  have U2 := Lib.hid (V2.out.below bw)
  have UB := Lib.hid (VB.out.trans (bw.mono VB.out.size))
  have hlt7 : w.heap.size + 1 < w7.heap.size := U2.out.lt
  clear bw V1 V2 VB
  go_wp2_with (show wpList _ _ _ ({ dst := none, op := .store 200 (.tmp 11) (.tmp 42), type := _, pos := _, after := _, guard := _ } :: _) _ _; apply Classical.byContradiction; intro hneg)
  refine hneg ?_
  clear hneg
  refine wpList_store_row rfl 200 (.tmp 11) (.tmp 42) rfl w7.heap.size (bva O) rfl rfl 200 (bva y) (heap_alloc_new _ _) HIO.out (by rw [bva_size, bva_size, HO3.out, HY3.out]) (bva_one _) ?_
  obtain ⟨w8, hw8⟩ : ∃ w8, w8 = (w7.alloc (.cells (bva y) 200)).setRow w7.heap.size (bva O) := ⟨_, rfl⟩
  rw [← hw8]
  obtain ⟨g8, hg8⟩ : ∃ g8, g8 = w7.heap.size := ⟨_, rfl⟩
  have T1 := Lib.hid (show Blk w8 w.heap.size (bva z) 38 from by rw [hw8]; exact blk_past U1.out)
  have T2 := Lib.hid (show Blk w8 (w.heap.size + 1) (bva m) 38 from by rw [hw8]; exact blk_past U2.out)
  have T3 := Lib.hid (show Blk w8 g8 (bva O) 200 from by rw [hw8, hg8]; exact blk_new _)
  have TB := Lib.hid (show Below w.heap.size w w8 from by rw [hw8]; exact below_new UB.out UB.out.size)
  rw [← hg8]
  rw [← hg8] at hlt7
  have HLT := Lib.hid hlt7
  clear hw8 hg8 U1 U2 UB hlt7
  go_wp2_with fail
  refine wp_region_held_drew (S := (fun w' => Below w.heap.size w w' ∧ Blk w' w.heap.size (bva z) 38 ∧ ∃ l : List UInt8, l.length = 128 ∧ Blk w' (w.heap.size + 1) (bva l) 38)) (by kernel_rfl) ⟨TB.out.drew, (show Blk _ _ _ _ from T1.out), m, HM3.out, (show Blk _ _ _ _ from T2.out)⟩ (fun hh => ?_)
  have HH := Lib.hid hh
  clear hh
  refine wpAnyH_take (i := 0) (v := ?vQ0) rfl (by kernel_rfl) (by kernel_rfl) (by kernel_rfl) (fun _ _ _ h => h) (Or.inl ⟨by rfl, fun w' _ => ?yQ0⟩) HH.out ?_
  case yQ0 => (go_simp; try with_reducible rfl)
  refine wpAnyH_take (i := 1) (v := ?vQ1) rfl (by kernel_rfl) (by kernel_rfl) (by kernel_rfl) (fun _ _ _ h => h) (Or.inl ⟨by rfl, fun w' _ => ?yQ1⟩) HH.out ?_
  case yQ1 => (go_simp; try with_reducible rfl)
  try simp only [List.getElem_toArray, List.getElem_cons_succ, List.getElem_cons_zero, Act.put, List.setIfInBounds_toArray, List.set_cons_zero, List.set_cons_succ]
  refine wpAnyH_ready (rs := [2]) (by kernel_rfl) (by simp) (AllReadyH.cons rfl (fun K hK => ?_) AllReadyH.nil)
  refine step_copy_splice (by rfl) (.tmp 43) (.tmp 44) 81 81 rfl 5 Try.underlying81 info5S (some ⟨w.heap.size + 1, 0, none⟩) (some ⟨g8, 0, none⟩) 16 128 16 16 rfl rfl (w.heap.size + 1) 0 (bv m) 38 (show Blk _ _ _ _ from T2.out) (bv O) (by rw [bv_length, HO3.out]; rfl) (fun h => ⟨rfl, rd_srcS (rd_bvS (show Blk w8.drew _ _ _ from T3.out)) h⟩) (by rw [bv_length, bv_length, HO3.out, HM3.out]; omega) (bv_one _) (w.heap.size + 1) w8.drew (Below.refl _ _) (Nat.le_refl _) ?_
  intro w9 hc9 hb9
  rw [splice_bv, HR0.out] at hc9
  have P1 := Lib.hid (blk_lt (show Blk w8.drew _ _ _ from T1.out) hb9 (by omega))
  have P2 := Lib.hid (show Blk w9 (w.heap.size + 1) (bva R) 38 from hc9.out)
  have PB := Lib.hid (TB.out.drew.trans (hb9.mono (by omega)))
  clear hc9 hb9
  refine hK.out _ _ ?keep2 (fun hh => ?_)
  case keep2 => exact ⟨PB.out, P1.out, R, HR3.out, P2.out⟩
  clear hh hK K HH T1 T2 T3 TB
  try simp only [List.getElem_toArray, List.getElem_cons_succ, List.getElem_cons_zero, Act.put, List.setIfInBounds_toArray, List.set_cons_zero, List.set_cons_succ]
  refine wpAnyH_done (by kernel_rfl) ?_ _
  go_wp2_with (first
    | (refine wpList_load_row rfl 38 (.tmp 10) rfl (w.heap.size + 1) rfl 38 (bva R) (0, 0) _ P2.out Try.underlying38 rfl HIR.out ?_)
    | (refine wpList_store_row rfl 38 (.tmp 8) (.tmp 46) rfl w.heap.size (bva R) rfl rfl 38 (bva z) P1.out HIR.out (by rw [bva_size, bva_size, HR3.out, HZ3.out]) (bva_one _) ?_))
  exact bodyPost_ret (v := .tuple #[.agg (bva R), .bool true]) (results_ct8 Try.results90 _ _ w.heap.size 38 (bva R) _ rfl (setRow_heap _ _ _ _ _ _ P1.out) Try.underlying38 rfl HIR.out) rfl ⟨rfl, below_setRow PB.out (Nat.le_refl _) _⟩
/-- What Pack tells of any place, number and body. -/
theorem pack_any (ci : SCiph) (a : Int) (gen : Nat) (hg : gen < 18446744073709551616) (A : Option Addr) (n c : Nat) (l : List UInt8) (w : World) (hl : l.length = n) (hr : Rd w.heap.size w A (bv l)) :
    Calls Try.prog 90 #[ci.v, .int .i64 a, .int .u64 gen, .slice A n c] w (RetB (.tuple #[.agg (bva (packS ci.f a gen l)), .bool (mayS a l)]) w) := by
  by_cases h : 0 ≤ a ∧ a < 4096 ∧ l.length ≤ 103
  · obtain ⟨k, rfl⟩ := Int.eq_ofNat_of_zero_le h.1
    have hm : mayS (k : Int) l = true := decide_eq_true h
    rw [packS, hm, if_pos rfl]
    exact pack_yes ci k (by omega) gen hg A n c l w hl (by omega) hr
  · have hm : mayS a l = false := decide_eq_false h
    rw [packS, hm, if_neg (by simp)]
    by_cases h0 : 0 ≤ a
    · by_cases h1 : a < 4096
      · exact pack_no2 a gen A n c w ci.T ci.x h0 h1 (by omega)
      · exact pack_no1 a gen A n c w ci.T ci.x h0 (by omega)
    · exact pack_no0 a gen A n c w ci.T ci.x (by omega)
end Go.Proofs.Ytnplhagfmfggcaa.Sx
/-
  The contract of bytes.Clone: a row of the same bytes in new memory.
-/
namespace Go.Proofs.Ytnplhagfmfggcaa.Sx
open Go.RowKit
set_option maxHeartbeats 800000 in
theorem clone_some {B : Nat} (ad : Addr) (n c : Nat) (l : List UInt8) (w : World) (hn : l.length = n) (hB : B ≤ w.heap.size) (ha : Rd B w (some ad) (bv l)) (hs : n ≤ 140737488355328) :
    Calls Try.prog 126 #[.slice (some ad) n c] w (RetRow 5 (bv l) w) := by
  have hnil := fun W => Lib.run_eql_slice_nil (P := Try.prog) W 81 5 (some ad) n c 0 0 Try.underlying81
  simp only [Option.isNone_some] at hnil
  have HN := Lib.hid hn
  clear hn
  go_enter Try.func126, Try.ntmps126
  go_wp2_with (at_builtin; refine wpList_app _ rfl (.tmp 5) (.tmp 6) _ rfl Wi.bytesElt (base := w.heap.size) (v := .slice (some ⟨w.heap.size, 0, none⟩) 0 0) rfl (World.ownsRow_lit w #[] 0 (Nat.le_refl _) (Nat.zero_le _) rfl) (m := n) rfl ((ha.more hB).below ((Below.refl _ _).alloc (Nat.le_refl _) _)) ((bv_length l).trans HN.out) (bv_one _) ?_ ?_ ?_; omega; (simp); intro A2 c2 w2 ho2 hg2 _; have hb2 := app_below ((Below.refl w.heap.size w).alloc (Nat.le_refl _) _) (World.ownsRow_lit w #[] 0 (Nat.le_refl _) (Nat.zero_le _) rfl) hg2 (Nat.le_refl _) (by simp))
  go_ret
  exact RetRow.mk rfl (own_eq ho2 (by omega) rfl) hb2

set_option maxHeartbeats 800000 in
theorem clone_none (n c : Nat) (w : World) :
    Calls Try.prog 126 #[.slice none n c] w fun e w' => e = .returned (.slice none 0 0) ∧ w = w' := by
  have hnil := fun W => Lib.run_eql_slice_nil (P := Try.prog) W 81 5 none n c 0 0 Try.underlying81
  simp only [Option.isNone_none] at hnil
  go_enter Try.func126, Try.ntmps126
  go_wp2_with fail
  go_ret
  exact ⟨rfl, rfl⟩

theorem clone_any {B : Nat} (A : Option Addr) (n c : Nat) (l : List UInt8) (w : World) (hn : l.length = n) (hB : B ≤ w.heap.size) (ha : Rd B w A (bv l)) (hs : n ≤ 140737488355328) :
    Calls Try.prog 126 #[.slice A n c] w (RetRow 5 (bv l) w) := by
  rcases A with _ | ad
  · have hl : l = [] := by
      rcases l with _ | ⟨x, l⟩
      · rfl
      · obtain ⟨_, h, _⟩ := ha.at_ (k := 0) (by simp)
        cases h
    subst hl
    refine (clone_none n c w).mono ?_
    rintro e w' ⟨rfl, rfl⟩
    exact RetRow.mk rfl (World.ownsRow_nil _ _ _ _) (Below.refl _ _)
  · exact clone_some ad n c l w hn hB ha hs
end Go.Proofs.Ytnplhagfmfggcaa.Sx
/-
  A part of a sector, cut out by two numbers.
-/
namespace Go.Proofs.Ytnplhagfmfggcaa.Sx
open Go.RowKit
theorem sec_under : Try.prog.underlying 38 = some (.array (Try.prog.arrayLen 38) (Try.prog.elem 38)) := by kernel_rfl
theorem sec_len : Try.prog.arrayLen 38 = 128 := by kernel_rfl
theorem sec_elem (W : World) : (sizeOf (Try.prog.elem 38)).run Try.prog W = .ok 1 W := by kernel_rfl
theorem slice_sec (W : World) (g l h : Nat) (h1 : l ≤ h) (h2 : h ≤ 128) (h3 : l < 128) :
    (Instr.sliceAt 38 (.pointer (some ⟨g, 0, none⟩)) (some (.int .i64 (l : Int))) (some (.int .i64 (h : Int))) none).run Try.prog W = .ok (.slice (some ⟨g, l, none⟩) (h - l) (128 - l)) W := by
  rw [run_sliceAt_array_lh W 38 ⟨g, 0, none⟩ sec_under .i64 .i64 (l : Int) (h : Int) (by omega) (by omega) (by rw [sec_len]; omega), sec_elem]
  show Result.ok _ _ = _
  rw [sec_len, slicedAt, if_neg (by omega), Int.toNat_natCast, Int.toNat_natCast, Nat.mul_one]
  have e : (⟨g, 0, none⟩ : Addr).add l = ⟨g, l, none⟩ := by
    unfold Addr.add; split
    · rename_i h; rw [h]
    · simp
  rw [e]
end Go.Proofs.Ytnplhagfmfggcaa.Sx
/-
  The contract of sector.Unpack, by any cipher, and by none.
-/
namespace Go.Proofs.Ytnplhagfmfggcaa.Sx
open Go.RowKit Kd
attribute [local go_sem ↓] Go.wp_at_zero Go.wp_at_succ
/-- It tells a generation, a body in new memory, and whether they are right. -/
def RetU (g : Nat) (l : List UInt8) (ok : Bool) (w : World) (e : Ending) (w' : World) : Prop :=
  ∃ A n c, e = .returned (.tuple #[.int .u64 (g : Int), .slice A n c, .bool ok]) ∧ w'.ownsRow w.heap.size 5 1 (.slice A n c) n (bv l) ∧ Below w.heap.size w w'
theorem RetU.none {w w' : World} (h : Below w.heap.size w w') : RetU 0 [] false w (.returned (.tuple #[.int .u64 0, .slice none 0 0, .bool false])) w' :=
  ⟨_, _, _, rfl, World.ownsRow_nil _ _ _ _, h⟩
theorem ok_long {f : List UInt8 → List UInt8 → List UInt8} {a : Int} {s : List UInt8} (h : 103 < sizeS s) : okS f a s = false := by
  rw [okS, decide_eq_false (by omega)]; rfl
theorem ok_not {f : List UInt8 → List UInt8 → List UInt8} {a : Int} {s : List UInt8} (h : mayS a (bodyS s) = false) : okS f a s = false := by
  rw [okS, h]; simp
theorem ok_pack {f : List UInt8 → List UInt8 → List UInt8} {a : Int} {s : List UInt8} (h0 : sizeS s ≤ 103) (h : mayS a (bodyS s) = true) : okS f a s = decide (packS f a (genS s) (bodyS s) = s) := by
  rw [okS, h, decide_eq_true h0, packS, h, if_pos rfl]; rfl
theorem rd_takeS {B : Nat} {w : World} {A : Option Addr} {l : List UInt8} (h : Rd B w A (bv l)) (n : Nat) : Rd B w A (bv (l.take n)) := fun k u hu => h k u (bv_take_get hu)
set_option maxRecDepth 100000 in
set_option maxHeartbeats 6400000 in
theorem unpack_nil  (a : Int) (s : List UInt8) (hs : s.length = 128) (w : World) :
    Calls Try.prog 96 #[.nilIface, .int .i64 a, .agg (bva s)] w (RetU 0 [] false w) := by
  have HS := Lib.hid hs
  obtain ⟨w2, hw2⟩ : ∃ w2, w2 = w.alloc (.cells (bva s) 38) := ⟨_, rfl⟩
  have b1 : Blk w2 w.heap.size (bva s) 38 := by rw [hw2]; exact heap_alloc_new _ _
  have B1 := Lib.hid b1
  have BB := Lib.hid (show Below w.heap.size w w2 from by rw [hw2]; exact (Below.refl _ _).alloc (Nat.le_refl _) _)
  have HIS : Hid ((Try.prog.info? 38).map (·.size) = some (bva s).size) := by rw [bva_size, hs]; exact info_sec
  obtain ⟨q, hq0⟩ : ∃ q, q = s.getD 24 0 := ⟨_, rfl⟩
  have hqn : sizeS s = q.toNat := by rw [sizeS, hq0]
  obtain ⟨n, hn⟩ : ∃ n : Nat, n = q.toNat := ⟨_, rfl⟩
  have hnb : n < 256 := by rw [hn]; exact UInt8.toNat_lt q
  have c24 := b1.cellb (k := 24) (by rw [hs]; omega)
  rw [← hq0, ← hn, hw2] at c24
  have HN := Lib.hid (show sizeS s = n by rw [hqn, hn])
  by_cases hlong : 103 < n
  · have hd : decide ((103 : Int) < (n : Int)) = true := by simp; omega
    have HL := Lib.hid hlong
    clear b1 hs hq0 hqn hn hlong
    go_enter Try.func96, Try.ntmps96
    go_wp2_with fail
    rw [← hw2]
    go_ret3
    exact RetU.none BB.out
  · have hd : decide ((103 : Int) < (n : Int)) = false := by simp; omega
    have wn2 : IntKind.i64.wrap (25 + (n : Int)) = 25 + (n : Int) := IntWalk.i64_in _ (by omega)
    have hsl : ∀ W, (Instr.sliceAt 38 (.pointer (some ⟨w.heap.size, 0, none⟩)) (some (.int .i64 25)) (some (.int .i64 (25 + (n : Int)))) none).run Try.prog W = .ok (.slice (some ⟨w.heap.size, 25, none⟩) n 103) W := fun W => by
      have h := slice_sec W w.heap.size 25 (25 + n) (by omega) (by omega) (by omega)
      rw [show 25 + n - 25 = n by omega, Int.natCast_add] at h
      exact h
    have h25 : n ≤ 103 := by omega
    have HNL := Lib.hid h25
    obtain ⟨g, hg⟩ : ∃ g, g = genS s := ⟨_, rfl⟩
    obtain ⟨b, hb⟩ : ∃ b, b = bodyS s := ⟨_, rfl⟩
    have HG := Lib.hid (show U64 g from by rw [hg]; exact genS_lt s)
    have HB3 := Lib.hid (show b.length = n by rw [hb, bodyS_length hs (by omega), HN.out])
    have HGW := Lib.hid (show ∀ W, Blk W w.heap.size (bva s) 38 → Calls Try.prog 101 #[.slice (some ⟨w.heap.size, 16, none⟩) 8 112] W fun e w' => e = .returned (.tuple #[.int .u64 (g : Int), .bool true]) ∧ W = w' from fun W hW => by
      rw [hg]
      exact Wi.wget_in (some ⟨w.heap.size, 16, none⟩) 8 112 ((s.drop 16).take 8) W (by rw [List.length_take, List.length_drop, hs]; rfl) (rd_takeS (rd_part hW 16) 8) (by omega) (by omega))
    have HBR := Lib.hid (show ∀ W, Blk W w.heap.size (bva s) 38 → Rd W.heap.size W (some ⟨w.heap.size, 25, none⟩) (bv b) from fun W hW => by
      rw [hb, bodyS]; exact rd_takeS (rd_part hW 25) _)
    obtain ⟨p, hp⟩ : ∃ p, p = zeroS := ⟨_, rfl⟩
    have HP3 := Lib.hid (show p.length = 128 by rw [hp]; exact zeroS_length)
    have HIP : Hid ((Try.prog.info? 38).map (·.size) = some (bva p).size) := by rw [bva_size, HP3.out]; exact info_sec
    have HCP := Lib.hid (show ∀ W A c, Rd W.heap.size W A (bv b) → Calls Try.prog 90 #[.nilIface, .int .i64 a, .int .u64 g, .slice A n c] W (RetB (.tuple #[.agg (bva p), .bool false]) W) from fun W A c hr => by
      rw [hp]; exact pack_nil a g A n c W)
    clear hp
    obtain ⟨z, hz0⟩ : ∃ z : List UInt8, z = zeroS := ⟨_, rfl⟩
    have hz : ∀ W, (zeroValue 38).run Try.prog W = .ok (.agg (bva z)) W := fun _ => by rw [hz0]; kernel_rfl
    have HZ3 := Lib.hid (show z.length = 128 by rw [hz0]; exact zeroS_length)
    clear b1 hs hq0 hqn hn hlong hg hb hz0
    go_enter Try.func96, Try.ntmps96
    go_wp2_with fail
    rw [← hw2]
    clear hw2 c24
    refine (HGW.out _ B1.out).mono ?_
    rintro e w3 ⟨rfl, rfl⟩
    go_wp2_with fail
    refine (clone_any (B := w2.heap.size) (some ⟨w.heap.size, 25, none⟩) n _ b _ HB3.out (Nat.le_refl _) (HBR.out _ B1.out) (by omega)).mono ?_
    rintro e w4 ⟨A4, n4, c4, rfl, ho, hb4⟩
    obtain rfl : n = n4 := by have := own_blen ho; have := HB3.out; omega
    have O4 := Lib.hid (own_more ho BB.out.size)
    have C1 := Lib.hid (B1.out.below hb4)
    have CB := Lib.hid (BB.out.trans (hb4.mono BB.out.size))
    clear ho hb4 B1 BB
    go_wp2_with fail
    refine (HCP.out _ A4 c4 (Rd.own O4.out)).mono ?_
    rintro e w5 ⟨rfl, bw⟩
    have O5 := Lib.hid (own_below O4.out bw)
    have D1 := Lib.hid (C1.out.below bw)
    have DB := Lib.hid (CB.out.trans (bw.mono CB.out.size))
    clear bw C1 CB O4
    go_wp2_with (show wpList _ _ _ ({ dst := none, op := .store 38 (.tmp 10) (.tmp 32), type := _, pos := _, after := _, guard := _ } :: _) _ _; apply Classical.byContradiction; intro hneg)
    refine hneg ?_
    clear hneg
    refine wpList_store_row rfl 38 (.tmp 10) (.tmp 32) rfl w5.heap.size (bva p) rfl rfl 38 (bva z) (heap_alloc_new _ _) HIP.out (by rw [bva_size, bva_size, HP3.out, HZ3.out]) (bva_one _) ?_
    obtain ⟨w6, hw6⟩ : ∃ w6, w6 = (w5.alloc (.cells (bva z) 38)).setRow w5.heap.size (bva p) := ⟨_, rfl⟩
    rw [← hw6]
    obtain ⟨g6, hg6⟩ : ∃ g6, g6 = w5.heap.size := ⟨_, rfl⟩
    have hb6 : Below w5.heap.size w5 w6 := by rw [hw6]; exact below_new (Below.refl _ _) (Nat.le_refl _)
    have E1 := Lib.hid (D1.out.below hb6)
    have E2 := Lib.hid (show Blk w6 g6 (bva p) 38 from by rw [hw6, hg6]; exact blk_new _)
    have O6 := Lib.hid (own_below O5.out hb6)
    have EB := Lib.hid (DB.out.trans (hb6.mono DB.out.size))
    rw [← hg6]
    clear hw6 hg6 hb6 D1 DB O5
    go_wp2_with fail
    go_ret3
    exact RetU.none EB.out
set_option maxRecDepth 100000 in
set_option maxHeartbeats 6400000 in
theorem unpack_any (ci : SCiph) (a : Int) (s : List UInt8) (hs : s.length = 128) (w : World) :
    Calls Try.prog 96 #[ci.v, .int .i64 a, .agg (bva s)] w (RetU (unpackS ci.f a s).1 (unpackS ci.f a s).2 (okS ci.f a s) w) := by
  have HS := Lib.hid hs
  obtain ⟨w2, hw2⟩ : ∃ w2, w2 = w.alloc (.cells (bva s) 38) := ⟨_, rfl⟩
  have b1 : Blk w2 w.heap.size (bva s) 38 := by rw [hw2]; exact heap_alloc_new _ _
  have B1 := Lib.hid b1
  have BB := Lib.hid (show Below w.heap.size w w2 from by rw [hw2]; exact (Below.refl _ _).alloc (Nat.le_refl _) _)
  have HIS : Hid ((Try.prog.info? 38).map (·.size) = some (bva s).size) := by rw [bva_size, hs]; exact info_sec
  obtain ⟨q, hq0⟩ : ∃ q, q = s.getD 24 0 := ⟨_, rfl⟩
  have hqn : sizeS s = q.toNat := by rw [sizeS, hq0]
  obtain ⟨n, hn⟩ : ∃ n : Nat, n = q.toNat := ⟨_, rfl⟩
  have hnb : n < 256 := by rw [hn]; exact UInt8.toNat_lt q
  have c24 := b1.cellb (k := 24) (by rw [hs]; omega)
  rw [← hq0, ← hn, hw2] at c24
  have HN := Lib.hid (show sizeS s = n by rw [hqn, hn])
  obtain ⟨v, hv⟩ : ∃ v, v = ci.v := ⟨_, rfl⟩
  have HV := Lib.hid hv
  obtain ⟨U1, hU1⟩ : ∃ x, x = (unpackS ci.f a s).1 := ⟨_, rfl⟩
  obtain ⟨U2, hU2⟩ : ∃ x, x = (unpackS ci.f a s).2 := ⟨_, rfl⟩
  obtain ⟨U3, hU3⟩ : ∃ x, x = okS ci.f a s := ⟨_, rfl⟩
  rw [← hv, ← hU1, ← hU2, ← hU3]
  by_cases hlong : 103 < n
  · have hd : decide ((103 : Int) < (n : Int)) = true := by simp; omega
    have HL := Lib.hid hlong
    have ho := ok_long (f := ci.f) (a := a) (by rw [HN.out]; exact hlong)
    obtain rfl : U3 = false := by rw [hU3, ho]
    obtain rfl : U1 = 0 := by rw [hU1, unpackS, ho, if_neg (by simp)]
    obtain rfl : U2 = [] := by rw [hU2, unpackS, ho, if_neg (by simp)]
    clear hv hU1 hU2 hU3 ho
    clear b1 hs hq0 hqn hn hlong
    go_enter Try.func96, Try.ntmps96
    go_wp2_with fail
    rw [← hw2]
    go_ret3
    exact RetU.none BB.out
  · have hd : decide ((103 : Int) < (n : Int)) = false := by simp; omega
    have wn2 : IntKind.i64.wrap (25 + (n : Int)) = 25 + (n : Int) := IntWalk.i64_in _ (by omega)
    have hsl : ∀ W, (Instr.sliceAt 38 (.pointer (some ⟨w.heap.size, 0, none⟩)) (some (.int .i64 25)) (some (.int .i64 (25 + (n : Int)))) none).run Try.prog W = .ok (.slice (some ⟨w.heap.size, 25, none⟩) n 103) W := fun W => by
      have h := slice_sec W w.heap.size 25 (25 + n) (by omega) (by omega) (by omega)
      rw [show 25 + n - 25 = n by omega, Int.natCast_add] at h
      exact h
    have h25 : n ≤ 103 := by omega
    have HNL := Lib.hid h25
    obtain ⟨g, hg⟩ : ∃ g, g = genS s := ⟨_, rfl⟩
    obtain ⟨b, hb⟩ : ∃ b, b = bodyS s := ⟨_, rfl⟩
    have HG := Lib.hid (show U64 g from by rw [hg]; exact genS_lt s)
    have HB3 := Lib.hid (show b.length = n by rw [hb, bodyS_length hs (by omega), HN.out])
    have HGW := Lib.hid (show ∀ W, Blk W w.heap.size (bva s) 38 → Calls Try.prog 101 #[.slice (some ⟨w.heap.size, 16, none⟩) 8 112] W fun e w' => e = .returned (.tuple #[.int .u64 (g : Int), .bool true]) ∧ W = w' from fun W hW => by
      rw [hg]
      exact Wi.wget_in (some ⟨w.heap.size, 16, none⟩) 8 112 ((s.drop 16).take 8) W (by rw [List.length_take, List.length_drop, hs]; rfl) (rd_takeS (rd_part hW 16) 8) (by omega) (by omega))
    have HBR := Lib.hid (show ∀ W, Blk W w.heap.size (bva s) 38 → Rd W.heap.size W (some ⟨w.heap.size, 25, none⟩) (bv b) from fun W hW => by
      rw [hb, bodyS]; exact rd_takeS (rd_part hW 25) _)
    have hu : unpackS ci.f a s = if okS ci.f a s then (g, b) else (0, []) := by rw [unpackS, hg, hb]
    have hu0 : okS ci.f a s = false → U1 = 0 ∧ U2 = [] ∧ U3 = false := fun h => by rw [hU1, hU2, hU3, hu, h, if_neg (by simp)]; exact ⟨rfl, rfl, rfl⟩
    have hu1 : okS ci.f a s = true → U1 = g ∧ U2 = b ∧ U3 = true := fun h => by rw [hU1, hU2, hU3, hu, h, if_pos rfl]; exact ⟨rfl, rfl, rfl⟩
    obtain ⟨p, hp⟩ : ∃ p, p = packS ci.f a g b := ⟨_, rfl⟩
    have HP3 := Lib.hid (show p.length = 128 by rw [hp]; exact packS_length ci.len)
    have HIP : Hid ((Try.prog.info? 38).map (·.size) = some (bva p).size) := by rw [bva_size, HP3.out]; exact info_sec
    obtain ⟨may, hmay⟩ : ∃ may, may = mayS a b := ⟨_, rfl⟩
    have HCP := Lib.hid (show ∀ W A c, Rd W.heap.size W A (bv b) → Calls Try.prog 90 #[v, .int .i64 a, .int .u64 g, .slice A n c] W (RetB (.tuple #[.agg (bva p), .bool may]) W) from fun W A c hr => by
      rw [hp, hmay, HV.out]; exact pack_any ci a g HG.out A n c b W HB3.out hr)
    have hok2 : may = true → okS ci.f a s = decide (p = s) := fun h => by rw [ok_pack (by rw [HN.out]; exact HNL.out) (by rw [← hb, ← hmay, h]), hp, hg, hb]
    have HE0 := Lib.hid (show may = false → U1 = 0 ∧ U2 = [] ∧ U3 = false from fun h => hu0 (ok_not (by rw [← hb, ← hmay, h])))
    have HE1 := Lib.hid (show may = true → p = s → U1 = g ∧ U2 = b ∧ U3 = true from fun h h' => hu1 (by rw [hok2 h, decide_eq_true h']))
    have HE2 := Lib.hid (show may = true → ¬ p = s → U1 = 0 ∧ U2 = [] ∧ U3 = false from fun h h' => hu0 (by rw [hok2 h, decide_eq_false h']))
    clear hp hmay hv hu hu0 hu1 hok2 hU1 hU2 hU3
    obtain ⟨z, hz0⟩ : ∃ z : List UInt8, z = zeroS := ⟨_, rfl⟩
    have hz : ∀ W, (zeroValue 38).run Try.prog W = .ok (.agg (bva z)) W := fun _ => by rw [hz0]; kernel_rfl
    have HZ3 := Lib.hid (show z.length = 128 by rw [hz0]; exact zeroS_length)
    clear b1 hs hq0 hqn hn hlong hg hb hz0
    go_enter Try.func96, Try.ntmps96
    go_wp2_with fail
    rw [← hw2]
    clear hw2 c24
    refine (HGW.out _ B1.out).mono ?_
    rintro e w3 ⟨rfl, rfl⟩
    go_wp2_with fail
    refine (clone_any (B := w2.heap.size) (some ⟨w.heap.size, 25, none⟩) n _ b _ HB3.out (Nat.le_refl _) (HBR.out _ B1.out) (by omega)).mono ?_
    rintro e w4 ⟨A4, n4, c4, rfl, ho, hb4⟩
    obtain rfl : n = n4 := by have := own_blen ho; have := HB3.out; omega
    have O4 := Lib.hid (own_more ho BB.out.size)
    have C1 := Lib.hid (B1.out.below hb4)
    have CB := Lib.hid (BB.out.trans (hb4.mono BB.out.size))
    clear ho hb4 B1 BB
    go_wp2_with fail
    refine (HCP.out _ A4 c4 (Rd.own O4.out)).mono ?_
    rintro e w5 ⟨rfl, bw⟩
    have O5 := Lib.hid (own_below O4.out bw)
    have D1 := Lib.hid (C1.out.below bw)
    have DB := Lib.hid (CB.out.trans (bw.mono CB.out.size))
    clear bw C1 CB O4
    go_wp2_with (show wpList _ _ _ ({ dst := none, op := .store 38 (.tmp 10) (.tmp 32), type := _, pos := _, after := _, guard := _ } :: _) _ _; apply Classical.byContradiction; intro hneg)
    refine hneg ?_
    clear hneg
    refine wpList_store_row rfl 38 (.tmp 10) (.tmp 32) rfl w5.heap.size (bva p) rfl rfl 38 (bva z) (heap_alloc_new _ _) HIP.out (by rw [bva_size, bva_size, HP3.out, HZ3.out]) (bva_one _) ?_
    obtain ⟨w6, hw6⟩ : ∃ w6, w6 = (w5.alloc (.cells (bva z) 38)).setRow w5.heap.size (bva p) := ⟨_, rfl⟩
    rw [← hw6]
    obtain ⟨g6, hg6⟩ : ∃ g6, g6 = w5.heap.size := ⟨_, rfl⟩
    have hb6 : Below w5.heap.size w5 w6 := by rw [hw6]; exact below_new (Below.refl _ _) (Nat.le_refl _)
    have E1 := Lib.hid (D1.out.below hb6)
    have E2 := Lib.hid (show Blk w6 g6 (bva p) 38 from by rw [hw6, hg6]; exact blk_new _)
    have O6 := Lib.hid (own_below O5.out hb6)
    have EB := Lib.hid (DB.out.trans (hb6.mono DB.out.size))
    rw [← hg6]
    clear hw6 hg6 hb6 D1 DB O5
    cases may
    · go_wp2_with fail
      go_ret3
      obtain ⟨h1, h2, h3⟩ := HE0.out (by first | rfl | trivial)
      rw [h1, h2, h3]
      exact RetU.none EB.out
    · by_cases hps : p = s
      · have HEQ := Lib.hid (show ∀ W, (Op.equalIn 10000 38 (.agg (bva p)) (.agg (bva s))).run Try.prog W = .ok true W from fun W => by rw [eq_sec p s HP3.out HS.out, decide_eq_true hps])
        have heq := HEQ.out
        have HPS := Lib.hid hps
        clear hps
        go_wp2_with (first
          | (refine wpList_execg8 (o := { dst := some 37, op := .load 38 (.tmp 10), type := _, pos := _, after := _, guard := _ }) (v := .agg (bva p)) (w' := w6) rfl ?hl1 ?_; case hl1 => exact exec_load 38 (.tmp 10) rfl rfl E2.out Try.underlying38 rfl HIP.out)
          | (refine wpList_execg8 (o := { dst := some 38, op := .load 38 (.tmp 5), type := _, pos := _, after := _, guard := _ }) (v := .agg (bva s)) (w' := w6) rfl ?hl2 ?_; case hl2 => exact exec_load 38 (.tmp 5) rfl rfl E1.out Try.underlying38 rfl HIS.out))
        go_ret3
        obtain ⟨h1, h2, h3⟩ := HE1.out (by first | rfl | trivial) HPS.out
        rw [h1, h2, h3]
        exact ⟨A4, n, c4, rfl, O6.out, EB.out⟩
      · have HEQ := Lib.hid (show ∀ W, (Op.equalIn 10000 38 (.agg (bva p)) (.agg (bva s))).run Try.prog W = .ok false W from fun W => by rw [eq_sec p s HP3.out HS.out, decide_eq_false hps])
        have heq := HEQ.out
        have HPS := Lib.hid hps
        clear hps
        go_wp2_with (first
          | (refine wpList_execg8 (o := { dst := some 37, op := .load 38 (.tmp 10), type := _, pos := _, after := _, guard := _ }) (v := .agg (bva p)) (w' := w6) rfl ?hl1 ?_; case hl1 => exact exec_load 38 (.tmp 10) rfl rfl E2.out Try.underlying38 rfl HIP.out)
          | (refine wpList_execg8 (o := { dst := some 38, op := .load 38 (.tmp 5), type := _, pos := _, after := _, guard := _ }) (v := .agg (bva s)) (w' := w6) rfl ?hl2 ?_; case hl2 => exact exec_load 38 (.tmp 5) rfl rfl E1.out Try.underlying38 rfl HIS.out))
        go_ret3
        obtain ⟨h1, h2, h3⟩ := HE2.out (by first | rfl | trivial) HPS.out
        rw [h1, h2, h3]
        exact RetU.none EB.out
end Go.Proofs.Ytnplhagfmfggcaa.Sx
/-
  A region that draws its order, of which the last operations WRITE what the first ones read: the condition S on the world is wanted only as long as none of the late operations W has come up (a load that each of them waits for is taken first under it), the condition S0 always.
-/
namespace Go.Proofs.Ytnplhagfmfggcaa
section
variable {P : Program} {ops : Array Oper} {Q : Exit → Act → World → Prop} {md : Region.Mode} {S S0 : World → Prop} {W : List Nat}
/-- Has a late one come up? -/
def Late (W : List Nat) (l : Array Bool) : Prop := ∃ k ∈ W, l.getD k true = true
def wpAnyL (P : Program) (md : Region.Mode) (ops : Array Oper) (Q : Exit → Act → World → Prop) (S0 S : World → Prop) (W : List Nat) : Nat → Array Bool → Act → World → Prop
  | 0, listed, a, w => Region.ready md ops listed = [] ∧ Q .normal a w
  | fuel + 1, listed, a, w =>
    (Region.ready md ops listed = [] → Q .normal a w) ∧
    ∀ i ∈ Region.ready md ops listed, wpOp P ops Q i (fun a' w' => (S0 w' ∧ (Late W (listed.setIfInBounds i true) ∨ S w')) ∧ wpAnyL P md ops Q S0 S W fuel (listed.setIfInBounds i true) a' w') a w
theorem wpAny_of_late : ∀ (fuel : Nat) (listed : Array Bool) (a : Act) (w : World), wpAnyL P md ops Q S0 S W fuel listed a w → wpAny P md ops Q fuel listed a w
  | 0, _, _, _, h => h
  | fuel + 1, _, _, _, h => ⟨h.1, fun i hi => wpOp_mono (fun a' w' h' => wpAny_of_late fuel _ a' w' h'.2) (h.2 i hi)⟩
theorem wpAnyL_first {i : Nat} {oi : Oper} {v : Value} (hi : ops[i]? = some oi) (hsel : ∀ (j : Nat) (o : Oper) cs b, ops[j]? = some o → o.op ≠ .select cs b)
    (hQ : ∀ c a w, Q (.panic c) (a.put oi.dst v) w → Q (.panic c) a w) (hW : ∀ k ∈ W, ∃ o e, ops[k]? = some o ∧ e ∈ o.after ∧ Region.binds md e = true ∧ e.on = i) (hiW : i ∉ W) :
    ∀ (fuel : Nat) (listed : Array Bool) (a : Act) (w : World),
      (∀ j oj, ops[j]? = some oj → j ≠ i → listed.getD j true = false → (∀ e ∈ oj.after, Region.binds md e = true → e.on ≠ i) → oi.apart ops oj = true) →
      (∀ k ∈ W, listed.getD k true = false) →
      i ∈ Region.ready md ops listed → YieldsIf P ops (fun w => S0 w ∧ S w) oi v a → S0 w ∧ S w →
      wpAnyL P md ops Q S0 S W fuel (listed.setIfInBounds i true) (a.put oi.dst v) w → wpAnyL P md ops Q S0 S W (fuel + 1) listed a w := by
  intro fuel
  induction fuel with
  | zero =>
    intro listed a w _ _ hr hy hS H
    refine ⟨fun h => (by rw [h] at hr; cases hr), fun j hj => ?_⟩
    by_cases hji : j = i
    · subst hji; exact hy.wpOp hi hS ⟨⟨hS.1, .inr hS.2⟩, H⟩
    · have := ready_mono hj hji
      rw [H.1] at this
      cases this
  | succ fuel ih =>
    intro listed a w hfree hwl hr hy hS H
    refine ⟨fun h => (by rw [h] at hr; cases hr), fun j hj => ?_⟩
    by_cases hji : j = i
    · subst hji; exact hy.wpOp hi hS ⟨⟨hS.1, .inr hS.2⟩, H⟩
    · have h1 := H.2 j (ready_mono hj hji)
      obtain ⟨hjun, oj, hoj, hall⟩ := mem_ready.1 hj
      have hnot : ∀ e ∈ oj.after, Region.binds md e = true → e.on ≠ i := fun e he hb heq => by
        have h1 := hall e he hb
        have h0 := (mem_ready.1 hr).1
        rw [heq] at h1
        rcases Nat.lt_or_ge i listed.size with h' | h'
        · simp [h'] at h0 h1; rw [h0] at h1; cases h1
        · simp [Array.getElem?_eq_none h'] at h1
      have hjW : j ∉ W := fun hm => by
        obtain ⟨o, e, ho, he, hb, hon⟩ := hW j hm
        rw [hoj] at ho; injection ho with ho; subst ho
        exact hnot e he hb hon
      have hwl' : ∀ k ∈ W, (listed.setIfInBounds j true).getD k true = false := fun k hk => by
        have hjk : j ≠ k := fun e => hjW (e ▸ hk)
        rw [getD_set_ne true hjk]; exact hwl k hk
      have hnl : ∀ w', (S0 w' ∧ (Late W ((listed.setIfInBounds i true).setIfInBounds j true) ∨ S w')) → S0 w' ∧ S w' := fun w' h => ⟨h.1, h.2.elim (fun ⟨k, hk, h2⟩ => by
        have hjk : j ≠ k := fun e => hjW (e ▸ hk)
        have hik : i ≠ k := fun e => hiW (e ▸ hk)
        rw [getD_set_ne true hjk, getD_set_ne true hik, hwl k hk] at h2; cases h2) id⟩
      have h2 := wpOp_putIf hoj (hfree j oj hoj hji hjun hnot) (fun cs b => hsel i oi cs b hi) (fun cs b => hsel j oj cs b hoj) hQ hy h1
      have hfree' : ∀ k ok, ops[k]? = some ok → k ≠ i → (listed.setIfInBounds j true).getD k true = false →
          (∀ e ∈ ok.after, Region.binds md e = true → e.on ≠ i) → oi.apart ops ok = true := fun k ok hk hki hun hno => by
        refine hfree k ok hk hki ?_ hno
        by_cases hjk : j = k
        · subst hjk; exact hjun
        · rw [getD_set_ne true hjk] at hun; exact hun
      refine wpOp_mono (fun a' w' h3 => ⟨⟨h3.2.1.1, .inr (hnl w' h3.2.1).2⟩, ih (listed.setIfInBounds j true) a' w' hfree' hwl' (ready_mono hr (Ne.symm hji)) h3.1 (hnl w' h3.2.1) ?_⟩) h2
      rw [Array.setIfInBounds_comm _ _ hji]
      exact h3.2.2
theorem wpAnyL_first0 {i : Nat} {oi : Oper} {v : Value} (hi : ops[i]? = some oi) (hsel : ∀ (j : Nat) (o : Oper) cs b, ops[j]? = some o → o.op ≠ .select cs b)
    (hQ : ∀ c a w, Q (.panic c) (a.put oi.dst v) w → Q (.panic c) a w) (hiW : i ∉ W) :
    ∀ (fuel : Nat) (listed : Array Bool) (a : Act) (w : World),
      (∀ j oj, ops[j]? = some oj → j ≠ i → listed.getD j true = false → (∀ e ∈ oj.after, Region.binds md e = true → e.on ≠ i) → oi.apart ops oj = true) →
      i ∈ Region.ready md ops listed → YieldsIf P ops S0 oi v a → S0 w → (Late W listed ∨ S w) →
      wpAnyL P md ops Q S0 S W fuel (listed.setIfInBounds i true) (a.put oi.dst v) w → wpAnyL P md ops Q S0 S W (fuel + 1) listed a w := by
  have hlate : ∀ {listed : Array Bool} {w : World}, i ∈ Region.ready md ops listed → (Late W listed ∨ S w) → (Late W (listed.setIfInBounds i true) ∨ S w) := fun {listed w} hr h => h.imp (fun ⟨k, hk, h2⟩ => ⟨k, hk, by
    by_cases hik : i = k
    · subst hik; have h0 := (mem_ready.1 hr).1; rw [h2] at h0; cases h0
    · rw [getD_set_ne true hik]; exact h2⟩) id
  have hback : ∀ {listed : Array Bool} {w : World} {j : Nat}, j ≠ i → (Late W ((listed.setIfInBounds i true).setIfInBounds j true) ∨ S w) → (Late W (listed.setIfInBounds j true) ∨ S w) := fun {listed w j} hji h => h.imp (fun ⟨k, hk, h2⟩ => by
    by_cases hik : i = k
    · exact absurd (hik ▸ hk) hiW
    · exact ⟨k, hk, by rw [Array.setIfInBounds_comm _ _ (Ne.symm hji), getD_set_ne true hik] at h2; exact h2⟩) id
  intro fuel
  induction fuel with
  | zero =>
    intro listed a w _ hr hy hS hSS H
    refine ⟨fun h => (by rw [h] at hr; cases hr), fun j hj => ?_⟩
    by_cases hji : j = i
    · subst hji; exact hy.wpOp hi hS ⟨⟨hS, hlate hr hSS⟩, H⟩
    · have := ready_mono hj hji
      rw [H.1] at this
      cases this
  | succ fuel ih =>
    intro listed a w hfree hr hy hS hSS H
    refine ⟨fun h => (by rw [h] at hr; cases hr), fun j hj => ?_⟩
    by_cases hji : j = i
    · subst hji; exact hy.wpOp hi hS ⟨⟨hS, hlate hr hSS⟩, H⟩
    · have h1 := H.2 j (ready_mono hj hji)
      obtain ⟨hjun, oj, hoj, hall⟩ := mem_ready.1 hj
      have hnot : ∀ e ∈ oj.after, Region.binds md e = true → e.on ≠ i := fun e he hb heq => by
        have h1 := hall e he hb
        have h0 := (mem_ready.1 hr).1
        rw [heq] at h1
        rcases Nat.lt_or_ge i listed.size with h' | h'
        · simp [h'] at h0 h1; rw [h0] at h1; cases h1
        · simp [Array.getElem?_eq_none h'] at h1
      have h2 := wpOp_putIf hoj (hfree j oj hoj hji hjun hnot) (fun cs b => hsel i oi cs b hi) (fun cs b => hsel j oj cs b hoj) hQ hy h1
      have hfree' : ∀ k ok, ops[k]? = some ok → k ≠ i → (listed.setIfInBounds j true).getD k true = false →
          (∀ e ∈ ok.after, Region.binds md e = true → e.on ≠ i) → oi.apart ops ok = true := fun k ok hk hki hun hno => by
        refine hfree k ok hk hki ?_ hno
        by_cases hjk : j = k
        · subst hjk; exact hjun
        · rw [getD_set_ne true hjk] at hun; exact hun
      refine wpOp_mono (fun a' w' h3 => ⟨⟨h3.2.1.1, hback hji h3.2.1.2⟩, ih (listed.setIfInBounds j true) a' w' hfree' (ready_mono hr (Ne.symm hji)) h3.1 h3.2.1.1 (hback hji h3.2.1.2) ?_⟩) h2
      rw [Array.setIfInBounds_comm _ _ hji]
      exact h3.2.2
/-- Do all of W wait for i? -/
def lateOf (md : Region.Mode) (ops : Array Oper) (W : List Nat) (i : Nat) : Bool := W.all fun k => match ops[k]? with
  | some o => o.after.any fun e => Region.binds md e && e.on == i
  | none => false
theorem lateOf_spec {i : Nat} (h : lateOf md ops W i = true) : ∀ k ∈ W, ∃ o e, ops[k]? = some o ∧ e ∈ o.after ∧ Region.binds md e = true ∧ e.on = i := fun k hk => by
  have h1 := List.all_eq_true.1 h k hk
  cases ho : ops[k]? with
  | none => simp [ho] at h1
  | some o =>
    simp only [ho] at h1
    obtain ⟨e, he, h2⟩ := Array.any_eq_true'.1 h1
    simp only [Bool.and_eq_true, beq_iff_eq] at h2
    exact ⟨o, e, rfl, he, h2.1, h2.2⟩
theorem wpAnyL_take {i : Nat} {oi : Oper} {v : Value} {fuel : Nat} {listed : Array Bool} {a : Act} {w : World} (hi : ops[i]? = some oi)
    (hs : Region.noSelect ops = true) (hf : Region.free md ops listed i = true) (hr : (Region.ready md ops listed).contains i = true)
    (hQ : ∀ c a w, Q (.panic c) (a.put oi.dst v) w → Q (.panic c) a w) (hW : lateOf md ops W i = true) (hiW : W.contains i = false) (hwl : (W.all fun k => listed.getD k true == false) = true) (hy : YieldsIf P ops (fun w => S0 w ∧ S w) oi v a) (hS : S0 w ∧ S w)
    (h : wpAnyL P md ops Q S0 S W fuel (listed.setIfInBounds i true) (a.put oi.dst v) w) : wpAnyL P md ops Q S0 S W (fuel + 1) listed a w :=
  wpAnyL_first hi (Region.noSelect_spec hs) hQ (lateOf_spec hW) (by simpa using hiW) fuel listed a w (Region.free_spec hi hf) (fun k hk => by simpa using List.all_eq_true.1 hwl k hk) (by simpa using hr) hy hS h
theorem wpAnyL_take0 {i : Nat} {oi : Oper} {v : Value} {fuel : Nat} {listed : Array Bool} {a : Act} {w : World} (hi : ops[i]? = some oi)
    (hs : Region.noSelect ops = true) (hf : Region.free md ops listed i = true) (hr : (Region.ready md ops listed).contains i = true)
    (hQ : ∀ c a w, Q (.panic c) (a.put oi.dst v) w → Q (.panic c) a w) (hiW : W.contains i = false) (hy : YieldsIf P ops S0 oi v a) (hS : S0 w) (hSS : Late W listed ∨ S w)
    (h : wpAnyL P md ops Q S0 S W fuel (listed.setIfInBounds i true) (a.put oi.dst v) w) : wpAnyL P md ops Q S0 S W (fuel + 1) listed a w :=
  wpAnyL_first0 hi (Region.noSelect_spec hs) hQ (by simpa using hiW) fuel listed a w (Region.free_spec hi hf) (by simpa using hr) hy hS hSS h
/-- Behind the last load no S is wanted. -/
def AllReadyL (P : Program) (md : Region.Mode) (ops : Array Oper) (Q : Exit → Act → World → Prop) (S0 S : World → Prop) (W : List Nat) (fuel : Nat) (listed : Array Bool) (a : Act) (w : World) (rs : List Nat) : Prop :=
  ∀ i ∈ rs, wpOp P ops Q i (fun a' w' => (S0 w' ∧ (Late W (listed.setIfInBounds i true) ∨ S w')) ∧ wpAnyL P md ops Q S0 S W fuel (listed.setIfInBounds i true) a' w') a w
theorem AllReadyL.nil {fuel : Nat} {listed : Array Bool} {a : Act} {w : World} : AllReadyL P md ops Q S0 S W fuel listed a w [] := fun _ h => by cases h
theorem AllReadyL.cons {fuel : Nat} {listed : Array Bool} {a : Act} {w : World} {i : Nat} {o : Oper} {rs : List Nat} (ho : ops[i]? = some o)
    (h : ∀ K' : Act → World → Prop, Shut (∀ a w, (S0 w ∧ (Late W (listed.setIfInBounds i true) ∨ S w)) → wpAnyL P md ops Q S0 S W fuel (listed.setIfInBounds i true) a w → K' a w) → if Region.wanted o (yielded ops a.tmps) = true then Oper.wp P o a w K' Q else K' (a.put o.dst undef) w)
    (hs : AllReadyL P md ops Q S0 S W fuel listed a w rs) : AllReadyL P md ops Q S0 S W fuel listed a w (i :: rs) := fun j hj => by
  rcases List.mem_cons.1 hj with rfl | hj
  · exact wpOp_step ho (fun K' hK => h K' (fun a w hS hW => hK a w ⟨hS, hW⟩))
  · exact hs j hj
theorem wpAnyL_ready {rs : List Nat} {fuel : Nat} {listed : Array Bool} {a : Act} {w : World} (hr : Region.ready md ops listed = rs) (hne : rs ≠ [])
    (h : AllReadyL P md ops Q S0 S W fuel listed a w rs) : wpAnyL P md ops Q S0 S W (fuel + 1) listed a w := ⟨fun h0 => absurd (hr ▸ h0) hne, hr ▸ h⟩
theorem wpAnyL_done {listed : Array Bool} {a : Act} {w : World} (hr : Region.ready md ops listed = []) (h : Q .normal a w) :
    ∀ fuel, wpAnyL P md ops Q S0 S W fuel listed a w
  | 0 => ⟨hr, h⟩
  | _ + 1 => ⟨fun _ => h, by rw [hr]; simp⟩
theorem wp_region_late {id : Nat} {a : Act} {w : World} (hm : P.follows .mixedOrders = true)
    (h : wpAnyL P .any ops Q S0 S W ops.size (Array.replicate ops.size false) a w.drew) : (Code.region id ops true).wp P Q a w :=
  wp_region_any hm (wpAny_of_late _ _ _ _ h)
end
end Go.Proofs.Ytnplhagfmfggcaa
/-
  A log, and the mirror that it has, as they are laid: what Free, Flush, Append and Read tell, and make of it.
-/
namespace Go.Proofs.Ytnplhagfmfggcaa.Lo
open Go.RowKit Go.Maps Kd Mi Sx Sg
open Go.ChangeMaps (setBlock heap_setBlock_same heap_setBlock_other)
attribute [local go_sem ↓] Go.wp_at_zero Go.wp_at_succ
theorem but_grown {w w' : World} {b : Nat} (hg : w.grownBy w' (some b)) : But (fun k => k = b) w w' := (But.refl w).grown hg (fun _ hk => .inl (Option.some.inj hk).symm)
/-- A log's own memory, as it is laid. -/
def OwnR (g q : Nat) (ci : SCiph) : Laid where
  St := Rl
  At w r F := ∃ bm, RlO g q bm ci w r ∧ F q ∧ F bm ∧ ∀ k, F k → k < w.heap.size
  but := fun ⟨bm, h, h1, h2, h3⟩ hb hd => ⟨bm, h.but hb (hd q h1) (hd bm h2), h1, h2, fun k hk => Nat.lt_of_lt_of_le (h3 k hk) hb.size⟩
  lt := fun ⟨_, _, _, _, h3⟩ => h3
/-- A log, and the mirror that it has, as they are laid. -/
def LogR (C : Duo) (G : Gd) (g q : Nat) (ci : SCiph) : Laid where
  St := Mr C × Rl
  At w x F := ∃ F1 F2, (ML C G g).At w x.1 F1 ∧ (OwnR g q ci).At w x.2 F2 ∧ (∀ k, F1 k → F2 k → False) ∧ (∀ k, F k ↔ F1 k ∨ F2 k)
  but := fun ⟨F1, F2, h1, h2, hd, hF⟩ hb hT => ⟨F1, F2, (ML C G g).but h1 hb (fun k hk => hT k ((hF k).2 (.inl hk))), (OwnR g q ci).but h2 hb (fun k hk => hT k ((hF k).2 (.inr hk))), hd, hF⟩
  lt := fun ⟨_, _, h1, h2, _, hF⟩ k hk => ((hF k).1 hk).elim ((ML C G g).lt h1 k) ((OwnR g q ci).lt h2 k)
section
variable {C : Duo} {G : Gd} {g q bm : Nat} {ci : SCiph} {w w' w5 w8 : World} {s s' : Mr C} {r r' : Rl} {F1 F2 F5 F T : Nat → Prop}
/-- The mirror went on, the log's own memory then. -/
theorem fin_own (h2 : F2 q ∧ F2 bm ∧ (∀ k, F2 k → k < w.heap.size) ∧ (∀ k, F1 k → F2 k → False) ∧ (∀ k, F k ↔ F1 k ∨ F2 k)) (M : Mv (ML C G g) w F1 w5 s' F5) (ho : RlO g q bm ci w8 r') (hb : But (fun k => k = q ∨ k = bm) w5 w8) :
    Mv (LogR C G g q ci) w F w8 (s', r') (fun k => F5 k ∨ F2 k) := by
  obtain ⟨hq, hbm, h3, hd, hF⟩ := h2
  have hd5 : ∀ k, F5 k → F2 k → False := fun k h5 h2 => (M.new k h5).elim (fun h => hd k h h2) (fun h => by have := h3 k h2; omega)
  refine ⟨⟨F5, F2, (ML C G g).but M.at_ hb (fun k hk hT => hT.elim (fun e => hd5 k hk (e ▸ hq)) (fun e => hd5 k hk (e ▸ hbm))), ⟨bm, ho, hq, hbm, fun k hk => Nat.lt_of_lt_of_le (h3 k hk) (Nat.le_trans M.but.size hb.size)⟩, hd5, fun k => Iff.rfl⟩, ?_, ?_⟩
  · rintro k (hk | hk)
    · exact (M.new k hk).imp (fun h => (hF k).2 (.inl h)) id
    · exact .inl ((hF k).2 (.inr hk))
  · exact Mi.but_step (M.but.mono (fun k hk => (hF k).2 (.inl hk))) hb (fun k hk => .inl ((hF k).2 (.inr (hk.elim (fun e => e ▸ hq) (fun e => e ▸ hbm)))))
/-- What is done to the mirror, or its devices, alone. -/
theorem logr_ml (h : (LogR C G g q ci).At w (s, r) F) : ∃ F1, (ML C G g).At w s F1 ∧ (∀ k, F1 k → F k) ∧ ∀ {v : Value} {e : Ending}, RetA (ML C G g) v s' F1 w e w' → RetA (LogR C G g q ci) v (s', r) F w e w' := by
  obtain ⟨F1, F2, h1, ⟨bm, ho, hq, hbm, h3⟩, hd, hF⟩ := h
  refine ⟨F1, h1, fun k hk => (hF k).2 (.inl hk), ?_⟩
  rintro v e ⟨rfl, F', hm⟩
  exact ⟨rfl, _, fin_own ⟨hq, hbm, h3, hd, hF⟩ hm (ho.but hm.but (fun h => hd q h hq) (fun h => hd bm h hbm)) (But.refl _)⟩
theorem logr_own (h : (LogR C G g q ci).At w (s, r) F) : ∃ bm, RlO g q bm ci w r := by
  obtain ⟨_, _, _, ⟨bm, ho, _⟩, _, _⟩ := h
  exact ⟨bm, ho⟩
/-! ### Free -/
def Rl.freeE (r : Rl) (z : Int) : Int := if z < 0 ∨ (r.segs : Int) ≤ z then 2 else if usedG r.gens z = false then 7 else if z = r.seg then 12 else 0
def Rl.free (r : Rl) (k : Nat) : Rl := { r with gens := r.gens.set k none }
theorem Rl.Ok.free (h : r.Ok) (k : Nat) : (r.free k).Ok :=
  ⟨h.shape, by rw [Rl.free, List.length_set]; exact h.gn, h.seg, h.slot, h.known, fun j x hx => by
    by_cases hj : j = k
    · subst hj
      by_cases hl : j < r.gens.length
      · rw [show (r.free j).gens = r.gens.set j none from rfl, getD_set_eq _ hl] at hx; cases hx
      · rw [show (r.free j).gens = r.gens.set j none from rfl, List.getD_eq_getElem?_getD, List.getElem?_eq_none (by rw [List.length_set]; omega)] at hx; cases hx
    · rw [show (r.free k).gens = r.gens.set k none from rfl, getD_set_ne _ hj] at hx; exact h.lt j x hx⟩
set_option maxRecDepth 100000 in
set_option maxHeartbeats 1600000 in
theorem free_own (ho : RlO g q bm ci w r) {z : Int} (z1 : -9223372036854775808 ≤ z) (z2 : z ≤ 9223372036854775807) :
    Calls Try.prog 36 #[.pointer (some ⟨q, 0, none⟩), .int .i64 z] w (fun e w' => e = .returned (.int .i64 (r.freeE z)) ∧ RlO g q bm ci w' (if r.freeE z = 0 then r.free z.toNat else r) ∧ But (fun k => k = q ∨ k = bm) w w') := by
  have H := Lib.hid ho
  have c2 : w.cell? ⟨q, 2, none⟩ = some (.int .i64 (r.segs : Int)) := ho.blk.cell 2
  have HZ := Lib.hid (And.intro z1 z2)
  have hs := ho.ok.small
  have hu := used_any ho z1 z2
  obtain ⟨u, hu0⟩ : ∃ u, u = usedG r.gens z := ⟨_, rfl⟩
  rw [← hu0] at hu
  have HU := Lib.hid hu
  have HU0 := Lib.hid hu0
  obtain ⟨E, hE⟩ : ∃ E, E = r.freeE z := ⟨_, rfl⟩
  have HE := Lib.hid (show E = if z < 0 ∨ (r.segs : Int) ≤ z then 2 else if u = false then 7 else if z = r.seg then 12 else 0 by rw [hE, hu0]; rfl)
  rw [← hE]
  clear hE hu hu0 ho z1 z2
  have same : ∀ E : Int, E ≠ 0 → ∀ {w4 : World}, Below w.heap.size w w4 → RlO g q bm ci w4 (if E = 0 then r.free z.toNat else r) ∧ But (fun k => k = q ∨ k = bm) w w4 := fun E hE w4 hb => ⟨by rw [if_neg hE]; exact H.out.below hb, but_below hb⟩
  have SM := Lib.hid same
  clear same
  by_cases h0 : z < 0
  · have d0 : decide (z < 0) = true := decide_eq_true h0
    rw [HE.out, if_pos (.inl h0)]
    clear h0 HE
    go_enter Try.func36, Try.ntmps36
    go_wp2_with fail
    go_ret
    exact ⟨rfl, SM.out 2 (by omega) (Below.refl _ _)⟩
  · have d0 : decide (z < 0) = false := decide_eq_false h0
    by_cases h1 : (r.segs : Int) ≤ z
    · have d1 : decide (z ≥ (r.segs : Int)) = true := decide_eq_true h1
      have d2 : decide ((r.segs : Int) ≤ z) = true := decide_eq_true h1
      rw [HE.out, if_pos (.inr h1)]
      clear h0 h1 HE
      go_enter Try.func36, Try.ntmps36
      go_wp2_with fail
      go_ret
      exact ⟨rfl, SM.out 2 (by omega) (Below.refl _ _)⟩
    · have d1 : decide (z ≥ (r.segs : Int)) = false := decide_eq_false h1
      have d2 : decide ((r.segs : Int) ≤ z) = false := decide_eq_false h1
      have HZ0 := Lib.hid (show 0 ≤ z ∧ z < (r.segs : Int) by omega)
      rw [HE.out, if_neg (by omega)]
      clear h0 h1 HE
      cases u with
      | false =>
        rw [if_pos rfl]
        go_enter Try.func36, Try.ntmps36
        go_wp2_with fail
        refine HU.out.mono ?_
        rintro e w2 ⟨rfl, bw⟩
        have BW := Lib.hid bw
        clear bw
        go_wp2_with fail
        go_ret
        exact ⟨rfl, SM.out 7 (by omega) BW.out⟩
      | true =>
        rw [if_neg (by simp)]
        have c6h : ∀ W, Below w.heap.size w W → W.cell? ⟨q, 6, none⟩ = some (.int .i64 r.seg) := fun W hb => (H.out.below hb).blk.cell 6
        have C6 := Lib.hid c6h
        clear c6h
        by_cases h2 : z = r.seg
        · have e2 : (z == r.seg) = true := by rw [h2]; exact beq_self_eq_true _
          rw [if_pos h2]
          clear h2
          go_enter Try.func36, Try.ntmps36
          go_wp2_with fail
          refine HU.out.mono ?_
          rintro e w2 ⟨rfl, bw⟩
          have BW := Lib.hid bw
          clear bw
          have c6 := C6.out _ BW.out
          go_wp2_with fail
          go_ret
          exact ⟨rfl, SM.out 12 (by omega) BW.out⟩
        · have e2 : (z == r.seg) = false := beq_eq_false_iff_ne.2 h2
          rw [if_neg h2]
          clear h2
          go_enter Try.func36, Try.ntmps36
          go_wp2_with fail
          refine HU.out.mono ?_
          rintro e w2 ⟨rfl, bw⟩
          have BW := Lib.hid bw
          have H2 := Lib.hid (H.out.below bw)
          clear bw
          have c6 := C6.out _ BW.out
          have c4 : w2.cell? ⟨q, 4, none⟩ = some (.map (some bm)) := H2.out.blk.cell 4
          obtain ⟨D, hD, hg⟩ := H2.out.map
          have HD := Lib.hid hD
          have HG := Lib.hid hg
          clear hD hg
          go_wp2_with (at_delete; refine wpList_delete_own _ rfl _ _ 165 3 rfl 77 lawI Try.underlying165 _ bm 4096 D rfl HD.out _ _ rfl (keyI HZ.out.1 HZ.out.2) ?_; intro w4 hown4 hturn4)
          have HB := Lib.hid (show But (fun k => k = q ∨ k = bm) w2 w4 from (but_grown hturn4.grown).mono (fun _ h => .inr h))
          have HO4 := Lib.hid hown4
          have HGR := Lib.hid hturn4.grown
          clear hown4 hturn4
          go_wp2_with fail
          go_ret
          obtain ⟨k, rfl⟩ := Int.eq_ofNat_of_zero_le HZ0.out.1
          have hk : k < r.gens.length := by have := HZ0.out.2; rw [H2.out.ok.gn]; omega
          refine ⟨rfl, ?_, Mi.but_step (but_below BW.out) HB.out (fun _ h => .inl h)⟩
          rw [Int.toNat_natCast]
          have hne := H2.out.ne
          exact ⟨H2.out.blk.but (but_grown HGR.out) hne, ⟨_, gmap_room HO4.out (HG.out.del hk) (by rw [List.length_set, H2.out.ok.gn]; have := H2.out.ok.small; omega), HG.out.del hk⟩, hne, H2.out.ok.free k⟩
theorem blk_setBlock {w : World} {q b : Nat} {cs : Array Value} {t : TypeId} (h : Blk w q cs t) (hb : ∃ a c, w.heap[b]? = some (.map a c)) (hne : q ≠ b) (o : Obj) : Blk (setBlock w b o) q cs t := by
  obtain ⟨a, c, hb⟩ := hb
  exact (heap_setBlock_other hb o hne).trans h
theorem but_setBlock {w : World} {b : Nat} (hb : ∃ a c, w.heap[b]? = some (.map a c)) (o : Obj) : But (fun k => k = b) w (setBlock w b o) := by
  obtain ⟨a, c, hb⟩ := hb
  exact but_grown ⟨rfl, rfl, rfl, by simp [setBlock], fun i _ hi => heap_setBlock_other hb _ (fun e => hi (by rw [e]))⟩
/-! ### Append -/
def Rl.put (r : Rl) (sg sl : Int) (gn : Nat) : Rl := ⟨r.segs, r.size, r.gens.set sg.toNat (some gn), max r.known gn, sg, sl + 1⟩
/-- The sector of the next body. -/
def Rl.at_ (r : Rl) (sg sl : Int) : Int := 2 + sg * (r.size : Int) + sl
theorem Rl.Ok.gen (h : r.Ok) (z : Int) : genG r.gens z < 18446744073709551616 := by
  unfold genG
  split
  · cases hx : r.gens.getD z.toNat none with
    | none => show 0 < _; omega
    | some x => exact h.lt _ _ hx
  · omega
theorem next_in (h : r.Ok) (hk : r.known < 18446744073709551615) {sg sl : Int} {gn : Nat} (hn : r.next = (sg, sl, gn, true)) : inS (r.segs : Int) (r.size : Int) sg sl ∧ gn < 18446744073709551616 := by
  have hs := h.small
  have hg := h.seg
  have hsl := h.slot
  unfold Rl.next at hn
  split at hn
  · rename_i hl
    simp only [Prod.mk.injEq] at hn
    obtain ⟨rfl, rfl, rfl, _⟩ := hn
    unfold Rl.left at hl
    split at hl
    · omega
    · exact ⟨⟨h.shape, by omega⟩, h.gen _⟩
  · split at hn
    · rename_i k hf
      simp only [Prod.mk.injEq] at hn
      obtain ⟨rfl, rfl, rfl, _⟩ := hn
      have hk2 := (freeG_lt hf).1
      rw [h.gn] at hk2
      exact ⟨⟨h.shape, by omega⟩, by omega⟩
    · simp only [Prod.mk.injEq] at hn
      exact absurd hn.2.2.2 (by simp)
theorem Rl.Ok.put (h : r.Ok) {sg sl : Int} {gn : Nat} (hi : inS (r.segs : Int) (r.size : Int) sg sl) (hg : gn < 18446744073709551616) : (r.put sg sl gn).Ok := by
  have hi2 := hi.2
  refine ⟨h.shape, by rw [Rl.put, List.length_set]; exact h.gn, by show -1 ≤ sg ∧ sg < (r.segs : Int); omega, by show 0 ≤ sl + 1 ∧ sl + 1 ≤ (r.size : Int); omega, ?_, fun j x hx => ?_⟩
  · have := h.known
    show max r.known gn < _
    omega
  · by_cases hj : j = sg.toNat
    · subst hj
      rw [show (r.put sg sl gn).gens = r.gens.set sg.toNat (some gn) from rfl, getD_set_eq _ (by rw [h.gn]; omega)] at hx
      injection hx with hx
      omega
    · rw [show (r.put sg sl gn).gens = r.gens.set sg.toNat (some gn) from rfl, getD_set_ne _ hj] at hx; exact h.lt j x hx
/-- What Append tells, and makes of it. -/
def apR (ci : SCiph) (s : Mr C) (r : Rl) (b : List UInt8) : (Int × Int) × Mr C × Rl :=
  if 103 < b.length then ((0, 3), s, r) else if r.next.2.2.2 = false then ((0, 6), s, r) else
    if (s.write (r.at_ r.next.1 r.next.2.1) (sealedS ci.f (r.at_ r.next.1 r.next.2.1) r.next.2.2.1 b)).1 = 0 then
      ((r.at_ r.next.1 r.next.2.1, 0), (s.write (r.at_ r.next.1 r.next.2.1) (sealedS ci.f (r.at_ r.next.1 r.next.2.1) r.next.2.2.1 b)).2, r.put r.next.1 r.next.2.1 r.next.2.2.1)
    else ((0, (s.write (r.at_ r.next.1 r.next.2.1) (sealedS ci.f (r.at_ r.next.1 r.next.2.1) r.next.2.2.1 b)).1), (s.write (r.at_ r.next.1 r.next.2.1) (sealedS ci.f (r.at_ r.next.1 r.next.2.1) r.next.2.2.1 b)).2, r)
theorem wp_run {P : Program} {o : Oper} {a : Act} {w w' : World} {K : Act → World → Prop} {Q : Exit → Act → World → Prop} {v : Value} (h : (execOp a.eval o).run P w = .ok (.value v) w') (hk : K (a.put o.dst v) w') : o.wp P a w K Q := by
  unfold Oper.wp
  rw [h]
  exact hk
theorem wp_skip {P : Program} {o : Oper} {a : Act} {w w' : World} {K : Act → World → Prop} {Q : Exit → Act → World → Prop} (h : (execOp a.eval o).run P w = .ok .skip w') (hk : K (a.put o.dst undef) w') : o.wp P a w K Q := by
  unfold Oper.wp
  rw [h]
  exact hk
section
variable {k : Nat} {A : Option Addr} {n c : Nat} {b : List UInt8}
set_option maxRecDepth 100000 in
set_option maxHeartbeats 1600000 in
theorem append_long (h : (LogR C G g q ci).At w (s, r) F) (hb : 103 < n) : Calls Try.prog 38 #[.pointer (some ⟨q, 0, none⟩), .slice A n c] w (RetA (LogR C G g q ci) (.tuple #[.int .i64 0, .int .i64 3]) (s, r) F w) := by
  have d1 : decide ((n : Int) > 103) = true := decide_eq_true (by omega)
  have d2 : decide (103 < (n : Int)) = true := decide_eq_true (by omega)
  have H := Lib.hid h
  clear h hb
  go_enter Try.func38, Try.ntmps38
  go_wp2_with fail
  exact bodyPost_ret (results_tmp2 Try.results38 _ _ _) rfl ⟨rfl, F, Mv.start H.out⟩
set_option maxRecDepth 100000 in
set_option maxHeartbeats 1600000 in
theorem append_full (h : (LogR C G g q ci).At w (s, r) F) (hb : n ≤ 103) (hk : r.known < 18446744073709551615) (hn : r.next.2.2.2 = false) : Calls Try.prog 38 #[.pointer (some ⟨q, 0, none⟩), .slice A n c] w (RetA (LogR C G g q ci) (.tuple #[.int .i64 0, .int .i64 6]) (s, r) F w) := by
  have d1 : decide ((n : Int) > 103) = false := decide_eq_false (by omega)
  have d2 : decide (103 < (n : Int)) = false := decide_eq_false (by omega)
  obtain ⟨bm, ho⟩ := logr_own h
  have hc := next_any ho hk
  obtain ⟨x1, h1⟩ : ∃ x, x = r.next.1 := ⟨_, rfl⟩
  obtain ⟨x2, h2⟩ : ∃ x, x = r.next.2.1 := ⟨_, rfl⟩
  obtain ⟨x3, h3⟩ : ∃ x, x = r.next.2.2.1 := ⟨_, rfl⟩
  unfold fourV at hc
  rw [← h1, ← h2, ← h3, hn] at hc
  have H := Lib.hid h
  have HC := Lib.hid hc
  clear h hb ho hk hn hc h1 h2 h3
  go_enter Try.func38, Try.ntmps38
  go_wp2_with fail
  refine HC.out.mono ?_
  rintro e w1 ⟨rfl, bw⟩
  have BW := Lib.hid bw
  clear bw
  go_wp2_with fail
  exact bodyPost_ret (results_tmp2 Try.results38 _ _ _) rfl ⟨rfl, F, (Mv.start H.out).below BW.out⟩
set_option maxRecDepth 100000 in
set_option maxHeartbeats 6400000 in
theorem append_raw (h : (LogR C G g q ci).At w (s, r) F) (hk : s.ok k) (hm : C.most s.d < 900000) (hkn : r.known < 18446744073709551615) (hb : b.length = n) (hr : Rd w.heap.size w A (bv b)) :
    Calls Try.prog 38 #[.pointer (some ⟨q, 0, none⟩), .slice A n c] w (RetA (LogR C G g q ci) (.tuple #[.int .i64 (apR ci s r b).1.1, .int .i64 (apR ci s r b).1.2]) (apR ci s r b).2 F w) := by
  by_cases hl : 103 < b.length
  · rw [apR, if_pos hl]; exact append_long h (by omega)
  by_cases hnx : r.next.2.2.2 = false
  · rw [apR, if_neg hl, if_pos hnx]; exact append_full h (by omega) hkn hnx
  have hnx' : r.next.2.2.2 = true := by cases hx : r.next.2.2.2; exact absurd hx hnx; rfl
  have d1 : decide ((n : Int) > 103) = false := decide_eq_false (by omega)
  have d2 : decide (103 < (n : Int)) = false := decide_eq_false (by omega)
  obtain ⟨RV, hRV⟩ : ∃ RV, RV = apR ci s r b := ⟨_, rfl⟩
  rw [← hRV]
  rw [apR, if_neg hl, if_neg hnx] at hRV
  obtain ⟨F1, F2, hm1, ⟨bm, ho, hq, hbm, h3⟩, hd, hF⟩ := h
  have ho : RlO g q bm ci w r := ho
  have hm1 : (ML C G g).At w s F1 := hm1
  have hc := next_any ho hkn
  obtain ⟨sg, h1⟩ : ∃ x, x = r.next.1 := ⟨_, rfl⟩
  obtain ⟨sl, h2⟩ : ∃ x, x = r.next.2.1 := ⟨_, rfl⟩
  obtain ⟨gn, h4⟩ : ∃ x, x = r.next.2.2.1 := ⟨_, rfl⟩
  unfold fourV at hc
  rw [← h1, ← h2, ← h4, hnx'] at hc
  rw [← h1, ← h2, ← h4] at hRV
  have hin := next_in ho.ok hkn (sg := sg) (sl := sl) (gn := gn) (by rw [h1, h2, h4, ← hnx'])
  clear h1 h2 h4 hnx hnx'
  obtain ⟨⟨i1, i2⟩, i3, i4⟩ := hin.1.2
  have hsm := ho.ok.small
  have him := in_mul hin.1
  obtain ⟨at_, hat⟩ : ∃ a, a = r.at_ sg sl := ⟨_, rfl⟩
  have hat2 : at_ = 2 + sg * (r.size : Int) + sl := hat
  have hat3 : 0 ≤ at_ ∧ at_ < 4096 := by
    have j3 : (0 : Int) ≤ sl := i3
    have j4 : sl < (r.size : Int) := i4
    have j5 := him.1
    have j6 := him.2.1
    have j7 := him.2.2.2
    rw [hat2]; omega
  rw [← hat] at hRV
  have hmay : mayS at_ b = true := decide_eq_true ⟨hat3.1, hat3.2, by omega⟩
  obtain ⟨y, hy⟩ : ∃ y, y = packS ci.f at_ gn b := ⟨_, rfl⟩
  have HY3 := Lib.hid (show y.length = 128 by rw [hy]; exact packS_length ci.len)
  have hpk := fun W (hR : Rd W.heap.size W A (bv b)) => pack_any ci at_ gn hin.2 A n c b W hb hR
  simp only [← hy, hmay] at hpk
  rw [packS, if_pos hmay] at hy
  rw [← hy] at hRV
  obtain ⟨ev, hev⟩ : ∃ e, e = (s.write at_ y).1 := ⟨_, rfl⟩
  obtain ⟨s2, hs2⟩ : ∃ e, e = (s.write at_ y).2 := ⟨_, rfl⟩
  rw [← hev, ← hs2] at hRV
  have hwr := fun W (h : (ML C G g).At W s F1) => mwrite_any h hk at_ y HY3.out hm
  simp only [← hev, ← hs2] at hwr
  have hse := fun W => sector_yes (r.segs : Int) (r.size : Int) sg sl hin.1 W
  simp only [← hat2] at hse
  obtain ⟨z, hz0⟩ : ∃ z : List UInt8, z = zeroS := ⟨_, rfl⟩
  have hz : ∀ W, (zeroValue 38).run Try.prog W = .ok (.agg (bva z)) W := fun _ => by rw [hz0]; kernel_rfl
  have HZ3 := Lib.hid (show z.length = 128 by rw [hz0]; exact zeroS_length)
  have HIY : Hid ((Try.prog.info? 38).map (·.size) = some (bva y).size) := by rw [bva_size, HY3.out]; exact info_sec
  have HC := Lib.hid hc
  have HSE := Lib.hid hse
  have HPK := Lib.hid hpk
  have HWR := Lib.hid hwr
  have HRV := Lib.hid hRV
  have HR := Lib.hid hr
  have HIN := Lib.hid hin
  have HO := Lib.hid ho
  have HM := Lib.hid hm1
  have H2F := Lib.hid (show F2 q ∧ F2 bm ∧ (∀ k, F2 k → k < w.heap.size) ∧ (∀ k, F1 k → F2 k → False) ∧ (∀ k, F k ↔ F1 k ∨ F2 k) from ⟨hq, hbm, h3, hd, hF⟩)
  have HKN := Lib.hid hkn
  have wsl : IntKind.i64.wrap (sl + 1) = sl + 1 := IntWalk.i64_in _ (by omega)
  clear hc hse hpk hwr hRV hr hin ho hm1 hq hbm h3 hd hF hz0 hev hs2 hy hmay hat3 hat2 hat him hsm i1 i2 i3 i4 hl hk hm hb hkn
  go_enter Try.func38, Try.ntmps38
  go_wp2_with fail
  refine HC.out.mono ?_
  rintro e w1 ⟨rfl, bw⟩
  have O1 := Lib.hid (HO.out.below bw)
  have M1 := Lib.hid ((Mv.start HM.out).below bw)
  have R1 := Lib.hid ((HR.out.below bw).more bw.size)
  clear bw HO HM HR
  have c2 : w1.cell? ⟨q, 2, none⟩ = some (.int .i64 (r.segs : Int)) := O1.out.blk.cell 2
  have c3 : w1.cell? ⟨q, 3, none⟩ = some (.int .i64 (r.size : Int)) := O1.out.blk.cell 3
  go_wp2_with fail
  refine (HSE.out w1).mono ?_
  rintro e w2 ⟨rfl, bw⟩
  have O2 := Lib.hid (O1.out.below bw)
  have M2 := Lib.hid (M1.out.below bw)
  have R2 := Lib.hid ((R1.out.below bw).more bw.size)
  clear bw O1 M1 R1 c2 c3
  have c1 : w2.cell? ⟨q, 1, none⟩ = some ci.v := O2.out.blk.cell 1
  go_wp2_with fail
  refine (HPK.out w2 R2.out).mono ?_
  rintro e w3 ⟨rfl, bw⟩
  have O3 := Lib.hid (O2.out.below bw)
  have M3 := Lib.hid (M2.out.below bw)
  clear bw O2 M2 R2 c1
  go_wp2_with (show wpList _ _ _ ({ dst := none, op := .store 38 (.tmp 12) (.tmp 50), type := _, pos := _, after := _, guard := _ } :: _) _ _; apply Classical.byContradiction; intro hneg)
  refine hneg ?_
  clear hneg
  refine wpList_store_row rfl 38 (.tmp 12) (.tmp 50) rfl w3.heap.size (bva y) rfl rfl 38 (bva z) (heap_alloc_new _ _) HIY.out (by rw [bva_size, bva_size, HY3.out, HZ3.out]) (bva_one _) ?_
  obtain ⟨w4, hw4⟩ : ∃ w4, w4 = (w3.alloc (.cells (bva z) 38)).setRow w3.heap.size (bva y) := ⟨_, rfl⟩
  have bw : Below w3.heap.size w3 w4 := by rw [hw4]; exact below_setRow ((Below.refl _ _).alloc (Nat.le_refl _) _) (Nat.le_refl _) _
  have X4 := Lib.hid (show Bx w w4 F1 w3.heap.size (bva y) 38 from Bx.new M3.out (by rw [hw4]; exact setRow_heap _ _ _ _ _ _ (heap_alloc_new _ _)) (Nat.le_refl _))
  have O4 := Lib.hid (O3.out.below bw)
  have M4 := Lib.hid (M3.out.below bw)
  rw [← hw4]
  clear hw4 bw O3 M3
  obtain ⟨b3, hb3⟩ : ∃ b3, b3 = w3.heap.size := ⟨_, rfl⟩
  rw [← hb3] at X4
  rw [← hb3]
  clear hb3
  go_wp2_with fail
  refine wp_region_held_drew (S := (fun w' => Blk w' q (rwC g ci bm r) 167 ∧ Blk w' b3 (bva y) 38)) (by kernel_rfl) ⟨O4.out.drew.blk, (X4.out.below (Below.refl _ _).drew).1⟩ (fun hh => ?_)
  have HH := Lib.hid hh
  clear hh
  refine wpAnyH_take (i := 0) (v := ?vw0) rfl (by kernel_rfl) (by kernel_rfl) (by kernel_rfl) (fun _ _ _ h => h) (Or.inl ⟨by rfl, fun w' _ => ?yw0⟩) HH.out ?_
  case yw0 => (go_simp; try with_reducible rfl)
  refine wpAnyH_take (i := 1) (v := ?vw1) rfl (by kernel_rfl) (by kernel_rfl) (by kernel_rfl) (fun _ _ _ h => h) (Or.inl ⟨by rfl, fun w' _ => ?yw1⟩) HH.out ?_
  case yw1 => (go_simp; try with_reducible rfl)
  try simp only [List.getElem_toArray, List.getElem_cons_succ, List.getElem_cons_zero, Act.put, List.setIfInBounds_toArray, List.set_cons_zero, List.set_cons_succ]
  refine wpAnyH_take (i := 2) (v := ?vw2) rfl (by kernel_rfl) (by kernel_rfl) (by kernel_rfl) (fun _ _ _ h => h) (Or.inl ⟨by rfl, fun w' _ => ?yw2⟩) HH.out ?_
  case yw2 => (go_simp; try with_reducible rfl)
  refine wpAnyH_take (i := 3) (v := .pointer (some ⟨g, 0, none⟩)) rfl (by kernel_rfl) (by kernel_rfl) (by kernel_rfl) (fun _ _ _ h => h) (Or.inl ⟨by rfl, fun w' hw' => ?lw3⟩) HH.out ?_
  case lw3 => (have hc : w'.cell? ⟨q, 0, none⟩ = some (.pointer (some ⟨g, 0, none⟩)) := hw'.1.cell 0; go_simp; try with_reducible rfl)
  try simp only [List.getElem_toArray, List.getElem_cons_succ, List.getElem_cons_zero, Act.put, List.setIfInBounds_toArray, List.set_cons_zero, List.set_cons_succ]
  refine wpAnyH_take (i := 4) (v := ?vw4) rfl (by kernel_rfl) (by kernel_rfl) (by kernel_rfl) (fun _ _ _ h => h) (Or.inl ⟨by rfl, fun w' _ => ?yw4⟩) HH.out ?_
  case yw4 => (go_simp; try with_reducible rfl)
  try simp only [List.getElem_toArray, List.getElem_cons_succ, List.getElem_cons_zero, Act.put, List.setIfInBounds_toArray, List.set_cons_zero, List.set_cons_succ]
  refine wpAnyH_take (i := 5) (v := .agg (bva y)) rfl (by kernel_rfl) (by kernel_rfl) (by kernel_rfl) (fun _ _ _ h => h) (Or.inl ⟨by rfl, fun w' hw' => ?yw5⟩) HH.out ?_
  case yw5 => exact exec_load 38 (.tmp 12) rfl rfl hw'.2 Try.underlying38 rfl HIY.out
  try simp only [List.getElem_toArray, List.getElem_cons_succ, List.getElem_cons_zero, Act.put, List.setIfInBounds_toArray, List.set_cons_zero, List.set_cons_succ]
  refine wpAnyH_ready (rs := [6]) (by kernel_rfl) (by simp) (AllReadyH.cons rfl (fun K hK => ?_) AllReadyH.nil)
  go_simp
  refine (HWR.out _ (M4.out.below (Below.refl _ _).drew).at_).mono ?_
  rintro e w5 ⟨rfl, F5, hmv⟩
  have M5 := Lib.hid ((M4.out.below (Below.refl _ _).drew).trans hmv)
  have O5 := Lib.hid (O4.out.drew.but hmv.but (fun h => H2F.out.2.2.2.1 q h H2F.out.1) (fun h => H2F.out.2.2.2.1 bm h H2F.out.2.1))
  have X5 := Lib.hid ((X4.out.below (Below.refl _ _).drew).step hmv)
  clear hmv
  go_simp
  refine hK.out _ _ ⟨O5.out.blk, X5.out.1⟩ (fun hh => ?_)
  have HH' := Lib.hid hh
  clear hh hK K HH O4 M4 X4
  have HH := Lib.hid HH'.out
  clear HH'
  refine wpAnyH_take (i := 7) (v := ?vw7) rfl (by kernel_rfl) (by kernel_rfl) (by kernel_rfl) (fun _ _ _ h => h) (Or.inl ⟨by rfl, fun w' _ => ?yw7⟩) HH.out ?_
  case yw7 => (go_simp; try with_reducible rfl)
  try simp only [List.getElem_toArray, List.getElem_cons_succ, List.getElem_cons_zero, Act.put, List.setIfInBounds_toArray, List.set_cons_zero, List.set_cons_succ]
  refine wpAnyH_done (by kernel_rfl) ?_ _
  clear HH X5 HWR HPK HSE HC
  by_cases he : ev = 0
  · subst he
    rw [if_pos rfl] at HRV
    go_wp2_with fail
    have S0P : w5.drew.cell? ⟨q, 4, none⟩ = some (.map (some bm)) := O5.out.drew.blk.cell 4
    have SP : w5.drew.cell? ⟨q, 5, none⟩ = some (.int .u64 (r.known : Int)) := O5.out.drew.blk.cell 5
    refine wp_region_late (S0 := fun w' => w'.cell? ⟨q, 4, none⟩ = some (.map (some bm))) (S := fun w' => w'.cell? ⟨q, 5, none⟩ = some (.int .u64 (r.known : Int))) (W := [18]) (by kernel_rfl) ?_
    refine wpAnyL_take0 (i := 0) (v := ?vL0) rfl (by kernel_rfl) (by kernel_rfl) (by kernel_rfl) (fun _ _ _ h => h) (by rfl) (Or.inl ⟨by rfl, fun w' hw' => ?yL0⟩) S0P (.inr SP) ?_
    case yL0 => (go_simp; try with_reducible rfl)
    refine wpAnyL_take0 (i := 1) (v := ?vL1) rfl (by kernel_rfl) (by kernel_rfl) (by kernel_rfl) (fun _ _ _ h => h) (by rfl) (Or.inl ⟨by rfl, fun w' hw' => ?yL1⟩) S0P (.inr SP) ?_
    case yL1 => (go_simp; try with_reducible rfl)
    refine wpAnyL_take0 (i := 2) (v := ?vL2) rfl (by kernel_rfl) (by kernel_rfl) (by kernel_rfl) (fun _ _ _ h => h) (by rfl) (Or.inl ⟨by rfl, fun w' hw' => ?yL2⟩) S0P (.inr SP) ?_
    case yL2 => (go_simp; try with_reducible rfl)
    refine wpAnyL_take0 (i := 3) (v := .map (some bm)) rfl (by kernel_rfl) (by kernel_rfl) (by kernel_rfl) (fun _ _ _ h => h) (by rfl) (Or.inl ⟨by rfl, fun w' hw' => ?yL3⟩) S0P (.inr SP) ?_
    case yL3 => (have hc : w'.cell? ⟨q, 4, none⟩ = some (.map (some bm)) := hw'; go_simp; try with_reducible rfl)
    refine wpAnyL_take0 (i := 4) (v := ?vL4) rfl (by kernel_rfl) (by kernel_rfl) (by kernel_rfl) (fun _ _ _ h => h) (by rfl) (Or.inl ⟨by rfl, fun w' hw' => ?yL4⟩) S0P (.inr SP) ?_
    case yL4 => (go_simp; try with_reducible rfl)
    refine wpAnyL_take0 (i := 5) (v := ?vL5) rfl (by kernel_rfl) (by kernel_rfl) (by kernel_rfl) (fun _ _ _ h => h) (by rfl) (Or.inl ⟨by rfl, fun w' hw' => ?yL5⟩) S0P (.inr SP) ?_
    case yL5 => (go_simp; try with_reducible rfl)
    refine wpAnyL_take0 (i := 6) (v := ?vL6) rfl (by kernel_rfl) (by kernel_rfl) (by kernel_rfl) (fun _ _ _ h => h) (by rfl) (Or.inl ⟨by rfl, fun w' hw' => ?yL6⟩) S0P (.inr SP) ?_
    case yL6 => (go_simp; try with_reducible rfl)
    refine wpAnyL_take0 (i := 7) (v := ?vL7) rfl (by kernel_rfl) (by kernel_rfl) (by kernel_rfl) (fun _ _ _ h => h) (by rfl) (Or.inl ⟨by rfl, fun w' hw' => ?yL7⟩) S0P (.inr SP) ?_
    case yL7 => (go_simp; try with_reducible rfl)
    refine wpAnyL_take0 (i := 8) (v := ?vL8) rfl (by kernel_rfl) (by kernel_rfl) (by kernel_rfl) (fun _ _ _ h => h) (by rfl) (Or.inl ⟨by rfl, fun w' hw' => ?yL8⟩) S0P (.inr SP) ?_
    case yL8 => (go_simp; try with_reducible rfl)
    refine wpAnyL_take0 (i := 9) (v := ?vL9) rfl (by kernel_rfl) (by kernel_rfl) (by kernel_rfl) (fun _ _ _ h => h) (by rfl) (Or.inl ⟨by rfl, fun w' hw' => ?yL9⟩) S0P (.inr SP) ?_
    case yL9 => (go_simp; try with_reducible rfl)
    refine wpAnyL_take (i := 10) (v := .int .u64 (r.known : Int)) rfl (by kernel_rfl) (by kernel_rfl) (by kernel_rfl) (fun _ _ _ h => h) (by kernel_rfl) (by rfl) (by rfl) (Or.inl ⟨by rfl, fun w' hw' => ?yL10⟩) ⟨S0P, SP⟩ ?_
    case yL10 => (have hc : w'.cell? ⟨q, 5, none⟩ = some (.int .u64 (r.known : Int)) := hw'.2; go_simp; try with_reducible rfl)
    refine wpAnyL_take0 (i := 11) (v := ?vL11) rfl (by kernel_rfl) (by kernel_rfl) (by kernel_rfl) (fun _ _ _ h => h) (by rfl) (Or.inl ⟨by rfl, fun w' hw' => ?yL11⟩) S0P (.inr SP) ?_
    case yL11 => (go_simp; try with_reducible rfl)
    refine wpAnyL_take0 (i := 12) (v := ?vL12) rfl (by kernel_rfl) (by kernel_rfl) (by kernel_rfl) (fun _ _ _ h => h) (by rfl) (Or.inl ⟨by rfl, fun w' hw' => ?yL12⟩) S0P (.inr SP) ?_
    case yL12 => (go_simp; try with_reducible rfl)
    try simp only [List.getElem_toArray, List.getElem_cons_succ, List.getElem_cons_zero, Act.put, List.setIfInBounds_toArray, List.set_cons_zero, List.set_cons_succ]
    refine wpAnyL_ready (rs := [13]) (by kernel_rfl) (by simp) (AllReadyL.cons rfl (fun K hK => ?_) AllReadyL.nil)
    rw [if_pos (by rfl)]
    obtain ⟨D, hD, hg⟩ := O5.out.drew.map
    have HG := Lib.hid hg
    have hu : u64P (.int .u64 (gn : Int)) = some (.lit (.int .u64 (gn : Int)), []) := u64_mk HIN.out.2
    obtain ⟨v, st, es1, cl1, hme, hst⟩ := place_store (t := 165) (e := 77) lawI Try.underlying165 (z := .int .u64 0) (by kernel_rfl) hD (by unfold maxLen; omega) (keyI (z := sg) (by have := HIN.out.1.2.1; omega) (by have := HIN.out.1.2.1; have := O5.out.ok.small; omega)) hu
    have hbm5 : ∃ a c, w5.drew.heap[bm]? = some (.map a c) := by obtain ⟨a, c, ha, _⟩ := hD; exact ⟨a, c, ha⟩
    clear hD hg hu
    refine wp_run (v := .tuple #[v, goInt st]) (w' := setBlock w5.drew bm (.map es1 cl1)) ?hme ?_
    case hme =>
      go_simp
    have X6 := Lib.hid (blk_setBlock O5.out.drew.blk hbm5 O5.out.ne (.map es1 cl1))
    have B6 := Lib.hid (but_setBlock hbm5 (.map es1 cl1))
    have N6 := Lib.hid (show (setBlock w5.drew bm (.map es1 cl1)).heap[bm]? = some (.map es1 cl1) by obtain ⟨a, c, ha⟩ := hbm5; exact heap_setBlock_same ha _)
    obtain ⟨w6, hw6⟩ : ∃ W, W = setBlock w5.drew bm (.map es1 cl1) := ⟨_, rfl⟩
    rw [← hw6] at X6 B6 N6
    rw [← hw6]
    clear hw6 hme hbm5 S0P SP
    obtain ⟨es2, cl2, hes, hown⟩ := hst w6 N6.out
    clear hst
    refine hK.out _ _ ⟨X6.out.cell 4, .inr (X6.out.cell 5)⟩ ?_
    clear hK K

    try simp only [List.getElem_toArray, List.getElem_cons_succ, List.getElem_cons_zero, Act.put, List.setIfInBounds_toArray, List.set_cons_zero, List.set_cons_succ]
    refine wpAnyL_take0 (i := 14) (v := ?vL14) rfl (by kernel_rfl) (by kernel_rfl) (by kernel_rfl) (fun _ _ _ h => h) (by rfl) (Or.inl ⟨by rfl, fun w' hw' => ?yL14⟩) (X6.out.cell 4) (.inr (X6.out.cell 5)) ?_
    case yL14 => (go_simp; try with_reducible rfl)
    try simp only [List.getElem_toArray, List.getElem_cons_succ, List.getElem_cons_zero, Act.put, List.setIfInBounds_toArray, List.set_cons_zero, List.set_cons_succ]
    refine wpAnyL_ready (rs := [15]) (by kernel_rfl) (by simp) (AllReadyL.cons rfl (fun K hK => ?_) AllReadyL.nil)
    rw [if_pos (by rfl)]
    have hes' : (Instr.entryStore 165 (.map (some bm)) (.int .i64 st) (.int .u64 (gn : Int))).run Try.prog w6 = .ok () (setBlock w6 bm (.map es2 cl2)) := hes
    refine wp_skip (w' := setBlock w6 bm (.map es2 cl2)) ?hes ?_
    case hes =>
      go_simp
    have X7 := Lib.hid (blk_setBlock X6.out ⟨_, _, N6.out⟩ O5.out.ne (.map es2 cl2))
    have B7 := Lib.hid (B6.out.trans (but_setBlock ⟨_, _, N6.out⟩ (.map es2 cl2)))
    have MP7 := Lib.hid hown
    obtain ⟨w7, hw7⟩ : ∃ W, W = setBlock w6 bm (.map es2 cl2) := ⟨_, rfl⟩
    rw [← hw7] at X7 B7 MP7
    rw [← hw7]
    clear hw7 hes hes' hown X6 B6 N6
    refine hK.out _ _ ⟨X7.out.cell 4, .inr (X7.out.cell 5)⟩ ?_
    clear hK K
    try simp only [List.getElem_toArray, List.getElem_cons_succ, List.getElem_cons_zero, Act.put]
    refine wpAnyL_take0 (i := 16) (v := ?vL16) rfl (by kernel_rfl) (by kernel_rfl) (by kernel_rfl) (fun _ _ _ h => h) (by rfl) (Or.inl ⟨by rfl, fun w' hw' => ?yL16⟩) (X7.out.cell 4) (.inr (X7.out.cell 5)) ?_
    case yL16 => (go_simp; try with_reducible rfl)
    refine wpAnyL_take0 (i := 17) (v := ?vL17) rfl (by kernel_rfl) (by kernel_rfl) (by kernel_rfl) (fun _ _ _ h => h) (by rfl) (Or.inl ⟨by rfl, fun w' hw' => ?yL17⟩) (X7.out.cell 4) (.inr (X7.out.cell 5)) ?_
    case yL17 => (go_simp; try with_reducible rfl)
    try simp only [List.getElem_toArray, List.getElem_cons_succ, List.getElem_cons_zero, Act.put]
    refine wpAnyL_ready (rs := [18]) (by kernel_rfl) (by simp) (AllReadyL.cons rfl (fun K hK => ?_) AllReadyL.nil)
    have y1 : w7.cell? ⟨q, 5, none⟩ = some (.int .u64 (r.known : Int)) := X7.out.cell 5
    have y2 := X7.out.free 5
    go_simp
    have hmx : (if r.known < gn then (gn : Int) else (r.known : Int)) = ((max r.known gn : Nat) : Int) := by split <;> omega
    rw [hmx]
    obtain ⟨w8, hw8⟩ : ∃ W, W = World.setCell w7 ⟨q, 5, none⟩ (.int .u64 ((max r.known gn : Nat) : Int)) := ⟨_, rfl⟩
    rw [← hw8]
    have X8 := Lib.hid (show Blk w8 q #[.pointer (some ⟨g, 0, none⟩), ci.v, .int .i64 (r.segs : Int), .int .i64 (r.size : Int), .map (some bm), .int .u64 ((max r.known gn : Nat) : Int), .int .i64 r.seg, .int .i64 r.slot] 167 by rw [hw8]; exact heap_setCell_same _ _ _ _ _ _ X7.out)
    have b8 : But (fun k => k = q) w7 w8 := by rw [hw8]; exact But.setCell (S := fun k => k = q) (But.refl _) (Or.inl rfl) _
    have MP8 := Lib.hid (gmap_but MP7.out b8 (fun e => O5.out.ne e.symm))
    have B8 := Lib.hid ((B7.out.mono (fun _ h => .inr h)).trans (b8.mono (T := fun k => k = q ∨ k = bm) (fun _ h => .inl h)))
    clear hw8 b8 y1 y2 hmx X7 MP7 B7
    refine hK.out _ _ ⟨X8.out.cell 4, .inl ⟨18, by simp, by kernel_rfl⟩⟩ ?_
    clear hK K
    try simp only [List.getElem_toArray, List.getElem_cons_succ, List.getElem_cons_zero, Act.put, List.setIfInBounds_toArray, List.set_cons_zero, List.set_cons_succ]
    refine wpAnyL_done (by kernel_rfl) ?_ _
    have y1 : w8.cell? ⟨q, 6, none⟩ = some (.int .i64 r.seg) := X8.out.cell 6
    have y2 : w8.cell? ⟨q, 7, none⟩ = some (.int .i64 r.slot) := X8.out.cell 7
    have y3 := X8.out.free 6
    have y4 := X8.out.free 7
    go_wp2_with fail
    obtain ⟨w9, hw9⟩ : ∃ W, W = World.setCell (World.setCell w8 ⟨q, 6, none⟩ (.int .i64 sg)) ⟨q, 7, none⟩ (.int .i64 (sl + 1)) := ⟨_, rfl⟩
    rw [← hw9]
    have X9 : Blk w9 q (rwC g ci bm (r.put sg sl gn)) 167 := by rw [hw9]; exact heap_setCell_same _ _ _ _ _ _ (heap_setCell_same _ _ _ _ _ _ X8.out)
    have b9 : But (fun k => k = q) w8 w9 := by rw [hw9]; exact But.setCell (S := fun k => k = q) (But.setCell (S := fun k => k = q) (But.refl _) (Or.inl rfl) _) (Or.inl rfl) _
    have hne := O5.out.ne
    have hkk : sg.toNat < r.gens.length := by have := HIN.out.1.2.1; rw [O5.out.ok.gn]; omega
    have hss : ((sg.toNat : Nat) : Int) = sg := by have := HIN.out.1.2.1; omega
    have hgp := HG.out.put hkk gn
    rw [hss] at hgp
    rw [HRV.out]
    exact bodyPost_ret (results_tmp2 Try.results38 _ _ _) rfl ⟨rfl, _, fin_own H2F.out (M5.out.below (Below.refl _ _).drew) ⟨X9, ⟨_, gmap_room (gmap_but MP8.out b9 (fun e => hne e.symm)) hgp (by rw [List.length_set, O5.out.ok.gn]; have := O5.out.ok.small; omega), hgp⟩, hne, O5.out.ok.put HIN.out.1 HIN.out.2⟩ (B8.out.trans (b9.mono (fun _ h => .inl h)))⟩
  · have he2 : (ev != 0) = true := bne_iff_ne.2 he
    rw [if_neg he] at HRV
    go_wp2_with fail
    rw [HRV.out]
    exact bodyPost_ret (results_tmp2 Try.results38 _ _ _) rfl ⟨rfl, _, fin_own H2F.out M5.out O5.out (But.refl _)⟩
end
end
end Go.Proofs.Ytnplhagfmfggcaa.Lo
/-
  A log, purely: what it knows, where the next body stands, what is found on two lists of sectors. No program.
-/
namespace Go.Proofs.Ytnplhagfmfggcaa.Lo
open Go.RowKit Kd Sx
/-- What a log knows: how many slots a segment has, of each segment its generation (0: it is free), the greatest one, the head and its next slot. -/
structure Lg where
  size : Nat
  gens : List Nat
  last : Nat
  h : Option (Nat × Nat)
/-- The free segment with the least number. -/
def freeK (gens : List Nat) : Option Nat := gens.findIdx? (· == 0)
/-- Where the next body stands: segment, slot, generation. -/
def Lg.next (l : Lg) : Option (Nat × Nat × Nat) :=
  match l.h with
  | some (s, j) => if j < l.size then some (s, j, l.gens.getD s 0) else (freeK l.gens).map fun k => (k, 0, l.last + 1)
  | none => (freeK l.gens).map fun k => (k, 0, l.last + 1)
/-- It stands there now. -/
def Lg.put (l : Lg) (p : Nat × Nat × Nat) : Lg := ⟨l.size, l.gens.set p.1 p.2.2, max l.last p.2.2, some (p.1, p.2.1 + 1)⟩
/-- The sector of a slot. -/
def Lg.at_ (l : Lg) (p : Nat × Nat × Nat) : Nat := 2 + p.1 * l.size + p.2.1
/-- How many slots the head has left. -/
def Lg.left (l : Lg) : Nat := match l.h with | some (_, j) => l.size - j | none => 0
def Lg.room (l : Lg) : Nat := l.left + (l.gens.filter (· == 0)).length * l.size
def Lg.headI (l : Lg) : Int := match l.h with | some (s, _) => s | none => -1
def Lg.slotI (l : Lg) : Int := match l.h with | some (_, j) => j | none => 0
def Lg.new (segs size : Nat) : Lg := ⟨size, List.replicate segs 0, 0, none⟩
/-- A segment is free from now on. -/
def Lg.free (l : Lg) (k : Nat) : Lg := { l with gens := l.gens.set k 0 }
def Lg.freeE (l : Lg) (k : Int) : Int :=
  if k < 0 ∨ (l.gens.length : Int) ≤ k then 2 else if l.gens.getD k.toNat 0 = 0 then 7 else if l.headI = k then 12 else 0
/-- What is so of every log: the head is a segment, and it has as many slots left as it has, or fewer; it is used. -/
structure Lg.Fine (l : Lg) : Prop where
  head : ∀ s j, l.h = some (s, j) → s < l.gens.length ∧ j ≤ l.size ∧ 0 < j ∧ l.gens.getD s 0 ≠ 0
  le : ∀ g ∈ l.gens, g ≤ l.last
theorem freeK_lt {gens : List Nat} {k : Nat} (h : freeK gens = some k) : k < gens.length ∧ gens.getD k 0 = 0 := by
  unfold freeK at h
  rw [List.findIdx?_eq_some_iff_getElem] at h
  obtain ⟨h1, h2, _⟩ := h
  refine ⟨h1, ?_⟩
  rw [List.getD_eq_getElem?_getD, List.getElem?_eq_getElem h1]
  simpa using h2
theorem freeK_some {gens : List Nat} {k : Nat} (hk : k < gens.length) (h0 : gens.getD k 0 = 0) (hb : ∀ j, j < k → gens.getD j 0 ≠ 0) : freeK gens = some k := by
  unfold freeK
  rw [List.findIdx?_eq_some_iff_getElem]
  refine ⟨hk, ?_, fun j hj => ?_⟩
  · rw [List.getD_eq_getElem?_getD, List.getElem?_eq_getElem hk] at h0
    simpa using h0
  · have := hb j hj
    rw [List.getD_eq_getElem?_getD, List.getElem?_eq_getElem (by omega)] at this
    simpa using this
theorem freeK_none {gens : List Nat} (hb : ∀ j, j < gens.length → gens.getD j 0 ≠ 0) : freeK gens = none := by
  unfold freeK
  rw [List.findIdx?_eq_none_iff]
  intro x hx
  obtain ⟨j, hj, rfl⟩ := List.mem_iff_getElem.1 hx
  have := hb j hj
  rw [List.getD_eq_getElem?_getD, List.getElem?_eq_getElem hj] at this
  simpa using this
/-- As a number: -1 where there is none. -/
def freeI (gens : List Nat) : Int := match freeK gens with | some k => (k : Int) | none => -1
theorem Lg.next_lt {l : Lg} (hf : l.Fine) {p : Nat × Nat × Nat} (h : l.next = some p) (h0 : 0 < l.size) : p.1 < l.gens.length ∧ p.2.1 < l.size ∧ 0 < p.2.2 := by
  have new : (freeK l.gens).map (fun k => (k, 0, l.last + 1)) = some p → p.1 < l.gens.length ∧ p.2.1 < l.size ∧ 0 < p.2.2 := by
    intro h
    cases hk : freeK l.gens with
    | none => rw [hk] at h; cases h
    | some k =>
      rw [hk] at h
      simp only [Option.map_some, Option.some.injEq] at h
      subst h
      exact ⟨(freeK_lt hk).1, h0, Nat.succ_pos _⟩
  unfold Lg.next at h
  split at h
  · rename_i s j hh
    split at h
    · rename_i hj
      simp only [Option.some.injEq] at h
      subst h
      obtain ⟨h1, _, _, h4⟩ := hf.head s j hh
      exact ⟨h1, hj, Nat.pos_of_ne_zero h4⟩
    · exact new h
  · exact new h
theorem Lg.put_fine {l : Lg} (hf : l.Fine) {p : Nat × Nat × Nat} (h : l.next = some p) (h0 : 0 < l.size) : (l.put p).Fine := by
  obtain ⟨h1, h2, h3⟩ := Lg.next_lt hf h h0
  constructor
  · intro s j hh
    simp only [Lg.put, Option.some.injEq, Prod.mk.injEq] at hh
    obtain ⟨rfl, rfl⟩ := hh
    refine ⟨by simp only [Lg.put, List.length_set]; exact h1, h2, Nat.succ_pos _, ?_⟩
    simp only [Lg.put, List.getD_eq_getElem?_getD, List.getElem?_set_self h1, Option.getD_some]
    omega
  · intro g hg
    simp only [Lg.put] at hg ⊢
    rcases List.mem_or_eq_of_mem_set hg with h4 | rfl
    · exact Nat.le_trans (hf.le g h4) (Nat.le_max_left _ _)
    · exact Nat.le_max_right _ _
theorem Lg.free_fine {l : Lg} (hf : l.Fine) {k : Int} (hk : l.freeE k = 0) : (l.free k.toNat).Fine := by
  constructor
  · intro s j hh
    obtain ⟨h1, h2, h3, h4⟩ := hf.head s j hh
    refine ⟨by simp only [Lg.free, List.length_set]; exact h1, h2, h3, ?_⟩
    have hne : k.toNat ≠ s := by
      intro e
      unfold Lg.freeE at hk
      split at hk
      · omega
      · split at hk
        · omega
        · split at hk
          · omega
          · rename_i a b c
            apply c
            rw [Lg.headI, show l.h = some (s, j) from hh]
            show (s : Int) = k
            omega
    simp only [Lg.free, List.getD_eq_getElem?_getD, List.getElem?_set_ne hne]
    simpa [List.getD_eq_getElem?_getD] using h4
  · intro g hg
    simp only [Lg.free] at hg ⊢
    rcases List.mem_or_eq_of_mem_set hg with h4 | rfl
    · exact hf.le g h4
    · exact Nat.zero_le _
theorem Lg.new_fine (segs size : Nat) : (Lg.new segs size).Fine :=
  by
  refine ⟨fun s j h => ?_, fun g hg => ?_⟩
  · have h' : (none : Option (Nat × Nat)) = some (s, j) := h
    cases h'
  · have h2 := (List.mem_replicate.1 (show g ∈ List.replicate segs 0 from hg)).2
    rw [h2]; exact Nat.zero_le _
/-! ### What is found -/
section
variable (f : List UInt8 → List UInt8 → List UInt8)
/-- What a list of sectors has at a place: the generation and the body, if it is a sealed sector of it. -/
def seenA (L : List (List UInt8)) (k : Nat) : Option (Nat × List UInt8) := if okS f k (L.getD k zeroS) then some (genS (L.getD k zeroS), bodyS (L.getD k zeroS)) else none
/-- Which sector of a place stands: the one with the greatest generation, of two alike the first one's. -/
def bestS (L0 L1 : List (List UInt8)) (k : Nat) : Option (List UInt8) :=
  if okS f k (L0.getD k zeroS) then (if okS f k (L1.getD k zeroS) && decide (genS (L0.getD k zeroS) < genS (L1.getD k zeroS)) then some (L1.getD k zeroS) else some (L0.getD k zeroS))
  else if okS f k (L1.getD k zeroS) then some (L1.getD k zeroS) else none
/-- What is found at a place. -/
def foundAt (L0 L1 : List (List UInt8)) (k : Nat) : Option (Nat × Nat × List UInt8) := (bestS f L0 L1 k).map fun s => (k, genS s, bodyS s)
/-- All that is found, in the order of the places from 2 up to N. -/
def baseF (L0 L1 : List (List UInt8)) (N : Nat) : List (Nat × Nat × List UInt8) := (List.range (N - 2)).filterMap fun i => foundAt f L0 L1 (i + 2)
/-- The one list, behind what was found was chosen, up to the place N. -/
def chosen (L0 L1 L : List (List UInt8)) : Nat → List (List UInt8)
  | 0 => L
  | k + 1 => match bestS f L0 L1 (k + 2) with
    | some s => (chosen L0 L1 L k).set (k + 2) s
    | none => chosen L0 L1 L k
theorem chosen_length (L0 L1 L : List (List UInt8)) (k : Nat) : (chosen f L0 L1 L k).length = L.length := by
  induction k with
  | zero => rfl
  | succ k ih =>
    rw [chosen]; split
    · rw [List.length_set]; exact ih
    · exact ih
/-- What stands there then. -/
theorem chosen_at (L0 L1 L : List (List UInt8)) {N j : Nat} (hN : N + 2 ≤ L.length) : (chosen f L0 L1 L N).getD j zeroS = if 2 ≤ j ∧ j < N + 2 then (bestS f L0 L1 j).getD (L.getD j zeroS) else L.getD j zeroS := by
  induction N with
  | zero => rw [chosen, if_neg (by omega)]
  | succ k ih =>
    have ih := ih (by omega)
    rw [chosen]
    by_cases hj : j = k + 2
    · subst hj
      rw [if_pos (by omega)]
      split
      · rename_i s hs
        rw [hs, List.getD_eq_getElem?_getD, List.getElem?_set_self (by rw [chosen_length]; omega)]; rfl
      · rename_i hs
        rw [hs, ih, if_neg (by omega)]; rfl
    · have e : (2 ≤ j ∧ j < k + 1 + 2) ↔ (2 ≤ j ∧ j < k + 2) := by omega
      split
      · rw [List.getD_eq_getElem?_getD, List.getElem?_set_ne (by omega), ← List.getD_eq_getElem?_getD, ih]
        simp only [e]
      · rw [ih]; simp only [e]
theorem best_ok {L0 L1 : List (List UInt8)} {k : Nat} {s : List UInt8} (h : bestS f L0 L1 k = some s) : okS f k s = true ∧ (s = L0.getD k zeroS ∨ s = L1.getD k zeroS) := by
  unfold bestS at h
  split at h
  · rename_i h0
    split at h
    · rename_i h1
      simp only [Option.some.injEq] at h; subst h
      exact ⟨(Bool.and_eq_true _ _ ▸ h1).1, .inr rfl⟩
    · simp only [Option.some.injEq] at h; subst h
      exact ⟨h0, .inl rfl⟩
  · split at h
    · rename_i h1
      simp only [Option.some.injEq] at h; subst h
      exact ⟨h1, .inr rfl⟩
    · cases h
theorem best_none {L0 L1 : List (List UInt8)} {k : Nat} (h : bestS f L0 L1 k = none) : okS f k (L0.getD k zeroS) = false ∧ okS f k (L1.getD k zeroS) = false := by
  unfold bestS at h
  split at h
  · split at h <;> cases h
  · rename_i h0
    split at h
    · cases h
    · rename_i h1
      exact ⟨by simpa using h0, by simpa using h1⟩
/-- Of one list. -/
theorem best_same {L : List (List UInt8)} {k : Nat} : bestS f L L k = if okS f k (L.getD k zeroS) then some (L.getD k zeroS) else none := by
  unfold bestS
  split
  · rename_i h
    rw [show decide (genS (L.getD k zeroS) < genS (L.getD k zeroS)) = false from decide_eq_false (Nat.lt_irrefl _), Bool.and_false]; rfl
  · rfl
/-- A second look finds the same. -/
theorem best_again (L0 L1 : List (List UInt8)) {N j : Nat} (h0 : N + 2 ≤ L0.length) (h1 : N + 2 ≤ L1.length) (hj : 2 ≤ j ∧ j < N + 2) : bestS f (chosen f L0 L1 L0 N) (chosen f L0 L1 L1 N) j = bestS f L0 L1 j := by
  cases hb : bestS f L0 L1 j with
  | some s =>
    have e0 : (chosen f L0 L1 L0 N).getD j zeroS = s := by rw [chosen_at f L0 L1 L0 h0, if_pos hj, hb]; rfl
    have e1 : (chosen f L0 L1 L1 N).getD j zeroS = s := by rw [chosen_at f L0 L1 L1 h1, if_pos hj, hb]; rfl
    unfold bestS
    rw [e0, e1, (best_ok f hb).1, if_pos rfl, show decide (genS s < genS s) = false from decide_eq_false (Nat.lt_irrefl _), Bool.and_false]; rfl
  | none =>
    have e0 : (chosen f L0 L1 L0 N).getD j zeroS = L0.getD j zeroS := by rw [chosen_at f L0 L1 L0 h0, if_pos hj, hb]; rfl
    have e1 : (chosen f L0 L1 L1 N).getD j zeroS = L1.getD j zeroS := by rw [chosen_at f L0 L1 L1 h1, if_pos hj, hb]; rfl
    obtain ⟨n0, n1⟩ := best_none f hb
    unfold bestS
    rw [e0, e1, n0, n1]; rfl
theorem fm_congr {α β : Type} {l : List α} {g h : α → Option β} (e : ∀ a ∈ l, g a = h a) : l.filterMap g = l.filterMap h := by
  induction l with
  | nil => rfl
  | cons a l ih =>
    rw [List.filterMap_cons, List.filterMap_cons, e a (by simp), ih (fun b hb => e b (by simp [hb]))]
theorem base_again (L0 L1 : List (List UInt8)) {N : Nat} (h0 : N + 2 ≤ L0.length) (h1 : N + 2 ≤ L1.length) : baseF f (chosen f L0 L1 L0 N) (chosen f L0 L1 L1 N) (N + 2) = baseF f L0 L1 (N + 2) := by
  unfold baseF
  refine fm_congr fun i hi => ?_
  have hi := List.mem_range.1 hi
  rw [foundAt, foundAt, best_again f L0 L1 h0 h1 (by omega)]
end
/-! ### What a log knows of what is found -/
/-- What is found at a place, taken in, in the order of the places. -/
def Lg.learn (l : Lg) (x : Nat × Nat × List UInt8) : Lg :=
  ⟨l.size, l.gens.set ((x.1 - 2) / l.size) (max (l.gens.getD ((x.1 - 2) / l.size) 0) x.2.1), max l.last x.2.1,
    if l.last < x.2.1 ∨ (l.last = x.2.1 ∧ l.h.map (·.1) = some ((x.1 - 2) / l.size)) then some ((x.1 - 2) / l.size, (x.1 - 2) % l.size + 1) else l.h⟩
def lgOf (segs size : Nat) (base : List (Nat × Nat × List UInt8)) : Lg := base.foldl Lg.learn (Lg.new segs size)
/-- The order of what is found: by its generation, and, of one generation, by its place. -/
def ltF (x y : Nat × Nat × List UInt8) : Prop := x.2.1 < y.2.1 ∨ (x.2.1 = y.2.1 ∧ x.1 < y.1)
end Go.Proofs.Ytnplhagfmfggcaa.Lo
/-
  The reference's log: New, Copy, Free, Append, Room.
-/
namespace Go.Proofs.Ytnplhagfmfggcaa.Lo
open Go.RowKit
attribute [local go_sem ↓] Go.wp_at_zero Go.wp_at_succ
/-- The cells of generations. -/
def gv (l : List Nat) : List Value := l.map fun (g : Nat) => Value.int .u64 (g : Int)
theorem gv_length (l : List Nat) : (gv l).length = l.length := by simp [gv]
theorem gv_get {l : List Nat} {k : Nat} (hk : k < l.length) : (gv l)[k]? = some (.int .u64 ((l.getD k 0 : Nat) : Int)) := by
  simp [gv, hk]
theorem gv_one (l : List Nat) : ∀ u ∈ gv l, u.oneCell' = true := by
  intro u hu
  simp only [gv, List.mem_map] at hu
  obtain ⟨c, _, rfl⟩ := hu
  rfl
theorem gv_set (l : List Nat) (k g : Nat) : (gv l).set k (.int .u64 (g : Int)) = gv (l.set k g) := by simp [gv, List.map_set]
/-- The reference's log as a value. -/
def rlC (l : Lg) (A : Option Addr) (n c : Nat) : Array Value := #[.int .i64 (l.size : Int), .int .i64 l.headI, .int .i64 l.slotI, .slice A n c, .int .u64 (l.last : Int)]
theorem zero_gv (s : Nat) : (madeCells (Value.int .u64 0).cells (s * 1)).toList = gv (List.replicate s 0) := by
  have e : (Value.int .u64 0).cells = #[Value.int .u64 0] := rfl
  rw [e, toList_madeCells_one]
  simp [gv]
theorem u64Elt : Elt Try.prog 76 77 (.int .u64 0) 8 := ⟨Try.underlying76, by kernel_rfl, rfl, by omega⟩
/-- It returns the log l, its generations in new memory. -/
def RetRL (l : Lg) (w : World) (e : Ending) (w' : World) : Prop :=
  ∃ A c, e = .returned (.agg (rlC l A l.gens.length c)) ∧ w'.ownsRow w.heap.size 77 1 (.slice A l.gens.length c) l.gens.length (gv l.gens) ∧ Below w.heap.size w w'
set_option maxRecDepth 100000 in
set_option maxHeartbeats 1600000 in
theorem rfree_any (l : Lg) (A : Option Addr) (n c : Nat) (hn : l.gens.length = n) (hs : n ≤ 1000) (w : World) (hr : Rd w.heap.size w A (gv l.gens)) :
    Calls Try.prog 92 #[.agg (rlC l A n c)] w (RetB (.int .i64 (freeI l.gens)) w) := by
  obtain ⟨W, hW⟩ : ∃ W, W = w.alloc (.cells (rlC l A n c) 79) := ⟨_, rfl⟩
  have B1 := Lib.hid (show Blk W w.heap.size (rlC l A n c) 79 by rw [hW]; exact heap_alloc_new _ _)
  have BB := Lib.hid (show Below w.heap.size w W by rw [hW]; exact (Below.refl w.heap.size w).alloc (Nat.le_refl _) _)
  have HR := Lib.hid (hr.below BB.out)
  have HN := Lib.hid hn
  clear hr hn
  go_enter Try.func92, Try.ntmps92
  go_wp2_with fail
  rw [show (w.alloc (Obj.cells (rlC l A n c) 79)) = W from hW.symm]
  clear hW
  have c0 : W.cell? ⟨w.heap.size, 3, none⟩ = some (.slice A n c) := B1.out.cell 3
  go_loop [3] (fun i => ∃ k : Nat, k ≤ n ∧ i = .int .i64 k ∧ Hid (∀ j, j < k → l.gens.getD j 0 ≠ 0)) (fun i => n - (intOf i).toNat)
  case atStart => exact ⟨0, Nat.zero_le _, rfl, Lib.hid (fun j hj => by omega)⟩
  case round =>
    obtain ⟨k, hk, rfl, HB⟩ := hrel
    by_cases hlt : k < n
    · have h0 : (k : Int) < (n : Int) := by omega
      have h1 : (0 : Int) ≤ (k : Int) := by omega
      obtain ⟨ad, hA, _, hc⟩ := HR.out k _ (gv_get (by rw [HN.out]; exact hlt))
      subst hA
      obtain ⟨g, hg⟩ : ∃ g, g = l.gens.getD k 0 := ⟨_, rfl⟩
      rw [← hg] at hc
      have HG := Lib.hid hg
      clear hg
      by_cases hz : g = 0
      · subst hz
        go_wp2_with fail
        go_ret
        refine ⟨?_, BB.out⟩
        rw [freeI, freeK_some (by rw [HN.out]; exact hlt) HG.out.symm HB.out]; rfl
      · have e1 : ((g : Int) == 0) = false := beq_eq_false_iff_ne.2 (by omega)
        have HZ := Lib.hid hz
        clear hz
        go_wp2_with fail
        go_round
        case rel => exact ⟨k + 1, by omega, by go_num, Lib.hid (fun j hj => by
          rcases Nat.lt_succ_iff_lt_or_eq.1 hj with h | rfl
          · exact HB.out j h
          · rw [← HG.out]; exact HZ.out)⟩
        case measure => simp [intOf]; omega
    · obtain rfl : n = k := by omega
      go_wp2_with fail
      go_ret
      refine ⟨?_, BB.out⟩
      rw [freeI, freeK_none (fun j hj => HB.out j (by rw [HN.out] at hj; exact hj))]; rfl
theorem room_take (l : List Nat) (k : Nat) (hk : k < l.length) : ((l.take (k + 1)).filter (· == 0)).length = ((l.take k).filter (· == 0)).length + (if l.getD k 0 = 0 then 1 else 0) := by
  rw [List.take_succ_eq_append_getElem hk, List.filter_append, List.length_append, List.getD_eq_getElem?_getD, List.getElem?_eq_getElem hk]
  congr 1
  by_cases h : l[k] = 0
  · simp [h]
  · simp [h]
theorem zeros_le (l : List Nat) (k : Nat) : ((l.take k).filter (· == 0)).length ≤ l.length :=
  Nat.le_trans (List.length_filter_le _ _) (by rw [List.length_take]; omega)
set_option maxRecDepth 100000 in
set_option maxHeartbeats 1600000 in
theorem rroom_any (l : Lg) (A : Option Addr) (n c : Nat) (hn : l.gens.length = n) (hs : n ≤ 1000) (hz : l.size ≤ 1000) (hf : l.Fine) (w : World) (hr : Rd w.heap.size w A (gv l.gens)) :
    Calls Try.prog 93 #[.agg (rlC l A n c)] w (RetB (.int .i64 (l.room : Int)) w) := by
  obtain ⟨W, hW⟩ : ∃ W, W = w.alloc (.cells (rlC l A n c) 79) := ⟨_, rfl⟩
  have B1 := Lib.hid (show Blk W w.heap.size (rlC l A n c) 79 by rw [hW]; exact heap_alloc_new _ _)
  have BB := Lib.hid (show Below w.heap.size w W by rw [hW]; exact (Below.refl w.heap.size w).alloc (Nat.le_refl _) _)
  have HR := Lib.hid (hr.below BB.out)
  have HN := Lib.hid hn
  obtain ⟨r, hr0⟩ : ∃ r : Nat, r = l.left := ⟨_, rfl⟩
  have HX := Lib.hid (show r ≤ 1000 by rw [hr0, Lg.left]; split <;> omega)
  have HRM := Lib.hid (show l.room = r + ((l.gens.take n).filter (· == 0)).length * l.size by
    rw [Lg.room, ← hr0, List.take_of_length_le (by rw [hn]; exact Nat.le_refl _)])
  obtain ⟨z, hz0⟩ : ∃ z, z = l.size := ⟨_, rfl⟩
  have HZ := Lib.hid (show z ≤ 1000 by rw [hz0]; exact hz)
  have hd : (decide (0 ≤ l.headI) = true ∧ IntKind.i64.wrap ((z : Int) - l.slotI) = (r : Int)) ∨ (decide (0 ≤ l.headI) = false ∧ r = 0) := by
    rw [hr0, Lg.left, Lg.headI, Lg.slotI]
    cases hh : l.h with
    | none => exact .inr ⟨by simp, rfl⟩
    | some p =>
      obtain ⟨s, j⟩ := p
      obtain ⟨_, h2, _⟩ := hf.head s j hh
      refine .inl ⟨decide_eq_true (by show (0 : Int) ≤ (s : Int); omega), ?_⟩
      show IntKind.i64.wrap ((z : Int) - (j : Int)) = ((l.size - j : Nat) : Int)
      rw [IntWalk.i64_in _ (by omega)]; omega
  clear hr hn hr0
  have c0 : W.cell? ⟨w.heap.size, 0, none⟩ = some (.int .i64 (z : Int)) := by rw [hz0]; exact B1.out.cell 0
  have c1 : W.cell? ⟨w.heap.size, 1, none⟩ = some (.int .i64 l.headI) := B1.out.cell 1
  have c2 : W.cell? ⟨w.heap.size, 2, none⟩ = some (.int .i64 l.slotI) := B1.out.cell 2
  have c3 : W.cell? ⟨w.heap.size, 3, none⟩ = some (.slice A n c) := B1.out.cell 3
  rw [← hz0] at HRM
  clear hz0 hz
  have HS := Lib.hid hs
  subst hW
  rcases hd with ⟨hd, he⟩ | ⟨hd, hr0⟩
  all_goals
    go_enter Try.func93, Try.ntmps93
    go_wp2_with fail
    obtain ⟨W, hW⟩ : ∃ W, W = w.alloc (.cells (rlC l A n c) 79) := ⟨_, rfl⟩
    rw [← hW] at HR BB B1 c0 c1 c2 c3 ⊢
    clear hW
    go_loop [3, 4] (fun m i => ∃ k : Nat, k ≤ n ∧ m = .int .i64 ((r + ((l.gens.take k).filter (· == 0)).length * z : Nat) : Int) ∧ i = .int .i64 k) (fun _ i => n - (intOf i).toNat)
    case atStart => exact ⟨0, Nat.zero_le _, int_eq (by simp; try omega), rfl⟩
    case round =>
      obtain ⟨k, hk, rfl, rfl⟩ := hrel
      obtain ⟨q, hq⟩ : ∃ q, q = ((l.gens.take k).filter (· == 0)).length := ⟨_, rfl⟩
      obtain ⟨u, hu⟩ : ∃ u, u = r + q * z := ⟨_, rfl⟩
      have HU := Lib.hid (show u = r + q * z ∧ u ≤ 1001000 from ⟨hu, by
        have h1 : q ≤ 1000 := by rw [hq]; exact Nat.le_trans (zeros_le _ _) (by rw [HN.out]; exact HS.out)
        have h2 : q * z ≤ 1000 * 1000 := Nat.mul_le_mul h1 HZ.out
        have := HX.out
        omega⟩)
      have HQ := Lib.hid hq
      rw [← hq, ← hu]
      clear hq hu
      by_cases hlt : k < n
      · have h0 : (k : Int) < (n : Int) := by omega
        have h1 : (0 : Int) ≤ (k : Int) := by omega
        obtain ⟨ad, hA, _, hc⟩ := HR.out k _ (gv_get (by rw [HN.out]; exact hlt))
        have hA' := hA
        have HT := Lib.hid (room_take l.gens k (by rw [HN.out]; exact hlt))
        obtain ⟨g, hg⟩ : ∃ g, g = l.gens.getD k 0 := ⟨_, rfl⟩
        rw [← hg] at hc HT
        clear hg
        rw [hA] at c3
        by_cases hz : g = 0
        · have HT2 := Lib.hid (show ((l.gens.take (k + 1)).filter (· == 0)).length = q + 1 by rw [HT.out, if_pos hz, ← HQ.out])
          subst hz
          have w1 : IntKind.i64.wrap ((u : Int) + (z : Int)) = ((u + z : Nat) : Int) := by
            have := HU.out.2
            have := HZ.out
            rw [IntWalk.i64_in _ (by omega)]; omega
          go_wp2_with fail
          go_round
          case rel => exact ⟨k + 1, by omega, int_eq (by rw [HT2.out, HU.out.1, Nat.add_mul]; omega), by go_num⟩
          case measure => simp [intOf]; omega
        · have HT2 := Lib.hid (show ((l.gens.take (k + 1)).filter (· == 0)).length = q by rw [HT.out, if_neg hz, ← HQ.out]; rfl)
          have e1 : ((g : Int) == 0) = false := beq_eq_false_iff_ne.2 (by omega)
          clear hz HT
          go_wp2_with fail
          go_round
          case rel => exact ⟨k + 1, by omega, int_eq (by rw [HT2.out, HU.out.1]), by go_num⟩
          case measure => simp [intOf]; omega
      · obtain rfl : n = k := by omega
        go_wp2_with fail
        go_ret
        refine ⟨?_, BB.out⟩
        rw [HRM.out, ← HQ.out, ← HU.out.1]; rfl
end Go.Proofs.Ytnplhagfmfggcaa.Lo
/-
  What is found, as a row of a call's own whose bodies are rows of its own.
-/
namespace Go.Proofs.Ytnplhagfmfggcaa.Lo
open Go.RowKit Mi
/-- A sector that is found: its place, its generation, its body, and where that lies. -/
structure Fd where
  at_ : Nat
  gen : Nat
  b : List UInt8
  A : Option Addr
  c : Nat
def Fd.it (x : Fd) : Nat × Nat × List UInt8 := (x.at_, x.gen, x.b)
def fdV (x : Fd) : List Value := [.int .i64 (x.at_ : Int), .int .u64 (x.gen : Int), .slice x.A x.b.length x.c]
def fds : List Fd → List Value
  | [] => []
  | x :: l => fdV x ++ fds l
theorem fds_append (l r : List Fd) : fds (l ++ r) = fds l ++ fds r := by
  induction l with
  | nil => rfl
  | cons x l ih => rw [List.cons_append, fds, fds, ih, List.append_assoc]
theorem fds_length (l : List Fd) : (fds l).length = l.length * 3 := by
  induction l with
  | nil => rfl
  | cons x l ih => rw [fds, List.length_append, ih, List.length_cons]; simp [fdV]; omega
theorem fds_get {l : List Fd} {k : Nat} {x : Fd} (h : l[k]? = some x) : (fds l)[k * 3]? = some (.int .i64 (x.at_ : Int)) ∧ (fds l)[k * 3 + 1]? = some (.int .u64 (x.gen : Int)) ∧ (fds l)[k * 3 + 2]? = some (.slice x.A x.b.length x.c) := by
  induction l generalizing k with
  | nil => simp at h
  | cons y l ih =>
    cases k with
    | zero =>
      simp at h
      subst h
      exact ⟨rfl, rfl, rfl⟩
    | succ k =>
      have := ih (k := k) (by simpa using h)
      rw [fds, show (k + 1) * 3 = k * 3 + 1 + 1 + 1 by omega]
      exact this
/-- All of its blocks. -/
def fdF (A : Option Addr) (n c : Nat) (l : List Fd) : Nat → Prop := fun k => (Value.slice A n c).ownBlock = some k ∨ ∃ x ∈ l, (Value.slice x.A x.b.length x.c).ownBlock = some k
section
variable {w : World} {l : List Fd} {A : Option Addr} {n c : Nat} {F : Nat → Prop}
end
end Go.Proofs.Ytnplhagfmfggcaa.Lo
/-
  What a log learns of what was found.
-/
namespace Go.Proofs.Ytnplhagfmfggcaa.Lo
open Go.RowKit Go.Maps Kd Mi Sx Sg
attribute [local go_sem ↓] Go.wp_at_zero Go.wp_at_succ
/-- One of what was found, in its order. -/
def Rl.learn (r : Rl) (x : Nat × Nat × List UInt8) : Rl :=
  if r.seg = -1 ∨ r.known < x.2.1 ∨ (((x.1 - 2) / r.size : Nat) : Int) = r.seg then ⟨r.segs, r.size, r.gens.set ((x.1 - 2) / r.size) (some x.2.1), x.2.1, (((x.1 - 2) / r.size : Nat) : Int), (((x.1 - 2) % r.size : Nat) : Int) + 1⟩
  else ⟨r.segs, r.size, r.gens.set ((x.1 - 2) / r.size) (some x.2.1), r.known, r.seg, r.slot⟩
theorem Rl.learn_segs (r : Rl) (x : Nat × Nat × List UInt8) : (r.learn x).segs = r.segs ∧ (r.learn x).size = r.size := by unfold Rl.learn; split <;> exact ⟨rfl, rfl⟩
theorem set_lt {gs : Gens} {i v : Nat} (h : ∀ k x, gs.getD k none = some x → x < 18446744073709551616) (hi : i < gs.length) (hv : v < 18446744073709551616) : ∀ k x, (gs.set i (some v)).getD k none = some x → x < 18446744073709551616 := by
  intro k x hx
  by_cases hk : k = i
  · subst hk
    rw [getD_set_eq _ hi] at hx
    injection hx with hx
    omega
  · rw [getD_set_ne _ hk] at hx; exact h k x hx
theorem Rl.Ok.learn {r : Rl} (h : r.Ok) {x : Nat × Nat × List UInt8} (h2 : 2 ≤ x.1) (hx : x.1 < 2 + r.segs * r.size) (hg : x.2.1 < 18446744073709551616) : (r.learn x).Ok := by
  have hs := h.small
  have hd : (x.1 - 2) / r.size < r.segs := (Nat.div_lt_iff_lt_mul (by omega)).2 (by omega)
  have hm : (x.1 - 2) % r.size < r.size := Nat.mod_lt _ (by omega)
  have hl := set_lt h.lt (i := (x.1 - 2) / r.size) (v := x.2.1) (by rw [h.gn]; exact hd) hg
  have key : ∀ i j : Nat, i < r.segs → j < r.size → (-1 ≤ (i : Int) ∧ (i : Int) < (r.segs : Int)) ∧ (0 ≤ (j : Int) + 1 ∧ (j : Int) + 1 ≤ (r.size : Int)) := fun i j h1 h2 => by omega
  obtain ⟨k1, k2⟩ := key _ _ hd hm
  unfold Rl.learn
  split
  · exact ⟨h.shape, by rw [List.length_set]; exact h.gn, k1, k2, hg, hl⟩
  · exact ⟨h.shape, by rw [List.length_set]; exact h.gn, h.seg, h.slot, h.known, hl⟩
section
variable {g q bm : Nat} {ci : SCiph} {w w' : World} {r : Rl} {FF : Nat → Prop}
/-- Its shape, as it is loaded. -/
theorem RlO.shapeAt (h : RlO g q bm ci w r) : ∀ j v, ([.int .i64 (r.segs : Int), .int .i64 (r.size : Int)] : List Value)[j]? = some v → w.cell? ((⟨q, 2, none⟩ : Addr).add j) = some v := by
  intro j v hv
  have : j = 0 ∨ j = 1 ∨ 2 ≤ j := by omega
  rcases this with rfl | rfl | hj
  · rw [show (⟨q, 2, none⟩ : Addr).add 0 = ⟨q, 2, none⟩ from rfl, h.blk.cell 2]; simpa [rwC] using hv
  · rw [show (⟨q, 2, none⟩ : Addr).add 1 = ⟨q, 3, none⟩ from rfl, h.blk.cell 3]; simpa [rwC] using hv
  · rw [List.getElem?_eq_none (by simpa using hj)] at hv; cases hv
theorem addr0 (g k : Nat) : (⟨g, 0, none⟩ : Addr).add k = ⟨g, k, none⟩ := by
  cases k with
  | zero => rfl
  | succ k => simp [Addr.add]
theorem gmap_of {gs : Gens} (h : ∃ D, w.ownsMap Try.prog 3 u64P bm 4096 D ∧ GenM D gs) {T : Nat → Prop} (hb : But T w w') (hs : ¬ T bm) : ∃ D, w'.ownsMap Try.prog 3 u64P bm 4096 D ∧ GenM D gs :=
  h.elim fun D hD => ⟨D, gmap_but hD.1 hb hs, hD.2⟩
def fdC (x : Fd) : Array Value := #[.int .i64 (x.at_ : Int), .int .u64 (x.gen : Int), .slice x.A x.b.length x.c]
end
end Go.Proofs.Ytnplhagfmfggcaa.Lo
/-
  What New tells: a log all of whose segments are free, or none.
-/
namespace Go.Proofs.Ytnplhagfmfggcaa.Lo
open Go.RowKit Go.Maps Kd Mi Sx Sg
attribute [local go_sem ↓] Go.wp_at_zero Go.wp_at_succ
def Rl.new (a b : Nat) : Rl := ⟨a, b, List.replicate a none, 0, -1, 0⟩
theorem Rl.new_ok {a b : Nat} (h : okS (a : Int) (b : Int)) : (Rl.new a b).Ok := by
  refine ⟨h, List.length_replicate, ?_, ?_, ?_, fun k x hx => ?_⟩
  · show (-1 : Int) ≤ -1 ∧ (-1 : Int) < (a : Int); omega
  · show (0 : Int) ≤ 0 ∧ (0 : Int) ≤ (b : Int); omega
  · show 0 < 18446744073709551616; omega
  · have e : ((List.replicate a (none : Option Nat)).getD k none) = none := by
      rw [List.getD_eq_getElem?_getD, List.getElem?_replicate]; split <;> rfl
    rw [show (Rl.new a b).gens = List.replicate a none from rfl, e] at hx
    cases hx
section
variable {C : Duo} {G : Gd} {g : Nat} {w : World} {s : Mr C} {F : Nat → Prop}
theorem lnew_nilM (ci : Value) (a b : Int) (w : World) : Calls Try.prog 86 #[.pointer none, ci, .agg #[.int .i64 a, .int .i64 b]] w (RetB (.tuple #[.pointer none, .int .i64 1]) w) := by
  have bb : Below w.heap.size w (w.alloc (.cells #[.int .i64 a, .int .i64 b] 71)) := (Below.refl _ _).alloc (Nat.le_refl _) _
  have BB := Lib.hid bb
  clear bb
  go_enter Try.func86, Try.ntmps86
  go_wp2_with fail
  exact bodyPost_ret (results_tmp2 Try.results86 _ _ _) rfl ⟨rfl, BB.out⟩
theorem lnew_nilC (g : Nat) (a b : Int) (w : World) : Calls Try.prog 86 #[.pointer (some ⟨g, 0, none⟩), .nilIface, .agg #[.int .i64 a, .int .i64 b]] w (RetB (.tuple #[.pointer none, .int .i64 1]) w) := by
  have bb : Below w.heap.size w (w.alloc (.cells #[.int .i64 a, .int .i64 b] 71)) := (Below.refl _ _).alloc (Nat.le_refl _) _
  have BB := Lib.hid bb
  clear bb
  go_enter Try.func86, Try.ntmps86
  go_wp2_with fail
  exact bodyPost_ret (results_tmp2 Try.results86 _ _ _) rfl ⟨rfl, BB.out⟩
set_option maxRecDepth 100000 in
set_option maxHeartbeats 1600000 in
theorem rnew_any (h : (ML C G g).At w s F) (ci : SCiph) (a b : Nat) (hok : okS (a : Int) (b : Int)) (hn : 2 + a * b ≤ s.a.length) :
    Calls Try.prog 86 #[.pointer (some ⟨g, 0, none⟩), ci.v, .agg #[.int .i64 a, .int .i64 b]] w (fun e w' => ∃ q F', e = .returned (.tuple #[.pointer (some ⟨q, 0, none⟩), .int .i64 0]) ∧ (LogR C G g q ci).At w' (s, Rl.new a b) F' ∧ (∀ k, F' k → F k ∨ w.heap.size ≤ k) ∧ Below w.heap.size w w') := by
  obtain ⟨W, hW⟩ : ∃ W, W = w.alloc (.cells #[.int .i64 (a : Int), .int .i64 (b : Int)] 71) := ⟨_, rfl⟩
  have B1 := Lib.hid (show Blk W w.heap.size #[.int .i64 (a : Int), .int .i64 (b : Int)] 71 by rw [hW]; exact heap_alloc_new _ _)
  have BB := Lib.hid (show Below w.heap.size w W by rw [hW]; exact (Below.refl w.heap.size w).alloc (Nat.le_refl _) _)
  have H := Lib.hid h
  have hck := fun W => check_yes (a : Int) (b : Int) hok W
  have hsc := fun W => sectors_yes (a : Int) (b : Int) hok W
  have hln := fun W (h : (ML C G g).At W s F) => mlen_any h
  obtain ⟨m, hm⟩ : ∃ m : Int, m = 2 + (a : Int) * (b : Int) := ⟨_, rfl⟩
  obtain ⟨l, hl⟩ : ∃ l : Nat, l = s.a.length := ⟨_, rfl⟩
  have hmul : ((a * b : Nat) : Int) = (a : Int) * (b : Int) := Int.natCast_mul _ _
  have d1 : decide (m > (l : Int)) = false := decide_eq_false (by omega)
  have d2 : decide ((l : Int) < m) = false := decide_eq_false (by omega)
  simp only [← hm] at hsc
  simp only [← hl] at hln
  have HCK := Lib.hid hck
  have HSC := Lib.hid hsc
  have HLN := Lib.hid hln
  have HOK := Lib.hid hok
  have HCV := Lib.hid (show ci.v = .iface ci.T ci.x from rfl)
  clear h hok hn hck hsc hln hm hl hmul
  unfold SCiph.v
  go_enter Try.func86, Try.ntmps86
  go_wp2_with fail
  rw [show (w.alloc (Obj.cells #[.int .i64 (a : Int), .int .i64 (b : Int)] 71)) = W from hW.symm]
  clear hW
  have c00 : W.cell? ⟨w.heap.size, 0, none⟩ = some (.int .i64 (a : Int)) := B1.out.cell 0
  have c01 : W.cell? ⟨w.heap.size, 1, none⟩ = some (.int .i64 (b : Int)) := B1.out.cell 1
  go_wp2_with fail
  refine (HCK.out _).mono ?_
  rintro e w2 ⟨rfl, bw⟩
  have B2 := Lib.hid (B1.out.below bw)
  have BB2 := Lib.hid (BB.out.trans (bw.mono BB.out.size))
  clear bw B1 BB c00 c01
  have c00 : w2.cell? ⟨w.heap.size, 0, none⟩ = some (.int .i64 (a : Int)) := B2.out.cell 0
  have c01 : w2.cell? ⟨w.heap.size, 1, none⟩ = some (.int .i64 (b : Int)) := B2.out.cell 1
  go_wp2_with fail
  refine (HSC.out _).mono ?_
  rintro e w3 ⟨rfl, bw⟩
  have B3 := Lib.hid (B2.out.below bw)
  have BB3 := Lib.hid (BB2.out.trans (bw.mono BB2.out.size))
  clear bw B2 BB2 c00 c01
  go_wp2_with fail
  refine (HLN.out _ ((ML C G g).below H.out BB3.out)).mono ?_
  rintro e w4 ⟨rfl, bw⟩
  have B4 := Lib.hid (B3.out.below bw)
  have BB4 := Lib.hid (BB3.out.trans (bw.mono BB3.out.size))
  clear bw B3 BB3
  have c00 : w4.cell? ⟨w.heap.size, 0, none⟩ = some (.int .i64 (a : Int)) := B4.out.cell 0
  have c01 : w4.cell? ⟨w.heap.size, 1, none⟩ = some (.int .i64 (b : Int)) := B4.out.cell 1
  have hmk : (Instr.makeMap 165 none).run Try.prog w4 = .ok (.map (some w4.heap.size)) (w4.alloc (.map #[] 0)) := rfl
  have HBLD := Lib.hid (show ∀ bm W, (Instr.build 167 #[(0, .pointer (some ⟨g, 0, none⟩)), (1, .iface ci.T ci.x), (2, .agg #[.int .i64 (a : Int), .int .i64 (b : Int)]), (3, .map (some bm)), (5, .int .i64 (-1))]).run Try.prog W = .ok (.agg (rwC g ci bm (Rl.new a b))) W from fun _ _ => by kernel_rfl)
  go_wp2_with (refine wpList_build rfl 167 #[(0, .tmp 26), (1, .tmp 27), (2, .tmp 28), (3, .tmp 29), (5, .const (.int .i64 (-1)))] rfl (v := .agg (rwC g ci w4.heap.size (Rl.new a b))) ?hbld ?_; case hbld => (simp only [List.map_toArray, List.map_cons, List.map_nil]; exact HBLD.out _ _))
  have HMP := Lib.hid (World.ownsMap_made w4 Try.prog 3 u64P)
  obtain ⟨bm, hbm⟩ : ∃ b, b = w4.heap.size := ⟨_, rfl⟩
  obtain ⟨w5, hw5⟩ : ∃ W, W = w4.alloc (.map #[] 0) := ⟨_, rfl⟩
  have B5 := Lib.hid (show Below w4.heap.size w4 w5 by rw [hw5]; exact (Below.refl _ _).alloc (Nat.le_refl _) _)
  have S5 := Lib.hid (show w5.heap.size = bm + 1 by rw [hw5, hbm]; simp)
  rw [← hw5, ← hbm] at HMP
  rw [← hw5, ← hbm]
  clear hw5 hmk
  have hge : w.heap.size ≤ bm := by rw [hbm]; exact BB4.out.size
  have b6 : Below w.heap.size w (w5.alloc (Obj.cells (rwC g ci bm (Rl.new a b)) 167)) := BB4.out.trans ((B5.out.mono (by rw [← hbm]; exact hge)).trans ((Below.refl _ _).alloc (Nat.le_trans (Nat.le_succ_of_le hge) (Nat.le_of_eq S5.out.symm)) _))
  have hX : Blk (w5.alloc (Obj.cells (rwC g ci bm (Rl.new a b)) 167)) (bm + 1) (rwC g ci bm (Rl.new a b)) 167 := by rw [← S5.out]; exact heap_alloc_new _ _
  have hlt : ∀ k, F k → k < w.heap.size := (ML C G g).lt H.out
  refine bodyPost_ret (results_tmp2 Try.results86 _ _ _) rfl ⟨bm + 1, fun k => F k ∨ (k = bm + 1 ∨ k = bm), rfl, ⟨F, fun k => k = bm + 1 ∨ k = bm, (ML C G g).below H.out b6, ⟨bm, ⟨hX, ⟨.map [], (World.ownsMap.alloc HMP.out _).mono (Nat.zero_le _), genM_empty a⟩, by omega, Rl.new_ok HOK.out⟩, .inl rfl, .inr rfl, ?_⟩, ?_, fun k => Iff.rfl⟩, ?_, b6⟩
  · rintro k (rfl | rfl)
    · exact hX.lt
    · exact Nat.lt_trans (Nat.lt_succ_self _) hX.lt
  · rintro k hk (rfl | rfl) <;> (have := hlt _ hk; omega)
  · rintro k (hk | rfl | rfl)
    · exact .inl hk
    · exact .inr (by omega)
    · exact .inr hge
set_option maxRecDepth 100000 in
set_option maxHeartbeats 1600000 in
theorem lnew_shape (h : (ML C G g).At w s F) (ci : SCiph) (a b : Int) (hn : ¬(okS a b ∧ 2 + a * b ≤ (s.a.length : Int))) :
    Calls Try.prog 86 #[.pointer (some ⟨g, 0, none⟩), ci.v, .agg #[.int .i64 a, .int .i64 b]] w (RetB (.tuple #[.pointer none, .int .i64 2]) w) := by
  obtain ⟨W, hW⟩ : ∃ W, W = w.alloc (.cells #[.int .i64 a, .int .i64 b] 71) := ⟨_, rfl⟩
  have B1 := Lib.hid (show Blk W w.heap.size #[.int .i64 a, .int .i64 b] 71 by rw [hW]; exact heap_alloc_new _ _)
  have BB := Lib.hid (show Below w.heap.size w W by rw [hW]; exact (Below.refl w.heap.size w).alloc (Nat.le_refl _) _)
  have H := Lib.hid h
  have c00 : W.cell? ⟨w.heap.size, 0, none⟩ = some (.int .i64 a) := B1.out.cell 0
  have c01 : W.cell? ⟨w.heap.size, 1, none⟩ = some (.int .i64 b) := B1.out.cell 1
  by_cases hok : okS a b
  · have hck := fun W => check_yes a b hok W
    have hsc := fun W => sectors_yes a b hok W
    have hln := fun W (h : (ML C G g).At W s F) => mlen_any h
    obtain ⟨m, hm⟩ : ∃ m : Int, m = 2 + a * b := ⟨_, rfl⟩
    obtain ⟨l, hl⟩ : ∃ l : Nat, l = s.a.length := ⟨_, rfl⟩
    have hgt : (l : Int) < m := by rw [hl, hm]; exact Int.not_le.1 (fun h => hn ⟨hok, h⟩)
    have d1 : decide (m > (l : Int)) = true := decide_eq_true hgt
    have d2 : decide ((l : Int) < m) = true := decide_eq_true hgt
    simp only [← hm] at hsc
    simp only [← hl] at hln
    have HCK := Lib.hid hck
    have HSC := Lib.hid hsc
    have HLN := Lib.hid hln
    clear h hok hn hck hsc hln hm hl hgt
    unfold SCiph.v
    go_enter Try.func86, Try.ntmps86
    go_wp2_with fail
    rw [show (w.alloc (Obj.cells #[.int .i64 a, .int .i64 b] 71)) = W from hW.symm]
    clear hW
    go_wp2_with fail
    refine (HCK.out _).mono ?_
    rintro e w2 ⟨rfl, bw⟩
    have B2 := Lib.hid (B1.out.below bw)
    have BB2 := Lib.hid (BB.out.trans (bw.mono BB.out.size))
    clear bw B1 BB c00 c01
    have c00 : w2.cell? ⟨w.heap.size, 0, none⟩ = some (.int .i64 a) := B2.out.cell 0
    have c01 : w2.cell? ⟨w.heap.size, 1, none⟩ = some (.int .i64 b) := B2.out.cell 1
    go_wp2_with fail
    refine (HSC.out _).mono ?_
    rintro e w3 ⟨rfl, bw⟩
    have BB3 := Lib.hid (BB2.out.trans (bw.mono BB2.out.size))
    clear bw B2 BB2 c00 c01
    go_wp2_with fail
    refine (HLN.out _ ((ML C G g).below H.out BB3.out)).mono ?_
    rintro e w4 ⟨rfl, bw⟩
    have BB4 := Lib.hid (BB3.out.trans (bw.mono BB3.out.size))
    clear bw BB3
    go_wp2_with fail
    exact bodyPost_ret (results_tmp2 Try.results86 _ _ _) rfl ⟨rfl, BB4.out⟩
  · have HCK := Lib.hid (fun W => check_no a b hok W)
    clear h hok hn
    unfold SCiph.v
    go_enter Try.func86, Try.ntmps86
    go_wp2_with fail
    rw [show (w.alloc (Obj.cells #[.int .i64 a, .int .i64 b] 71)) = W from hW.symm]
    clear hW
    go_wp2_with fail
    refine (HCK.out _).mono ?_
    rintro e w2 ⟨rfl, bw⟩
    have BB2 := Lib.hid (BB.out.trans (bw.mono BB.out.size))
    clear bw B1 BB c00 c01
    go_wp2_with fail
    exact bodyPost_ret (results_tmp2 Try.results86 _ _ _) rfl ⟨rfl, BB2.out⟩
end
theorem logr_step {C : Duo} {G : Gd} {g q : Nat} {ci : SCiph} {w : World} {s : Mr C} {r : Rl} {F : Nat → Prop} (h : (LogR C G g q ci).At w (s, r) F) :
    ∃ bm, RlO g q bm ci w r ∧ F q ∧ F bm ∧ ∀ {w' : World} {r' : Rl}, RlO g q bm ci w' r' → But (fun k => k = q ∨ k = bm) w w' → ∃ F', Mv (LogR C G g q ci) w F w' (s, r') F' := by
  obtain ⟨F1, F2, h1, ⟨bm, ho, hq, hbm, h3⟩, hd, hF⟩ := h
  exact ⟨bm, ho, (hF q).2 (.inr hq), (hF bm).2 (.inr hbm), fun hr hb => ⟨_, fin_own ⟨hq, hbm, h3, hd, hF⟩ (Mv.start h1) hr hb⟩⟩
end Go.Proofs.Ytnplhagfmfggcaa.Lo
/-
  A log, purely, as its cells tell of it: the two descriptions.
-/
namespace Go.Proofs.Ytnplhagfmfggcaa.Lo
open Go.RowKit Mi Sx Sg
def optG (g : Nat) : Option Nat := if g = 0 then none else some g
def rlOf (l : Lg) : Rl := ⟨l.gens.length, l.size, l.gens.map optG, l.last, l.headI, l.slotI⟩
theorem optG_getD (g : Nat) : (optG g).getD 0 = g := by unfold optG; split <;> simp_all
theorem optG_some (g : Nat) : (optG g).isSome = decide (g ≠ 0) := by unfold optG; split <;> simp_all
theorem rl_getD (gs : List Nat) (k : Nat) : (gs.map optG).getD k none = optG (gs.getD k 0) := by
  rw [List.getD_eq_getElem?_getD, List.getElem?_map, List.getD_eq_getElem?_getD]
  cases gs[k]? <;> rfl
theorem rl_used (l : Lg) (z : Int) : usedG (rlOf l).gens z = decide (0 ≤ z ∧ l.gens.getD z.toNat 0 ≠ 0) := by
  rw [usedG, show (rlOf l).gens = l.gens.map optG from rfl, rl_getD, optG_some]
  by_cases h : 0 ≤ z <;> simp [h]
theorem rl_gen (l : Lg) (z : Int) : genG (rlOf l).gens z = if 0 ≤ z then l.gens.getD z.toNat 0 else 0 := by
  rw [genG, show (rlOf l).gens = l.gens.map optG from rfl, rl_getD, optG_getD]
theorem rl_new (a b : Nat) : rlOf (Lg.new a b) = Rl.new a b := by
  unfold rlOf Lg.new Rl.new
  simp [Lg.headI, Lg.slotI, optG]
theorem rl_left {l : Lg} (hf : l.Fine) : (rlOf l).left = (l.left : Int) := by
  rw [Rl.left, Lg.left]
  show (if l.headI = -1 then (0 : Int) else (l.size : Int) - l.slotI) = _
  unfold Lg.headI Lg.slotI
  cases hh : l.h with
  | none => rfl
  | some p =>
    obtain ⟨s, j⟩ := p
    have := (hf.head s j hh).2.1
    show (if (s : Int) = -1 then (0 : Int) else (l.size : Int) - (j : Int)) = ((l.size - j : Nat) : Int)
    rw [if_neg (by omega)]
    omega
theorem rl_free (gs : List Nat) : freeG (gs.map optG) = freeK gs := by
  unfold freeG freeK
  rw [List.findIdx?_map]
  congr 1
  funext g
  show (optG g).isNone = (g == 0)
  unfold optG
  split <;> simp_all
theorem rl_next {l : Lg} (hf : l.Fine) : (rlOf l).next = match l.next with | some p => ((p.1 : Int), (p.2.1 : Int), p.2.2, true) | none => (0, 0, 0, false) := by
  rw [Rl.next, rl_left hf, show (rlOf l).gens = l.gens.map optG from rfl, rl_free]
  unfold Lg.next Lg.left
  cases hh : l.h with
  | none =>
    rw [if_neg (by show ¬ (0 : Int) < ((0 : Nat) : Int); omega)]
    show (match freeK l.gens with | some k => ((k : Int), (0 : Int), l.last + 1, true) | none => (0, 0, 0, false)) = _
    cases freeK l.gens <;> rfl
  | some p =>
    obtain ⟨s, j⟩ := p
    show (if (0 : Int) < ((l.size - j : Nat) : Int) then _ else _) = _
    by_cases hj : j < l.size
    · rw [if_pos (by omega)]
      have e1 : (rlOf l).seg = (s : Int) := by show l.headI = _; rw [Lg.headI, hh]
      have e2 : (rlOf l).slot = (j : Int) := by show l.slotI = _; rw [Lg.slotI, hh]
      have e3 : genG (l.gens.map optG) (s : Int) = l.gens.getD s 0 := by
        have := rl_gen l (s : Int)
        rw [if_pos (by omega), Int.toNat_natCast] at this
        exact this
      rw [e1, e2, e3]
      simp only [hj, if_true]
    · rw [if_neg (by omega)]
      simp only [hj, if_false]
      show (match freeK l.gens with | some k => ((k : Int), (0 : Int), l.last + 1, true) | none => (0, 0, 0, false)) = _
      cases freeK l.gens <;> rfl
theorem rl_put (l : Lg) {p : Nat × Nat × Nat} (h : p.2.2 ≠ 0) : rlOf (l.put p) = (rlOf l).put (p.1 : Int) (p.2.1 : Int) p.2.2 := by
  unfold rlOf Lg.put Rl.put
  simp only [List.length_set, List.map_set, Int.toNat_natCast]
  rw [show optG p.2.2 = some p.2.2 from if_neg h]
  rfl
theorem rl_freeSeg (l : Lg) (k : Nat) : rlOf (l.free k) = (rlOf l).free k := by
  unfold rlOf Lg.free Rl.free
  simp only [List.length_set, List.map_set]
  rw [show optG 0 = none from if_pos rfl]
  rfl
theorem rl_cnt (gs : List Nat) : cntG (gs.map optG) + (gs.filter (· == 0)).length = gs.length := by
  induction gs with
  | nil => rfl
  | cons g gs ih =>
    rw [cntG] at ih ⊢
    rw [List.map_cons]
    by_cases h : g = 0
    · subst h
      rw [show optG 0 = none from if_pos rfl]
      simp at ih ⊢
      omega
    · rw [show optG g = some g from if_neg h]
      simp [h] at ih ⊢
      omega
theorem rl_room {l : Lg} (hf : l.Fine) : (rlOf l).room = (l.room : Int) := by
  rw [Rl.room, rl_left hf, Lg.room]
  have h := rl_cnt l.gens
  show (l.left : Int) + ((l.gens.length : Int) - (cntG (l.gens.map optG) : Int)) * (l.size : Int) = _
  rw [show (l.gens.length : Int) - (cntG (l.gens.map optG) : Int) = ((l.gens.filter (· == 0)).length : Int) by omega]
  push_cast
  rfl
/-- What is found, learnt in an order in which the generations don't fall. -/
theorem rl_learn {l : Lg} {x : Nat × Nat × List UInt8} (h1 : 1 ≤ x.2.1) (h2 : l.last ≤ x.2.1) (h3 : ∀ g ∈ l.gens, g ≤ l.last) (h4 : l.h = none → l.last = 0) : rlOf (l.learn x) = (rlOf l).learn x := by
  obtain ⟨i, hi⟩ : ∃ i, i = (x.1 - 2) / l.size := ⟨_, rfl⟩
  obtain ⟨j, hj⟩ : ∃ j, j = (x.1 - 2) % l.size := ⟨_, rfl⟩
  have hg : max (l.gens.getD i 0) x.2.1 = x.2.1 := by
    have : l.gens.getD i 0 ≤ l.last := by
      rw [List.getD_eq_getElem?_getD]
      cases hx : l.gens[i]? with
      | none => exact Nat.zero_le _
      | some g => exact h3 g (List.mem_of_getElem? hx)
    omega
  have hm : max l.last x.2.1 = x.2.1 := by omega
  have hgs : (rlOf l).gens.set i (some x.2.1) = (l.gens.set i x.2.1).map optG := by
    rw [List.map_set, show optG x.2.1 = some x.2.1 from if_neg (by omega)]; rfl
  unfold Lg.learn Rl.learn
  rw [← hi, ← hj]
  show rlOf ⟨l.size, l.gens.set i (max (l.gens.getD i 0) x.2.1), max l.last x.2.1, _⟩ = if l.headI = -1 ∨ l.last < x.2.1 ∨ (((x.1 - 2) / l.size : Nat) : Int) = l.headI then ⟨l.gens.length, l.size, (rlOf l).gens.set ((x.1 - 2) / l.size) (some x.2.1), x.2.1, (((x.1 - 2) / l.size : Nat) : Int), (((x.1 - 2) % l.size : Nat) : Int) + 1⟩ else ⟨l.gens.length, l.size, (rlOf l).gens.set ((x.1 - 2) / l.size) (some x.2.1), l.last, l.headI, l.slotI⟩
  rw [← hi, ← hj, hg, hm, hgs]
  have key : (l.headI = -1 ∨ l.last < x.2.1 ∨ (i : Int) = l.headI) ↔ (l.last < x.2.1 ∨ (l.last = x.2.1 ∧ l.h.map (·.1) = some i)) := by
    unfold Lg.headI
    cases hh : l.h with
    | none =>
      have := h4 hh
      constructor
      · exact fun _ => .inl (by omega)
      · exact fun _ => .inl rfl
    | some p =>
      obtain ⟨s, t⟩ := p
      constructor
      · rintro (h | h | h)
        · have h : (s : Int) = -1 := h
          omega
        · exact .inl h
        · have h : (i : Int) = (s : Int) := h
          by_cases e : l.last < x.2.1
          · exact .inl e
          · exact .inr ⟨by omega, by simp; omega⟩
      · rintro (h | ⟨_, h⟩)
        · exact .inr (.inl h)
        · simp at h
          exact .inr (.inr (by show (i : Int) = (s : Int); omega))
  by_cases hc : l.last < x.2.1 ∨ (l.last = x.2.1 ∧ l.h.map (·.1) = some i)
  · rw [if_pos hc, if_pos (key.2 hc)]
    unfold rlOf
    simp only [List.length_set]
    rfl
  · rw [if_neg hc, if_neg (fun h => hc (key.1 h))]
    have e : x.2.1 = l.last := by omega
    unfold rlOf
    simp only [List.length_set, e]
    rfl
end Go.Proofs.Ytnplhagfmfggcaa.Lo
/-
  A log, and the mirror that it has: what Flush and Read tell.
-/
namespace Go.Proofs.Ytnplhagfmfggcaa.Lo
open Go.RowKit Go.Maps Kd Mi Sx Sg
attribute [local go_sem ↓] Go.wp_at_zero Go.wp_at_succ
section
variable {C : Duo} {G : Gd} {g q bm : Nat} {ci : SCiph} {w w' : World} {s s' : Mr C} {r r' : Rl} {F1 F2 F5 F T : Nat → Prop}
set_option maxRecDepth 100000 in
theorem rflush_any (h : (LogR C G g q ci).At w (s, r) F) : Calls Try.prog 37 #[.pointer (some ⟨q, 0, none⟩)] w (RetA (LogR C G g q ci) (.int .i64 s.flush.1) (s.flush.2, r) F w) := by
  obtain ⟨F1, F2, hm, ⟨bm, ho, hq, hbm, h3⟩, hd, hF⟩ := h
  have ho : RlO g q bm ci w r := ho
  have hm : (ML C G g).At w s F1 := hm
  have c0 : w.cell? ⟨q, 0, none⟩ = some (.pointer (some ⟨g, 0, none⟩)) := ho.blk.cell 0
  have HC := Lib.hid (mflushm_any hm)
  have HO := Lib.hid ho
  have H2F := Lib.hid (show F2 q ∧ F2 bm ∧ (∀ k, F2 k → k < w.heap.size) ∧ (∀ k, F1 k → F2 k → False) ∧ (∀ k, F k ↔ F1 k ∨ F2 k) from ⟨hq, hbm, h3, hd, hF⟩)
  obtain ⟨s2, hs2⟩ : ∃ x, x = s.flush.2 := ⟨_, rfl⟩
  obtain ⟨v, hv⟩ : ∃ x, x = s.flush.1 := ⟨_, rfl⟩
  rw [← hs2, ← hv] at HC
  rw [← hs2, ← hv]
  clear hm ho hs2 hv hq hbm h3 hd hF
  go_enter Try.func37, Try.ntmps37
  go_wp2_with fail
  refine HC.out.mono ?_
  rintro e w1 ⟨rfl, F5, hmv⟩
  have HMV := Lib.hid hmv
  clear hmv
  go_wp2_with fail
  go_ret
  exact ⟨rfl, _, fin_own H2F.out HMV.out (HO.out.but HMV.out.but (fun h => H2F.out.2.2.2.1 q h H2F.out.1) (fun h => H2F.out.2.2.2.1 bm h H2F.out.2.1)) (But.refl _)⟩
/-! ### Read -/
/-- What Read tells: the body, and the error. -/
def rdR (ci : SCiph) (G : Gd) (s : Mr C) (r : Rl) (k : Int) : List UInt8 × Int :=
  if (2 ≤ k ∧ k < 2 + (r.segs : Int) * (r.size : Int)) ∧ usedG r.gens ((k - 2) / (r.size : Int)) = true then
    (if (readM C G s k).2 = 0 then (if okS ci.f k (readM C G s k).1 = true ∧ genS (readM C G s k).1 = genG r.gens ((k - 2) / (r.size : Int)) then (bodyS (readM C G s k).1, 0) else ([], 9)) else ([], (readM C G s k).2))
  else ([], 2)
/-- It returns bytes in new memory, and a number; what is laid is as it was. -/
def RetN (L : Laid) (x : L.St) (b : List UInt8) (k : Int) (F : Nat → Prop) (w : World) (e : Ending) (w' : World) : Prop :=
  ∃ A n c, e = .returned (.tuple #[.slice A n c, .int .i64 k]) ∧ w'.ownsRow w.heap.size 5 1 (.slice A n c) n (bv b) ∧ ∃ F', Mv L w F w' x F' ∧ ∀ j, (Value.slice A n c).ownBlock = some j → ¬F' j
theorem RetN.nil {L : Laid} {x : L.St} {k : Int} (h : ∃ F', Mv L w F w' x F') : RetN L x [] k F w (.returned (.tuple #[.slice none 0 0, .int .i64 k])) w' := by
  obtain ⟨F', h⟩ := h
  exact ⟨none, 0, 0, rfl, World.ownsRow_nil _ _ _ _, F', h, fun j hj => by cases hj⟩
theorem readM_len (h : (ML C G g).At w s F) (k : Int) : (readM C G s k).1.length = 128 := by
  obtain ⟨A, n, c, B, m, e, F1, hr, _⟩ := h
  unfold readM
  split
  · split
    · exact C.rd_len hr.d (by omega)
    · split
      · exact C.rd_len hr.d (by omega)
      · exact zeroS_length
  · exact zeroS_length
set_option maxRecDepth 100000 in
set_option maxHeartbeats 1600000 in
theorem read_out (h : (LogR C G g q ci).At w (s, r) F) (k : Int) (hk : ¬(2 ≤ k ∧ k < 2 + (r.segs : Int) * (r.size : Int))) : Calls Try.prog 42 #[.pointer (some ⟨q, 0, none⟩), .int .i64 k] w (RetN (LogR C G g q ci) (s, r) [] 2 F w) := by
  obtain ⟨bm, ho⟩ := logr_own h
  have c2 : w.cell? ⟨q, 2, none⟩ = some (.int .i64 (r.segs : Int)) := ho.blk.cell 2
  have c3 : w.cell? ⟨q, 3, none⟩ = some (.int .i64 (r.size : Int)) := ho.blk.cell 3
  have H := Lib.hid h
  have HN := Lib.hid (fun W => of_no (r.segs : Int) (r.size : Int) k (fun h => hk h.2) W)
  clear h ho hk
  go_enter Try.func42, Try.ntmps42
  go_wp2_with fail
  refine (HN.out _).mono ?_
  rintro e w1 ⟨rfl, bw⟩
  have BW := Lib.hid bw
  clear bw
  go_wp2_with fail
  exact bodyPost_ret (results_tmp2 Try.results42 _ _ _) rfl (RetN.nil ⟨F, (Mv.start H.out).below BW.out⟩)
set_option maxRecDepth 100000 in
set_option maxHeartbeats 1600000 in
theorem read_free (h : (LogR C G g q ci).At w (s, r) F) (i j : Int) (hi : inS (r.segs : Int) (r.size : Int) i j) (hu : usedG r.gens i = false) : Calls Try.prog 42 #[.pointer (some ⟨q, 0, none⟩), .int .i64 (2 + i * (r.size : Int) + j)] w (RetN (LogR C G g q ci) (s, r) [] 2 F w) := by
  obtain ⟨bm, ho⟩ := logr_own h
  have c2 : w.cell? ⟨q, 2, none⟩ = some (.int .i64 (r.segs : Int)) := ho.blk.cell 2
  have c3 : w.cell? ⟨q, 3, none⟩ = some (.int .i64 (r.size : Int)) := ho.blk.cell 3
  obtain ⟨⟨i1, i2⟩, i3, i4⟩ := hi.2
  have hsm := ho.ok.small
  have H := Lib.hid h
  have HN := Lib.hid (fun W => of_yes (r.segs : Int) (r.size : Int) i j hi W)
  have hus := fun W (h : RlO g q bm ci W r) => used_any h (z := i) (by omega) (by omega)
  rw [hu] at hus
  have HUS := Lib.hid hus
  have HO := Lib.hid ho
  obtain ⟨at_, hat⟩ : ∃ a, a = 2 + i * (r.size : Int) + j := ⟨_, rfl⟩
  rw [← hat] at HN
  rw [← hat]
  clear h ho hi hu hus i1 i2 i3 i4 hsm hat
  go_enter Try.func42, Try.ntmps42
  go_wp2_with fail
  refine (HN.out _).mono ?_
  rintro e w1 ⟨rfl, bw⟩
  have BW := Lib.hid bw
  clear bw
  go_wp2_with fail
  refine (HUS.out _ (HO.out.below BW.out)).mono ?_
  rintro e w2 ⟨rfl, bw⟩
  have BW2 := Lib.hid (BW.out.trans (bw.mono BW.out.size))
  clear bw
  go_wp2_with fail
  exact bodyPost_ret (results_tmp2 Try.results42 _ _ _) rfl (RetN.nil ⟨F, (Mv.start H.out).below BW2.out⟩)
set_option maxRecDepth 100000 in
set_option maxHeartbeats 3200000 in
theorem read_used (h : (LogR C G g q ci).At w (s, r) F) (hab : s.b.length = s.a.length) (i j : Int) (hi : inS (r.segs : Int) (r.size : Int) i j) (hu : usedG r.gens i = true) : Calls Try.prog 42 #[.pointer (some ⟨q, 0, none⟩), .int .i64 (2 + i * (r.size : Int) + j)] w
    (RetN (LogR C G g q ci) (s, r) (if (readM C G s (2 + i * (r.size : Int) + j)).2 = 0 then (if okS ci.f (2 + i * (r.size : Int) + j) (readM C G s (2 + i * (r.size : Int) + j)).1 = true ∧ genS (readM C G s (2 + i * (r.size : Int) + j)).1 = genG r.gens i then bodyS (readM C G s (2 + i * (r.size : Int) + j)).1 else []) else [])
      (if (readM C G s (2 + i * (r.size : Int) + j)).2 = 0 then (if okS ci.f (2 + i * (r.size : Int) + j) (readM C G s (2 + i * (r.size : Int) + j)).1 = true ∧ genS (readM C G s (2 + i * (r.size : Int) + j)).1 = genG r.gens i then 0 else 9) else (readM C G s (2 + i * (r.size : Int) + j)).2) F w) := by
  obtain ⟨at_, hat⟩ : ∃ a, a = 2 + i * (r.size : Int) + j := ⟨_, rfl⟩
  obtain ⟨F1, F2, hm, ⟨bm, ho, hq, hbm, h3⟩, hd, hF⟩ := h
  have ho : RlO g q bm ci w r := ho
  have hm : (ML C G g).At w s F1 := hm
  have c2 : w.cell? ⟨q, 2, none⟩ = some (.int .i64 (r.segs : Int)) := ho.blk.cell 2
  have c3 : w.cell? ⟨q, 3, none⟩ = some (.int .i64 (r.size : Int)) := ho.blk.cell 3
  obtain ⟨⟨i1, i2⟩, i3, i4⟩ := hi.2
  have hsm := ho.ok.small
  have H2F := Lib.hid (show F2 q ∧ F2 bm ∧ (∀ k, F2 k → k < w.heap.size) ∧ (∀ k, F1 k → F2 k → False) ∧ (∀ k, F k ↔ F1 k ∨ F2 k) from ⟨hq, hbm, h3, hd, hF⟩)
  have HN := Lib.hid (fun W => of_yes (r.segs : Int) (r.size : Int) i j hi W)
  have hus := fun W (h : RlO g q bm ci W r) => used_any h (z := i) (by omega) (by omega)
  rw [hu] at hus
  have HUS := Lib.hid hus
  have HO := Lib.hid ho
  have HM := Lib.hid hm
  have HIB := Lib.hid (show -9223372036854775808 ≤ i ∧ i ≤ 9223372036854775807 by omega)
  rw [← hat] at HN
  rw [← hat]
  have hrd := fun W (h : (ML C G g).At W s F1) => mread_any h hab at_
  obtain ⟨y, hy⟩ : ∃ y, y = (readM C G s at_).1 := ⟨_, rfl⟩
  obtain ⟨ev, hev⟩ : ∃ y, y = (readM C G s at_).2 := ⟨_, rfl⟩
  have HY3 := Lib.hid (show y.length = 128 by rw [hy]; exact readM_len hm at_)
  simp only [← hy, ← hev] at hrd
  rw [← hy, ← hev]
  have HRD := Lib.hid hrd
  obtain ⟨z, hz0⟩ : ∃ z : List UInt8, z = zeroS := ⟨_, rfl⟩
  have hz : ∀ W, (zeroValue 38).run Try.prog W = .ok (.agg (bva z)) W := fun _ => by rw [hz0]; kernel_rfl
  have HZ3 := Lib.hid (show z.length = 128 by rw [hz0]; exact zeroS_length)
  have HIY : Hid ((Try.prog.info? 38).map (·.size) = some (bva y).size) := by rw [bva_size, HY3.out]; exact info_sec
  obtain ⟨gg, hgg⟩ : ∃ x : Nat, x = genG r.gens i := ⟨_, rfl⟩
  have HGG := Lib.hid hgg
  obtain ⟨ok, hok⟩ : ∃ x, x = okS ci.f at_ y := ⟨_, rfl⟩
  obtain ⟨us, hus2⟩ : ∃ x, x = unpackS ci.f at_ y := ⟨_, rfl⟩
  have HUS2 := Lib.hid (show us = if ok then (genS y, bodyS y) else (0, []) by rw [hus2, unpackS, hok])
  have hup := fun W => unpack_any ci at_ y HY3.out W
  simp only [← hus2, ← hok] at hup
  obtain ⟨u1, hu1⟩ : ∃ x, x = us.1 := ⟨_, rfl⟩
  obtain ⟨u2, hu2⟩ : ∃ x, x = us.2 := ⟨_, rfl⟩
  rw [← hu1, ← hu2] at hup
  have HUE := Lib.hid (And.intro hu1 hu2)
  have HUP := Lib.hid hup
  rw [← hgg, ← hok]
  obtain ⟨B0, hB0⟩ : ∃ B0, B0 = if ev = 0 then (if ok = true ∧ genS y = gg then bodyS y else []) else [] := ⟨_, rfl⟩
  obtain ⟨E0, hE0⟩ : ∃ E0 : Int, E0 = if ev = 0 then (if ok = true ∧ genS y = gg then 0 else 9) else ev := ⟨_, rfl⟩
  rw [← hB0, ← hE0]
  have HB0 := Lib.hid hB0
  have HE0 := Lib.hid hE0
  clear hB0 hE0
  clear ho hm hi hu hus i1 i2 i3 i4 hsm hat hq hbm h3 hd hF hrd hy hev hz0 hgg hok hus2 hup hu1 hu2 hab
  go_enter Try.func42, Try.ntmps42
  go_wp2_with fail
  refine (HN.out _).mono ?_
  rintro e w1 ⟨rfl, bw⟩
  have O1 := Lib.hid (HO.out.below bw)
  have M1 := Lib.hid ((Mv.start HM.out).below bw)
  clear bw HO HM c2 c3
  go_wp2_with fail
  refine (HUS.out _ O1.out).mono ?_
  rintro e w2 ⟨rfl, bw⟩
  have O2 := Lib.hid (O1.out.below bw)
  have M2 := Lib.hid (M1.out.below bw)
  clear bw O1 M1
  have c0 : w2.cell? ⟨q, 0, none⟩ = some (.pointer (some ⟨g, 0, none⟩)) := O2.out.blk.cell 0
  go_wp2_with fail
  refine (HRD.out _ M2.out.at_).mono ?_
  rintro e w3 ⟨rfl, F5, hmv⟩
  have O3 := Lib.hid (O2.out.but hmv.but (fun h => H2F.out.2.2.2.1 q h H2F.out.1) (fun h => H2F.out.2.2.2.1 bm h H2F.out.2.1))
  have M3 := Lib.hid (M2.out.trans hmv)
  clear hmv O2 M2 c0
  go_wp2_with (show wpList _ _ _ ({ dst := none, op := .store 38 (.tmp 9) (.tmp 40), type := _, pos := _, after := _, guard := _ } :: _) _ _; apply Classical.byContradiction; intro hneg)
  refine hneg ?_
  clear hneg
  refine wpList_store_row rfl 38 (.tmp 9) (.tmp 40) rfl w3.heap.size (bva y) rfl rfl 38 (bva z) (heap_alloc_new _ _) HIY.out (by rw [bva_size, bva_size, HY3.out, HZ3.out]) (bva_one _) ?_
  obtain ⟨w4, hw4⟩ : ∃ w4, w4 = (w3.alloc (.cells (bva z) 38)).setRow w3.heap.size (bva y) := ⟨_, rfl⟩
  have bw : Below w3.heap.size w3 w4 := by rw [hw4]; exact below_setRow ((Below.refl _ _).alloc (Nat.le_refl _) _) (Nat.le_refl _) _
  have X4 := Lib.hid (show Blk w4 w3.heap.size (bva y) 38 by rw [hw4]; exact setRow_heap _ _ _ _ _ _ (heap_alloc_new _ _))
  have O4 := Lib.hid (O3.out.below bw)
  have M4 := Lib.hid (M3.out.below bw)
  rw [← hw4]
  clear hw4 bw O3 M3
  obtain ⟨b3, hb3⟩ : ∃ b3, b3 = w3.heap.size := ⟨_, rfl⟩
  rw [← hb3] at X4
  rw [← hb3]
  clear hb3
  by_cases he : ev = 0
  · subst he
    have HB1 := Lib.hid (HB0.out.trans (if_pos rfl))
    have HE1 := Lib.hid (HE0.out.trans (if_pos rfl))
    clear HB0 HE0
    go_wp2_with fail
    refine wp_region_held_drew (S := (fun w' => Blk w' q (rwC g ci bm r) 167 ∧ Blk w' b3 (bva y) 38)) (by kernel_rfl) ⟨O4.out.drew.blk, X4.out⟩ (fun hh => ?_)
    have HH := Lib.hid hh
    clear hh
    refine wpAnyH_take (i := 0) (v := ?vw0) rfl (by kernel_rfl) (by kernel_rfl) (by kernel_rfl) (fun _ _ _ h => h) (Or.inl ⟨by rfl, fun w' _ => ?yw0⟩) HH.out ?_
    case yw0 => (go_simp; try with_reducible rfl)
    refine wpAnyH_take (i := 1) (v := ?vw1) rfl (by kernel_rfl) (by kernel_rfl) (by kernel_rfl) (fun _ _ _ h => h) (Or.inl ⟨by rfl, fun w' _ => ?yw1⟩) HH.out ?_
    case yw1 => (go_simp; try with_reducible rfl)
    try simp only [List.getElem_toArray, List.getElem_cons_succ, List.getElem_cons_zero, Act.put, List.setIfInBounds_toArray, List.set_cons_zero, List.set_cons_succ]
    refine wpAnyH_take (i := 2) (v := ?vw2) rfl (by kernel_rfl) (by kernel_rfl) (by kernel_rfl) (fun _ _ _ h => h) (Or.inl ⟨by rfl, fun w' _ => ?yw2⟩) HH.out ?_
    case yw2 => (go_simp; try with_reducible rfl)
    refine wpAnyH_take (i := 3) (v := ci.v) rfl (by kernel_rfl) (by kernel_rfl) (by kernel_rfl) (fun _ _ _ h => h) (Or.inl ⟨by rfl, fun w' hw' => ?lw3⟩) HH.out ?_
    case lw3 => (have hc : w'.cell? ⟨q, 1, none⟩ = some ci.v := hw'.1.cell 1; go_simp; try with_reducible rfl)
    try simp only [List.getElem_toArray, List.getElem_cons_succ, List.getElem_cons_zero, Act.put, List.setIfInBounds_toArray, List.set_cons_zero, List.set_cons_succ]
    refine wpAnyH_take (i := 4) (v := ?vw4) rfl (by kernel_rfl) (by kernel_rfl) (by kernel_rfl) (fun _ _ _ h => h) (Or.inl ⟨by rfl, fun w' _ => ?yw4⟩) HH.out ?_
    case yw4 => (go_simp; try with_reducible rfl)
    try simp only [List.getElem_toArray, List.getElem_cons_succ, List.getElem_cons_zero, Act.put, List.setIfInBounds_toArray, List.set_cons_zero, List.set_cons_succ]
    refine wpAnyH_take (i := 5) (v := .agg (bva y)) rfl (by kernel_rfl) (by kernel_rfl) (by kernel_rfl) (fun _ _ _ h => h) (Or.inl ⟨by rfl, fun w' hw' => ?yw5⟩) HH.out ?_
    case yw5 => exact exec_load 38 (.tmp 9) rfl rfl hw'.2 Try.underlying38 rfl HIY.out
    try simp only [List.getElem_toArray, List.getElem_cons_succ, List.getElem_cons_zero, Act.put, List.setIfInBounds_toArray, List.set_cons_zero, List.set_cons_succ]
    refine wpAnyH_ready (rs := [6]) (by kernel_rfl) (by simp) (AllReadyH.cons rfl (fun K hK => ?_) AllReadyH.nil)
    go_simp
    refine (HUP.out _).mono ?_
    rintro e w5 ⟨Ab, nb, cb, rfl, hown, bw⟩
    have M5 := Lib.hid ((M4.out.below (Below.refl _ _).drew).below bw)
    have O5 := Lib.hid (O4.out.drew.below bw)
    have OB := Lib.hid hown
    have X5 := Lib.hid (X4.out.below (w1 := w5) ((Below.refl _ _).drew.trans bw))
    have L4 := Lib.hid (And.intro M4.out.lt M4.out.but.size)
    clear hown bw
    go_simp
    refine hK.out _ _ ⟨O5.out.blk, X5.out⟩ (fun hh => ?_)
    have HH' := Lib.hid hh
    clear hh hK K HH O4 M4 X4
    have HH := Lib.hid HH'.out
    clear HH'
    refine wpAnyH_take (i := 7) (v := ?vw7) rfl (by kernel_rfl) (by kernel_rfl) (by kernel_rfl) (fun _ _ _ h => h) (Or.inl ⟨by rfl, fun w' _ => ?yw7⟩) HH.out ?_
    case yw7 => (go_simp; try with_reducible rfl)
    try simp only [List.getElem_toArray, List.getElem_cons_succ, List.getElem_cons_zero, Act.put, List.setIfInBounds_toArray, List.set_cons_zero, List.set_cons_succ]
    refine wpAnyH_take (i := 8) (v := ?vw8) rfl (by kernel_rfl) (by kernel_rfl) (by kernel_rfl) (fun _ _ _ h => h) (Or.inl ⟨by rfl, fun w' _ => ?yw8⟩) HH.out ?_
    case yw8 => (go_simp; try with_reducible rfl)
    refine wpAnyH_take (i := 9) (v := ?vw9) rfl (by kernel_rfl) (by kernel_rfl) (by kernel_rfl) (fun _ _ _ h => h) (Or.inl ⟨by rfl, fun w' _ => ?yw9⟩) HH.out ?_
    case yw9 => (go_simp; try with_reducible rfl)
    refine wpAnyH_take (i := 10) (v := ?vw10) rfl (by kernel_rfl) (by kernel_rfl) (by kernel_rfl) (fun _ _ _ h => h) (Or.inl ⟨by rfl, fun w' _ => ?yw10⟩) HH.out ?_
    case yw10 => (go_simp; try with_reducible rfl)
    try simp only [List.getElem_toArray, List.getElem_cons_succ, List.getElem_cons_zero, Act.put, List.setIfInBounds_toArray, List.set_cons_zero, List.set_cons_succ]
    refine wpAnyH_take (i := 11) (v := ?vw11) rfl (by kernel_rfl) (by kernel_rfl) (by kernel_rfl) (fun _ _ _ h => h) (Or.inl ⟨by rfl, fun w' _ => ?yw11⟩) HH.out ?_
    case yw11 => (go_simp; try with_reducible rfl)
    refine wpAnyH_take (i := 12) (v := ?vw12) rfl (by kernel_rfl) (by kernel_rfl) (by kernel_rfl) (fun _ _ _ h => h) (Or.inl ⟨by rfl, fun w' _ => ?yw12⟩) HH.out ?_
    case yw12 => (go_simp; try with_reducible rfl)
    refine wpAnyH_take (i := 13) (v := ?vw13) rfl (by kernel_rfl) (by kernel_rfl) (by kernel_rfl) (fun _ _ _ h => h) (Or.inl ⟨by rfl, fun w' _ => ?yw13⟩) HH.out ?_
    case yw13 => (go_simp; try with_reducible rfl)
    try simp only [List.getElem_toArray, List.getElem_cons_succ, List.getElem_cons_zero, Act.put, List.setIfInBounds_toArray, List.set_cons_zero, List.set_cons_succ]
    refine wpAnyH_done (by kernel_rfl) ?_ _
    clear HH X5 HRD HUP HUS HN HIY HZ3
    have hlk : (Instr.lookup 165 (.map (some bm)) (.int .i64 i) false).run Try.prog w5 = .ok (.int .u64 (gg : Int)) w5 := by rw [HGG.out]; exact O5.out.look HIB.out.1 HIB.out.2
    have c4 : w5.cell? ⟨q, 4, none⟩ = some (.map (some bm)) := O5.out.blk.cell 4
    cases ok with
    | false =>
      have hB := HB1.out.trans (if_neg (by simp))
      have hE := HE1.out.trans (if_neg (by simp))
      subst hB
      subst hE
      clear HB1 HE1
      go_wp2_with fail
      exact bodyPost_ret (results_tmp2 Try.results42 _ _ _) rfl (RetN.nil ⟨_, fin_own H2F.out M5.out O5.out (But.refl _)⟩)
    | true =>
      have e0 := HUS2.out
      rw [if_pos rfl] at e0
      have e1 : u1 = genS y := by rw [HUE.out.1, e0]
      have e2 : u2 = bodyS y := by rw [HUE.out.2, e0]
      by_cases hg : u1 = gg
      · have hB := HB1.out.trans (if_pos ⟨rfl, e1.symm.trans hg⟩)
        have hE := HE1.out.trans (if_pos ⟨rfl, e1.symm.trans hg⟩)
        have HB2 := Lib.hid (hB.trans e2.symm)
        subst hE
        subst hg
        clear hB e0 e1 e2 HB1 HE1 HUS2 HUE
        go_wp2_with fail
        refine bodyPost_ret (results_tmp2 Try.results42 _ _ _) rfl ⟨Ab, nb, cb, rfl, ?_, _, fin_own H2F.out M5.out O5.out (But.refl _), ?_⟩
        · rw [HB2.out]; exact own_more OB.out (Nat.le_trans L4.out.2 (Nat.le_refl _))
        · intro j hj hf
          have hlt := (OB.out.lt j hj).1
          rcases hf with hf | hf
          · have h9 : j < w4.heap.size := L4.out.1 j hf
            have h8 : w4.heap.size ≤ j := hlt
            omega
          · have h9 := H2F.out.2.2.1 j hf
            have h8 : w4.heap.size ≤ j := hlt
            have := L4.out.2
            omega
      · have hg2 : ((u1 : Int) != (gg : Int)) = true := bne_iff_ne.2 (fun e => hg (by omega))
        have hB := HB1.out.trans (if_neg (fun h => hg (e1.trans h.2)))
        have hE := HE1.out.trans (if_neg (fun h => hg (e1.trans h.2)))
        subst hB
        subst hE
        clear e0 e1 e2 HB1 HE1 HUS2 HUE hg
        go_wp2_with fail
        exact bodyPost_ret (results_tmp2 Try.results42 _ _ _) rfl (RetN.nil ⟨_, fin_own H2F.out M5.out O5.out (But.refl _)⟩)
  · have he2 : (ev != 0) = true := bne_iff_ne.2 he
    have HB1 := HB0.out.trans (if_neg he)
    have HE1 := HE0.out.trans (if_neg he)
    subst HB1
    subst HE1
    clear HB0 HE0
    go_wp2_with fail
    exact bodyPost_ret (results_tmp2 Try.results42 _ _ _) rfl (RetN.nil ⟨_, fin_own H2F.out M4.out O4.out (But.refl _)⟩)
theorem read_raw (h : (LogR C G g q ci).At w (s, r) F) (hab : s.b.length = s.a.length) (k : Int) : Calls Try.prog 42 #[.pointer (some ⟨q, 0, none⟩), .int .i64 k] w (RetN (LogR C G g q ci) (s, r) (rdR ci G s r k).1 (rdR ci G s r k).2 F w) := by
  obtain ⟨bm, ho⟩ := logr_own h
  have hsm := ho.ok.small
  by_cases hk : 2 ≤ k ∧ k < 2 + (r.segs : Int) * (r.size : Int)
  · have hz : 0 < (r.size : Int) := by omega
    have e1 := Int.mul_ediv_add_emod (k - 2) (r.size : Int)
    have e2 := Int.emod_nonneg (k - 2) (show (r.size : Int) ≠ 0 by omega)
    have e3 := Int.emod_lt_of_pos (k - 2) hz
    have e4 : 0 ≤ (k - 2) / (r.size : Int) := Int.ediv_nonneg (by omega) (by omega)
    have e5 : (k - 2) / (r.size : Int) < (r.segs : Int) := Int.ediv_lt_of_lt_mul hz (by omega)
    have ek : 2 + ((k - 2) / (r.size : Int)) * (r.size : Int) + (k - 2) % (r.size : Int) = k := by rw [Int.mul_comm]; omega
    have hi : inS (r.segs : Int) (r.size : Int) ((k - 2) / (r.size : Int)) ((k - 2) % (r.size : Int)) := ⟨ho.ok.shape, ⟨e4, e5⟩, e2, e3⟩
    cases hu : usedG r.gens ((k - 2) / (r.size : Int)) with
    | false =>
      have hc := read_free h _ _ hi hu
      rw [ek] at hc
      rw [rdR, if_neg (by rw [hu]; simp)]
      exact hc
    | true =>
      have hc := read_used h hab _ _ hi hu
      rw [ek] at hc
      rw [rdR, if_pos ⟨hk, hu⟩]
      split
      · rename_i h0
        rw [if_pos h0, if_pos h0] at hc
        split
        · rename_i h1
          rw [if_pos h1, if_pos h1] at hc
          exact hc
        · rename_i h1
          rw [if_neg h1, if_neg h1] at hc
          exact hc
      · rename_i h0
        rw [if_neg h0, if_neg h0] at hc
        exact hc
  · rw [rdR, if_neg (fun h => hk h.1)]
    exact read_out h k hk
end
end Go.Proofs.Ytnplhagfmfggcaa.Lo
/-
  One device, of a power of its own, or none; two of them beside each other; two of one power.
-/
namespace Go.Proofs.Ytnplhagfmfggcaa.Mi
open Go.RowKit Kd
/-- One device. -/
structure Uno where
  L : Laid
  ptr : Option Addr
  rd : L.St → Int → Int × List UInt8
  wr : L.St → Int → List UInt8 → Int × L.St
  fl : L.St → Int × L.St
  len : L.St → Nat
  most : L.St → Nat
  len_le : ∀ {w s F}, L.At w s F → len s ≤ 4096
  rd_len : ∀ {w s F n}, L.At w s F → (rd s n).2.length = 128
  wr_most : ∀ {s n x}, most (wr s n x).2 ≤ most s + 1
  fl_most : ∀ {s}, most (fl s).2 ≤ most s
  crd : ∀ {w s F}, L.At w s F → ∀ n, Calls Try.prog 30 #[.pointer ptr, .int .i64 n] w (RetB (.tuple #[.agg (bva (rd s n).2), .int .i64 (rd s n).1]) w)
  cwr : ∀ {w s F}, L.At w s F → most s < 1000000 → ∀ n x, x.length = 128 → Calls Try.prog 57 #[.pointer ptr, .int .i64 n, .agg (bva x)] w (RetA L (.int .i64 (wr s n x).1) (wr s n x).2 F w)
  cfl : ∀ {w s F}, L.At w s F → Calls Try.prog 61 #[.pointer ptr] w (RetA L (.int .i64 (fl s).1) (fl s).2 F w)
  clen : ∀ {w s F}, L.At w s F → Calls Try.prog 20 #[.pointer ptr] w (RetB (.int .i64 (len s : Int)) w)
/-! ### How many wait -/
theorem count_wtM (S : Sy) (j : Nat) : (S.count.at j).wt.length ≤ (S.at j).wt.length := by
  unfold Sy.count
  split
  · show ((S.ds.map Dv.fall).getD j noDv).wt.length ≤ (S.ds.getD j noDv).wt.length
    rw [List.getD_eq_getElem?_getD, List.getD_eq_getElem?_getD, List.getElem?_map]
    cases h : S.ds[j]? with
    | none => exact Nat.le_refl _
    | some d =>
      show d.fall.wt.length ≤ d.wt.length
      unfold Dv.fall; split
      · exact Nat.le_refl _
      · exact Nat.zero_le _
  · exact Nat.le_refl _
theorem put_wtM (S : Sy) (k : Nat) (d : Dv) (j : Nat) : ((S.put k d).at j).wt.length ≤ max d.wt.length (S.at j).wt.length := by
  show ((S.ds.set k d).getD j noDv).wt.length ≤ max _ (S.ds.getD j noDv).wt.length
  rw [List.getD_eq_getElem?_getD, List.getD_eq_getElem?_getD, List.getElem?_set]
  split
  · split
    · exact Nat.le_max_left _ _
    · rename_i h1 h2
      subst h1
      rw [List.getElem?_eq_none (by omega)]; exact Nat.zero_le _
  · exact Nat.le_max_right _ _
theorem write_wtM (S : Sy) (k : Nat) (n : Int) (x : List UInt8) (m : Nat) (h : ∀ j, (S.at j).wt.length ≤ m) (j : Nat) : ((S.write k n x).2.at j).wt.length ≤ m + 1 := by
  unfold Sy.write; dsimp only; split
  · exact Nat.le_succ_of_le (h j)
  · refine Nat.le_trans (count_wtM _ j) (Nat.le_trans (put_wtM _ _ _ j) (Nat.max_le.2 ⟨?_, Nat.le_succ_of_le (h j)⟩))
    show ((S.at k).wt ++ _).length ≤ _
    rw [List.length_append]; have := h k; simp; omega
theorem flush_wtM (S : Sy) (k : Nat) (m : Nat) (h : ∀ j, (S.at j).wt.length ≤ m) (j : Nat) : ((S.flush k).2.at j).wt.length ≤ m := by
  unfold Sy.flush; dsimp only; split
  · exact h j
  · split
    · exact Nat.le_trans (count_wtM _ j) (h j)
    · split
      · exact Nat.le_trans (count_wtM _ j) (h j)
      · exact Nat.le_trans (put_wtM _ _ _ j) (Nat.max_le.2 ⟨Nat.zero_le _, Nat.le_trans (count_wtM _ j) (h j)⟩)
theorem write_dsM (S : Sy) (k : Nat) (n : Int) (x : List UInt8) : (S.write k n x).2.ds.length = S.ds.length := by
  unfold Sy.write; dsimp only; split
  · rfl
  · rw [count_length, len_put]
theorem flush_dsM (S : Sy) (k : Nat) : (S.flush k).2.ds.length = S.ds.length := by
  unfold Sy.flush; dsimp only; split
  · rfl
  · split
    · exact count_length S
    · split
      · exact count_length S
      · rw [len_put, count_length]
theorem at_far {S : Sy} {j : Nat} (h : S.ds.length ≤ j) : S.at j = noDv := by
  show S.ds.getD j noDv = noDv
  rw [List.getD_eq_getElem?_getD, List.getElem?_eq_none h]; rfl
/-! ### The devices of one power -/
/-- k devices of one power, as they are laid. -/
def SysL (p : Nat) (gs : List Nat) (k : Nat) : Laid where
  St := Sy
  At w S F := Kd.Sys w p gs S F ∧ S.ds.length = k
  but h hb hd := ⟨h.1.but hb hd, h.2⟩
  lt h := h.1.lt
theorem RetS.reta {p k : Nat} {gs : List Nat} {S : Sy} {F : Nat → Prop} {w w' : World} {v : Value} {e : Ending} (hk : S.ds.length = k) (h : RetS v p gs S F w e w') : RetA (SysL p gs k) v S F w e w' := by
  obtain ⟨rfl, F', h1, h2, h3⟩ := h
  exact ⟨rfl, F', ⟨h1, hk⟩, h2, h3⟩
theorem sys_okM {w : World} {p : Nat} {gs : List Nat} {S : Sy} {F : Nat → Prop} (h : Kd.Sys w p gs S F) {k : Nat} (hk : k < S.ds.length) : (S.at k).ok := by
  obtain ⟨bs, Fs, FA, fc, lf, h, _, _⟩ := h
  obtain ⟨A, n, c, W, m, e, M, D, hd, _⟩ := h.dev k hk
  exact hd.ok
theorem few_one {S : Sy} {m : Nat} (h1 : S.ds.length = 1) (h : (S.at 0).wt.length ≤ m) (j : Nat) : (S.at j).wt.length ≤ m := by
  rcases j with _ | j
  · exact h
  · rw [at_far (by omega)]; exact Nat.zero_le _
def mostS (S : Sy) : Nat := if S.ds.length = 1 then (S.at 0).wt.length else 0
theorem mostS_write (S : Sy) (n : Int) (x : List UInt8) : mostS (S.write 0 n x).2 ≤ mostS S + 1 := by
  unfold mostS
  rw [write_dsM]
  split
  · rename_i h1
    exact write_wtM S 0 n x _ (few_one h1 (Nat.le_refl _)) 0
  · exact Nat.zero_le _
theorem mostS_flush (S : Sy) : mostS (S.flush 0).2 ≤ mostS S := by
  unfold mostS
  rw [flush_dsM]
  split
  · rename_i h1
    exact flush_wtM S 0 _ (few_one h1 (Nat.le_refl _)) 0
  · exact Nat.le_refl _
/-- A device of a power of its own. -/
def uno (p g : Nat) : Uno where
  L := SysL p [g] 1
  ptr := some ⟨g, 0, none⟩
  rd S n := (refuseN S.p (S.at 0) n, readS S.p (S.at 0) n)
  wr S n x := S.write 0 n x
  fl S := S.flush 0
  len S := (S.at 0).st.length
  most S := mostS S
  len_le h := (sys_okM h.1 (k := 0) (by rw [h.2]; omega)).len
  rd_len h := readS_length (sys_okM h.1 (k := 0) (by rw [h.2]; omega)) _
  wr_most {S n x} := mostS_write S n x
  fl_most {S} := mostS_flush S
  crd h n := dread_any h.1 0 (by rw [h.2]; omega) n
  cwr {w S F} h hm n x hx := (write_any h.1 0 (by rw [h.2]; omega) n x hx (by have h1 : mostS S = (Sy.at S 0).wt.length := if_pos h.2
                                                                              rw [← h1]; exact hm)).mono fun _ _ hr => RetS.reta ((write_dsM S 0 n x).trans h.2) hr
  cfl {w S F} h := (flush_any h.1 0 (by rw [h.2]; omega)).mono fun _ _ hr => RetS.reta ((flush_dsM S 0).trans h.2) hr
  clen h := (len_sys h.1 0 (by rw [h.2]; omega)).mono fun _ _ hr => by
    obtain ⟨rfl, rfl⟩ := hr
    exact ⟨rfl, Below.refl _ _⟩
/-- A device that isn't there at all. -/
def unoNil : Uno where
  L := { St := Unit, At := fun w _ F => ∀ q, F q → q < w.heap.size, but := fun h hb _ q hq => Nat.lt_of_lt_of_le (h q hq) hb.size, lt := fun h => h }
  ptr := none
  rd _ _ := (1, zeroS)
  wr s _ _ := (1, s)
  fl s := (1, s)
  len _ := 0
  most _ := 0
  len_le _ := Nat.zero_le _
  rd_len _ := zeroS_length
  wr_most := Nat.zero_le _
  fl_most := Nat.le_refl _
  crd {w s F} _ n := dread_nil w n
  cwr {w s F} h _ n x _ := (dwrite_nil w n x).mono fun _ _ hr => RetB.reta h hr
  cfl {w s F} h := (dflush_nil w).mono fun _ _ hr => RetB.reta h (by obtain ⟨rfl, rfl⟩ := hr; exact ⟨rfl, Below.refl _ _⟩)
  clen _ := len_nil.mono fun _ _ hr => by
    obtain ⟨rfl, rfl⟩ := hr
    exact ⟨rfl, Below.refl _ _⟩
/-! ### Two beside each other -/
def pairL (A B : Laid) : Laid where
  St := A.St × B.St
  At w s F := ∃ F1 F2, A.At w s.1 F1 ∧ B.At w s.2 F2 ∧ (∀ q, F1 q → F2 q → False) ∧ (∀ q, F1 q → F q) ∧ (∀ q, F2 q → F q) ∧ ∀ q, F q → q < w.heap.size
  but := fun ⟨F1, F2, h1, h2, h3, h4, h5, h6⟩ hb hd => ⟨F1, F2, A.but h1 hb (fun q hq => hd q (h4 q hq)), B.but h2 hb (fun q hq => hd q (h5 q hq)), h3, h4, h5, fun q hq => Nat.lt_of_lt_of_le (h6 q hq) hb.size⟩
  lt := fun ⟨_, _, _, _, _, _, _, h6⟩ => h6
section
variable {A B : Laid} {w w' : World} {s : A.St × B.St} {F : Nat → Prop}
theorem pair_fst (h : (pairL A B).At w s F) : ∃ F1, A.At w s.1 F1 ∧ ∀ {v : Value} {a : A.St} {e w'}, RetA A v a F1 w e w' → RetA (pairL A B) v (a, s.2) F w e w' := by
  obtain ⟨F1, F2, h1, h2, h3, h4, h5, h6⟩ := h
  refine ⟨F1, h1, ?_⟩
  rintro v a e w' ⟨rfl, F', hm⟩
  refine ⟨rfl, fun q => F q ∨ F' q, ⟨F', F2, hm.at_, B.but h2 hm.but (fun q a b => h3 q b a), ?_, fun q hq => .inr hq, fun q hq => .inl (h5 q hq), ?_⟩, ?_, hm.but.mono h4⟩
  · intro q a b
    rcases hm.new q a with h7 | h7
    · exact h3 q h7 b
    · have := B.lt h2 q b; omega
  · rintro q (hq | hq)
    · exact Nat.lt_of_lt_of_le (h6 q hq) hm.but.size
    · exact hm.lt q hq
  · rintro q (hq | hq)
    · exact .inl hq
    · exact (hm.new q hq).imp (h4 q) id
theorem pair_snd (h : (pairL A B).At w s F) : ∃ F2, B.At w s.2 F2 ∧ ∀ {v : Value} {b : B.St} {e w'}, RetA B v b F2 w e w' → RetA (pairL A B) v (s.1, b) F w e w' := by
  obtain ⟨F1, F2, h1, h2, h3, h4, h5, h6⟩ := h
  refine ⟨F2, h2, ?_⟩
  rintro v b e w' ⟨rfl, F', hm⟩
  refine ⟨rfl, fun q => F q ∨ F' q, ⟨F1, F', A.but h1 hm.but (fun q a b => h3 q a b), hm.at_, ?_, fun q hq => .inl (h4 q hq), fun q hq => .inr hq, ?_⟩, ?_, hm.but.mono h5⟩
  · intro q a b
    rcases hm.new q b with h7 | h7
    · exact h3 q a h7
    · have := A.lt h1 q a; omega
  · rintro q (hq | hq)
    · exact Nat.lt_of_lt_of_le (h6 q hq) hm.but.size
    · exact hm.lt q hq
  · rintro q (hq | hq)
    · exact .inl hq
    · exact (hm.new q hq).imp (h5 q) id
end
def duo (U V : Uno) : Duo where
  L := pairL U.L V.L
  ptr i := if i = 0 then U.ptr else V.ptr
  rd s i n := if i = 0 then U.rd s.1 n else V.rd s.2 n
  wr s i n x := if i = 0 then ((U.wr s.1 n x).1, ((U.wr s.1 n x).2, s.2)) else ((V.wr s.2 n x).1, (s.1, (V.wr s.2 n x).2))
  fl s i := if i = 0 then ((U.fl s.1).1, ((U.fl s.1).2, s.2)) else ((V.fl s.2).1, (s.1, (V.fl s.2).2))
  len s i := if i = 0 then U.len s.1 else V.len s.2
  most s := max (U.most s.1) (V.most s.2)
  len_le {w s F i} h hi := by
    obtain ⟨F1, F2, h1, h2, _⟩ := h
    rcases (show i = 0 ∨ i = 1 by omega) with rfl | rfl
    · exact U.len_le h1
    · exact V.len_le h2
  rd_len {w s F i n} h hi := by
    obtain ⟨F1, F2, h1, h2, _⟩ := h
    rcases (show i = 0 ∨ i = 1 by omega) with rfl | rfl
    · exact U.rd_len h1
    · exact V.rd_len h2
  wr_most {s i n x} hi := by
    have h1 := U.wr_most (s := s.1) (n := n) (x := x)
    have h2 := V.wr_most (s := s.2) (n := n) (x := x)
    rcases (show i = 0 ∨ i = 1 by omega) with rfl | rfl
    · show max (U.most (U.wr s.1 n x).2) (V.most s.2) ≤ max (U.most s.1) (V.most s.2) + 1; omega
    · show max (U.most s.1) (V.most (V.wr s.2 n x).2) ≤ max (U.most s.1) (V.most s.2) + 1; omega
  fl_most {s i} hi := by
    have h1 := U.fl_most (s := s.1)
    have h2 := V.fl_most (s := s.2)
    rcases (show i = 0 ∨ i = 1 by omega) with rfl | rfl
    · show max (U.most (U.fl s.1).2) (V.most s.2) ≤ max (U.most s.1) (V.most s.2); omega
    · show max (U.most s.1) (V.most (V.fl s.2).2) ≤ max (U.most s.1) (V.most s.2); omega
  crd {w s F i} h hi n := by
    obtain ⟨F1, F2, h1, h2, _⟩ := h
    rcases (show i = 0 ∨ i = 1 by omega) with rfl | rfl
    · exact U.crd h1 n
    · exact V.crd h2 n
  cwr {w s F i} h hi hm n x hx := by
    rcases (show i = 0 ∨ i = 1 by omega) with rfl | rfl
    · obtain ⟨F1, h1, hl⟩ := pair_fst h
      exact (U.cwr h1 (Nat.lt_of_le_of_lt (Nat.le_max_left _ _) hm) n x hx).mono fun _ _ hr => hl hr
    · obtain ⟨F1, h1, hl⟩ := pair_snd h
      exact (V.cwr h1 (Nat.lt_of_le_of_lt (Nat.le_max_right _ _) hm) n x hx).mono fun _ _ hr => hl hr
  cfl {w s F i} h hi := by
    rcases (show i = 0 ∨ i = 1 by omega) with rfl | rfl
    · obtain ⟨F1, h1, hl⟩ := pair_fst h
      exact (U.cfl h1).mono fun _ _ hr => hl hr
    · obtain ⟨F1, h1, hl⟩ := pair_snd h
      exact (V.cfl h1).mono fun _ _ hr => hl hr
  clen {w s F i} h hi := by
    obtain ⟨F1, F2, h1, h2, _⟩ := h
    rcases (show i = 0 ∨ i = 1 by omega) with rfl | rfl
    · exact U.clen h1
    · exact V.clen h2
end Go.Proofs.Ytnplhagfmfggcaa.Mi
/-
  A byte that rots, twice. No program.
-/
namespace Go.Proofs.Ytnplhagfmfggcaa.Kd
theorem rotS_get {s : List UInt8} {a j : Nat} {x : UInt8} (hj : j < s.length) : (rotS s a x).getD j 0 = if j = a then s.getD j 0 ^^^ x else s.getD j 0 := by
  unfold rotS
  rw [List.getD_eq_getElem?_getD, List.getElem?_set]
  by_cases h : a = j
  · subst h; rw [if_pos rfl, if_pos hj, if_pos rfl]; rfl
  · rw [if_neg h, if_neg (fun e => h e.symm), List.getD_eq_getElem?_getD]
theorem rotL_get {st : List (List UInt8)} {n a i : Nat} {x : UInt8} (hi : i < st.length) : (rotL st n a x).getD i zeroS = if i = n then rotS (st.getD i zeroS) a x else st.getD i zeroS := by
  unfold rotL
  rw [List.getD_eq_getElem?_getD, List.getElem?_set]
  by_cases h : n = i
  · subst h; rw [if_pos rfl, if_pos hi, if_pos rfl]; rfl
  · rw [if_neg h, if_neg (fun e => h e.symm), List.getD_eq_getElem?_getD]
theorem rotS_back (s : List UInt8) (a : Nat) (x : UInt8) (ha : a < s.length) : rotS (rotS s a x) a x = s := by
  unfold rotS
  rw [List.set_set]
  have h1 : (s.set a (s.getD a 0 ^^^ x)).getD a 0 = s.getD a 0 ^^^ x := by
    rw [List.getD_eq_getElem?_getD, List.getElem?_set, if_pos rfl, if_pos ha]; rfl
  rw [h1, UInt8.xor_assoc, UInt8.xor_self, UInt8.xor_zero, List.getD_eq_getElem?_getD, List.getElem?_eq_getElem ha]
  exact List.set_getElem_self ..
theorem rotL_back (st : List (List UInt8)) (n a : Nat) (x : UInt8) (hn : n < st.length) (ha : a < (st.getD n zeroS).length) : rotL (rotL st n a x) n a x = st := by
  have h1 : (rotL st n a x).getD n zeroS = rotS (st.getD n zeroS) a x := by rw [rotL_get hn, if_pos rfl]
  rw [rotL, h1, rotS_back _ _ _ ha]
  unfold rotL
  rw [List.set_set, List.getD_eq_getElem?_getD, List.getElem?_eq_getElem hn]
  exact List.set_getElem_self ..
variable {S : Sy} {k : Nat} {i a : Int} {x : UInt8}
theorem rot_p : (S.rot k i a x).p = S.p := by unfold Sy.rot; split <;> rfl
theorem rot_len : (S.rot k i a x).ds.length = S.ds.length := by unfold Sy.rot; split; exact len_put _; rfl
/-- What is stable behind it. -/
theorem rot_at (hk : k < S.ds.length) : ((S.rot k i a x).at k).st = if hasByte (S.at k).st.length i a then rotL (S.at k).st i.toNat a.toNat x else (S.at k).st := by
  unfold Sy.rot
  split
  · rw [at_put _ hk, if_pos rfl]; rfl
  · rfl
theorem rot_at_len (hk : k < S.ds.length) : ((S.rot k i a x).at k).st.length = (S.at k).st.length := by
  rw [rot_at hk]; split
  · exact rotL_length
  · rfl
theorem hasByte_iff {n : Nat} {i a : Int} : hasByte n i a = true ↔ 0 ≤ i ∧ i < (n : Int) ∧ 0 ≤ a ∧ a < 128 := by
  unfold hasByte; simp only [Bool.and_eq_true, decide_eq_true_eq, and_assoc]
/-- Twice: as it was. -/
theorem rot_twice (hk : k < S.ds.length) (h3 : ∀ s ∈ (S.at k).st, s.length = 128) : (((S.rot k i a x).rot k i a x).at k).st = (S.at k).st := by
  rw [rot_at (by rw [rot_len]; exact hk), rot_at_len hk, rot_at hk]
  by_cases h : hasByte (S.at k).st.length i a = true
  · rw [if_pos h, if_pos h]
    have := hasByte_iff.1 h
    exact rotL_back _ _ _ _ (by omega) (by rw [getD_ok h3]; omega)
  · rw [if_neg h, if_neg h]
/-- What stands at a place behind it. -/
theorem rot_byte (hk : k < S.ds.length) (h3 : ∀ s ∈ (S.at k).st, s.length = 128) {u v : Nat} (hu : u < (S.at k).st.length) (hv : v < 128) :
    ((((S.rot k i a x).at k).st.getD u zeroS).getD v 0) = if hasByte (S.at k).st.length i a = true ∧ (u : Int) = i ∧ (v : Int) = a then ((S.at k).st.getD u zeroS).getD v 0 ^^^ x else ((S.at k).st.getD u zeroS).getD v 0 := by
  rw [rot_at hk]
  by_cases h : hasByte (S.at k).st.length i a = true
  · have hb := hasByte_iff.1 h
    rw [if_pos h, rotL_get hu]
    by_cases h1 : u = i.toNat
    · rw [if_pos h1, rotS_get (by rw [getD_ok h3]; exact hv)]
      by_cases h2 : v = a.toNat
      · rw [if_pos h2, if_pos ⟨h, by omega, by omega⟩]
      · rw [if_neg h2, if_neg (fun e => h2 (by omega))]
    · rw [if_neg h1, if_neg (fun e => h1 (by omega))]
  · rw [if_neg h, if_neg (fun e => h e.1)]
end Go.Proofs.Ytnplhagfmfggcaa.Kd
/-
  What is seen of a device whose power never fails: its sectors as they are read, and whether it is out. No program.
-/
namespace Go.Proofs.Ytnplhagfmfggcaa.Mi
open Kd
theorem count_plain {S : Sy} (h : S.p = ⟨false, -1⟩) : S.count = S := by
  obtain ⟨P, ds⟩ := S
  replace h : P = ⟨false, -1⟩ := h
  subst h; rfl
/-- A device's sectors, as it reads them, whether it is out, and at most how many writes wait. -/
structure See (S : Sy) (L : List (List UInt8)) (g : Bool) (m : Nat) : Prop where
  ds : S.ds.length = 1
  p : S.p = ⟨false, -1⟩
  len : (S.at 0).st.length = L.length
  now : ∀ k, k < L.length → (S.at 0).now k = L.getD k zeroS
  gone : (S.at 0).gone = g
  lies : (S.at 0).lies = false
  few : (S.at 0).wt.length ≤ m
section
variable {S : Sy} {L : List (List UInt8)} {g : Bool} {m : Nat}
theorem See.more (h : See S L g m) {m' : Nat} (hm : m ≤ m') : See S L g m' := ⟨h.ds, h.p, h.len, h.now, h.gone, h.lies, Nat.le_trans h.few hm⟩
theorem see_new (n : Nat) (hn : n ≤ 4096) : See (S0.new (n : Int)) (List.replicate n zeroS) false 0 := by
  have hc : clampN (n : Int) = n := by unfold clampN; omega
  have h1 : (S0.new (n : Int)).at 0 = newDv n := by rw [Sy.new, hc]; rfl
  refine ⟨rfl, rfl, by rw [h1, List.length_replicate]; exact List.length_replicate, fun k hk => ?_, by rw [h1]; rfl, by rw [h1]; rfl, by rw [h1]; exact Nat.le_refl _⟩
  rw [h1]; rfl
theorem See.refuse (h : See S L g m) (n : Int) : refuseN S.p (S.at 0) n = if g then 13 else if n < 0 ∨ (L.length : Int) ≤ n then 2 else 0 := by
  rw [refuseN, h.p, h.gone, h.len]; rfl
theorem See.read (h : See S L g m) (n : Int) : readS S.p (S.at 0) n = if (g = false ∧ 0 ≤ n ∧ n < (L.length : Int)) then L.getD n.toNat zeroS else zeroS := by
  rw [readS, h.refuse]
  cases g with
  | true => simp
  | false =>
    by_cases hc : n < 0 ∨ (L.length : Int) ≤ n
    · rw [if_neg (show ¬ ((if false = true then (13 : Int) else if n < 0 ∨ (L.length : Int) ≤ n then 2 else 0) = 0) by rw [if_neg (by simp), if_pos hc]; omega), if_neg (fun h => by omega)]
    · rw [if_pos (show (if false = true then (13 : Int) else if n < 0 ∨ (L.length : Int) ≤ n then 2 else 0) = 0 by rw [if_neg (by simp), if_neg hc]), if_pos ⟨rfl, by omega, by omega⟩]
      exact h.now _ (by omega)
theorem See.write_no (h : See S L g m) {n : Int} {x : List UInt8} (hn : ¬ (g = false ∧ 0 ≤ n ∧ n < (L.length : Int))) : S.write 0 n x = (if g then 13 else 2, S) := by
  have hr : refuseN S.p (S.at 0) n = if g then 13 else 2 := by
    rw [h.refuse]
    cases g with
    | true => rfl
    | false =>
      have hc : n < 0 ∨ (L.length : Int) ≤ n := by
        by_cases h1 : n < 0
        · exact .inl h1
        · by_cases h2 : n < (L.length : Int)
          · exact absurd ⟨rfl, by omega, h2⟩ hn
          · exact .inr (by omega)
      show (if false = true then (13 : Int) else if n < 0 ∨ (L.length : Int) ≤ n then 2 else 0) = 2
      rw [if_neg (by simp), if_pos hc]
  rw [Kd.write_no (by rw [hr]; cases g <;> simp), hr]
theorem See.write_yes (h : See S L g m) {k : Nat} {x : List UInt8} (hg : g = false) (hk : k < L.length) : (S.write 0 (k : Int) x).1 = 0 ∧ See (S.write 0 (k : Int) x).2 (L.set k x) g (m + 1) := by
  have hr : refuseN S.p (S.at 0) (k : Int) = 0 := by rw [h.refuse, hg, if_neg (by simp), if_neg (by omega)]
  have hw := Kd.write_yes (s := x) hr
  have hp : S.p.fails = false := by rw [h.p]; rfl
  have hd0 : 0 < S.ds.length := by rw [h.ds]; omega
  have hpp : (S.put 0 ((S.at 0).add k x)).p = ⟨false, -1⟩ := h.p
  rw [hp, count_plain hpp] at hw
  rw [hw]
  have ha : (S.put 0 ((S.at 0).add k x)).at 0 = (S.at 0).add k x := by rw [at_put _ hd0, if_pos rfl]
  refine ⟨rfl, by rw [len_put]; exact h.ds, hpp, by rw [ha, List.length_set]; exact h.len, fun j hj => ?_, by rw [ha]; exact h.gone, by rw [ha]; exact h.lies, ?_⟩
  · rw [List.length_set] at hj
    rw [ha, set_getD _ _ _ _ hj]
    show nowL (S.at 0).st ((S.at 0).wt ++ [(k, x)]) j = _
    rw [now_snoc]
    split
    · rfl
    · exact h.now j hj
  · rw [ha]
    show ((S.at 0).wt ++ [(k, x)]).length ≤ m + 1
    rw [List.length_append]; have := h.few; simp; exact this
theorem See.flush_no (h : See S L g m) (hg : g = true) : S.flush 0 = (13, S) := by
  unfold Sy.flush; dsimp only; rw [h.p, h.gone, hg]; rfl
theorem See.flush_yes (h : See S L g m) (hg : g = false) : (S.flush 0).1 = 0 ∧ See (S.flush 0).2 L g 0 := by
  have hd0 : 0 < S.ds.length := by rw [h.ds]; omega
  have hp : S.p.fails = false := by rw [h.p]; rfl
  have hw : S.flush 0 = (0, S.put 0 { S.at 0 with st := flushL (S.at 0).st (S.at 0).wt, wt := [] }) := by
    unfold Sy.flush; dsimp only
    rw [if_neg (by rw [h.p, h.gone, hg]; simp), hp, if_neg (by simp), h.lies, if_neg (by simp), count_plain h.p]
  have ha : (S.put 0 { S.at 0 with st := flushL (S.at 0).st (S.at 0).wt, wt := [] }).at 0 = { S.at 0 with st := flushL (S.at 0).st (S.at 0).wt, wt := [] } := by rw [at_put _ hd0, if_pos rfl]
  rw [hw]
  refine ⟨rfl, by rw [len_put]; exact h.ds, h.p, by rw [ha]; exact (flush_length _ _).trans h.len, fun j hj => ?_, by rw [ha]; exact h.gone, by rw [ha]; exact h.lies, by rw [ha]; exact Nat.le_refl _⟩
  rw [ha]
  show nowL (flushL (S.at 0).st (S.at 0).wt) [] j = _
  rw [Kd.flush_nil, flush_get _ _ _ (by rw [h.len]; exact hj)]
  exact h.now j hj
theorem See.dry (h : See S L g 0) : (S.at 0).wt = [] := List.length_eq_zero_iff.1 (Nat.le_zero.1 h.few)
theorem See.stable (h : See S L g 0) : (S.at 0).st = L := by
  apply List.ext_getElem?
  intro k
  by_cases hk : k < L.length
  · have h1 := h.now k hk
    rw [Dv.now, h.dry, Kd.flush_nil, List.getD_eq_getElem?_getD, List.getD_eq_getElem?_getD, List.getElem?_eq_getElem (by rw [h.len]; exact hk), List.getElem?_eq_getElem hk] at h1
    rw [List.getElem?_eq_getElem (by rw [h.len]; exact hk), List.getElem?_eq_getElem hk]
    exact congrArg some h1
  · rw [List.getElem?_eq_none (by rw [h.len]; omega), List.getElem?_eq_none (by omega)]
theorem See.out (h : See S L g 0) (on : Bool) : See (S.put 0 ((S.at 0).out on)) L on 0 := by
  have hd0 : 0 < S.ds.length := by rw [h.ds]; omega
  have ha : (S.put 0 ((S.at 0).out on)).at 0 = (S.at 0).out on := by rw [at_put _ hd0, if_pos rfl]
  have hw : ((S.at 0).out on).wt = [] := by show (if on then [] else (S.at 0).wt) = []; rw [h.dry]; split <;> rfl
  refine ⟨by rw [len_put]; exact h.ds, h.p, by rw [ha]; exact h.len, fun j hj => ?_, by rw [ha]; rfl, by rw [ha]; exact h.lies, by rw [ha, hw]; exact Nat.le_refl _⟩
  rw [ha, Dv.now, hw]
  show nowL (S.at 0).st [] j = _
  rw [← h.now j hj, Dv.now, h.dry]
end
end Go.Proofs.Ytnplhagfmfggcaa.Mi
/-
  Two devices of one power that never fails: as they are laid, and what is seen of each.
-/
namespace Go.Proofs.Ytnplhagfmfggcaa.Mu
open Go.RowKit Kd Mi
def most2 (S : Sy) : Nat := max (S.at 0).wt.length (S.at 1).wt.length
theorem few_two {S : Sy} (h : S.ds.length = 2) (j : Nat) : (S.at j).wt.length ≤ most2 S := by
  rcases j with _ | _ | j
  · exact Nat.le_max_left _ _
  · exact Nat.le_max_right _ _
  · rw [at_far (by omega)]; exact Nat.zero_le _
def mostD (S : Sy) : Nat := if S.ds.length = 2 then most2 S else 0
theorem mostD_write (S : Sy) (i : Nat) (n : Int) (x : List UInt8) : mostD (S.write i n x).2 ≤ mostD S + 1 := by
  unfold mostD
  rw [write_dsM]
  split
  · rename_i h
    exact Nat.max_le.2 ⟨write_wtM S i n x _ (few_two h) 0, write_wtM S i n x _ (few_two h) 1⟩
  · exact Nat.zero_le _
theorem mostD_flush (S : Sy) (i : Nat) : mostD (S.flush i).2 ≤ mostD S := by
  unfold mostD
  rw [flush_dsM]
  split
  · rename_i h
    exact Nat.max_le.2 ⟨flush_wtM S i _ (few_two h) 0, flush_wtM S i _ (few_two h) 1⟩
  · exact Nat.le_refl _
theorem ptr2 {g1 g2 i : Nat} (hi : i < 2) : (if i = 0 then some (⟨g1, 0, none⟩ : Addr) else some ⟨g2, 0, none⟩) = some ⟨[g1, g2].getD i 0, 0, none⟩ := by
  rcases (show i = 0 ∨ i = 1 by omega) with rfl | rfl <;> rfl
/-- Two devices of one power. -/
def one (p g1 g2 : Nat) : Duo where
  L := SysL p [g1, g2] 2
  ptr i := if i = 0 then some ⟨g1, 0, none⟩ else some ⟨g2, 0, none⟩
  rd S i n := (refuseN S.p (S.at i) n, readS S.p (S.at i) n)
  wr S i n x := S.write i n x
  fl S i := S.flush i
  len S i := (S.at i).st.length
  most S := mostD S
  len_le {w s F i} h hi := (sys_okM h.1 (k := i) (by rw [h.2]; exact hi)).len
  rd_len {w s F i n} h hi := readS_length (sys_okM h.1 (k := i) (by rw [h.2]; exact hi)) _
  wr_most {S i n x} _ := mostD_write S i n x
  fl_most {S i} _ := mostD_flush S i
  crd {w s F i} h hi n := by rw [ptr2 hi]; exact dread_any h.1 i (by rw [h.2]; exact hi) n
  cwr {w S F i} h hi hm n x hx := by
    rw [ptr2 hi]
    exact (write_any h.1 i (by rw [h.2]; exact hi) n x hx (by
      have h1 : mostD S = most2 S := if_pos h.2
      have h2 := few_two h.2 i
      omega)).mono fun _ _ hr => RetS.reta ((write_dsM S i n x).trans h.2) hr
  cfl {w S F i} h hi := by
    rw [ptr2 hi]
    exact (flush_any h.1 i (by rw [h.2]; exact hi)).mono fun _ _ hr => RetS.reta ((flush_dsM S i).trans h.2) hr
  clen {w S F i} h hi := by
    rw [ptr2 hi]
    exact (len_sys h.1 i (by rw [h.2]; exact hi)).mono fun _ _ hr => by
      obtain ⟨rfl, rfl⟩ := hr
      exact ⟨rfl, Below.refl _ _⟩
/-- A device's sectors, as it reads them, whether it is out, and at most how many writes wait. -/
structure See (S : Sy) (i : Nat) (L : List (List UInt8)) (g : Bool) (m : Nat) : Prop where
  ds : S.ds.length = 2
  p : S.p = ⟨false, -1⟩
  lt : i < 2
  len : (S.at i).st.length = L.length
  now : ∀ k, k < L.length → (S.at i).now k = L.getD k zeroS
  gone : (S.at i).gone = g
  lies : (S.at i).lies = false
  few : (S.at i).wt.length ≤ m
section
variable {S : Sy} {i j : Nat} {L L' : List (List UInt8)} {g g' : Bool} {m m' : Nat}
theorem See.more (h : See S i L g m) {m' : Nat} (hm : m ≤ m') : See S i L g m' := ⟨h.ds, h.p, h.lt, h.len, h.now, h.gone, h.lies, Nat.le_trans h.few hm⟩
theorem See.put (h : See S j L' g' m') (d : Dv) (hij : j ≠ i) : See (S.put i d) j L' g' m' := by
  have ha : (S.put i d).at j = S.at j := by
    show (S.ds.set i d).getD j noDv = S.ds.getD j noDv
    rw [List.getD_eq_getElem?_getD, List.getD_eq_getElem?_getD, List.getElem?_set, if_neg (fun e => hij e.symm)]
  exact ⟨by rw [len_put]; exact h.ds, h.p, h.lt, by rw [ha]; exact h.len, by rw [ha]; exact h.now, by rw [ha]; exact h.gone, by rw [ha]; exact h.lies, by rw [ha]; exact h.few⟩
theorem see_new (n : Nat) (hn : n ≤ 4096) : See ((S0.new (n : Int)).new (n : Int)) 0 (List.replicate n zeroS) false 0 ∧ See ((S0.new (n : Int)).new (n : Int)) 1 (List.replicate n zeroS) false 0 := by
  have hc : clampN (n : Int) = n := by unfold clampN; omega
  have h1 : ((S0.new (n : Int)).new (n : Int)).at 0 = newDv n := by rw [Sy.new, Sy.new, hc]; rfl
  have h2 : ((S0.new (n : Int)).new (n : Int)).at 1 = newDv n := by rw [Sy.new, Sy.new, hc]; rfl
  refine ⟨⟨rfl, rfl, by omega, by rw [h1, List.length_replicate]; exact List.length_replicate, fun k hk => ?_, by rw [h1]; rfl, by rw [h1]; rfl, by rw [h1]; exact Nat.le_refl _⟩, ⟨rfl, rfl, by omega, by rw [h2, List.length_replicate]; exact List.length_replicate, fun k hk => ?_, by rw [h2]; rfl, by rw [h2]; rfl, by rw [h2]; exact Nat.le_refl _⟩⟩
  · rw [h1]; rfl
  · rw [h2]; rfl
theorem See.refuse (h : See S i L g m) (n : Int) : refuseN S.p (S.at i) n = if g then 13 else if n < 0 ∨ (L.length : Int) ≤ n then 2 else 0 := by
  rw [refuseN, h.p, h.gone, h.len]; rfl
theorem See.read (h : See S i L g m) (n : Int) : readS S.p (S.at i) n = if (g = false ∧ 0 ≤ n ∧ n < (L.length : Int)) then L.getD n.toNat zeroS else zeroS := by
  rw [readS, h.refuse]
  cases g with
  | true => simp
  | false =>
    by_cases hc : n < 0 ∨ (L.length : Int) ≤ n
    · rw [if_neg (show ¬ ((if false = true then (13 : Int) else if n < 0 ∨ (L.length : Int) ≤ n then 2 else 0) = 0) by rw [if_neg (by simp), if_pos hc]; omega), if_neg (fun h => by omega)]
    · rw [if_pos (show (if false = true then (13 : Int) else if n < 0 ∨ (L.length : Int) ≤ n then 2 else 0) = 0 by rw [if_neg (by simp), if_neg hc]), if_pos ⟨rfl, by omega, by omega⟩]
      exact h.now _ (by omega)
theorem See.write_no (h : See S i L g m) {n : Int} {x : List UInt8} (hn : ¬ (g = false ∧ 0 ≤ n ∧ n < (L.length : Int))) : S.write i n x = (if g then 13 else 2, S) := by
  have hr : refuseN S.p (S.at i) n = if g then 13 else 2 := by
    rw [h.refuse]
    cases g with
    | true => rfl
    | false =>
      have hc : n < 0 ∨ (L.length : Int) ≤ n := by
        by_cases h1 : n < 0
        · exact .inl h1
        · by_cases h2 : n < (L.length : Int)
          · exact absurd ⟨rfl, by omega, h2⟩ hn
          · exact .inr (by omega)
      show (if false = true then (13 : Int) else if n < 0 ∨ (L.length : Int) ≤ n then 2 else 0) = 2
      rw [if_neg (by simp), if_pos hc]
  rw [Kd.write_no (by rw [hr]; cases g <;> simp), hr]
theorem See.write_yes (h : See S i L g m) {k : Nat} {x : List UInt8} (hg : g = false) (hk : k < L.length) :
    (S.write i (k : Int) x).1 = 0 ∧ See (S.write i (k : Int) x).2 i (L.set k x) g (m + 1) ∧ ∀ {j L' g' m'}, j ≠ i → See S j L' g' m' → See (S.write i (k : Int) x).2 j L' g' m' := by
  have hr : refuseN S.p (S.at i) (k : Int) = 0 := by rw [h.refuse, hg, if_neg (by simp), if_neg (by omega)]
  have hw := Kd.write_yes (s := x) hr
  have hp : S.p.fails = false := by rw [h.p]; rfl
  have hd0 : i < S.ds.length := by rw [h.ds]; exact h.lt
  have hpp : (S.put i ((S.at i).add k x)).p = ⟨false, -1⟩ := h.p
  rw [hp, count_plain hpp] at hw
  rw [hw]
  have ha : (S.put i ((S.at i).add k x)).at i = (S.at i).add k x := by rw [at_put _ hd0, if_pos rfl]
  refine ⟨rfl, ⟨by rw [len_put]; exact h.ds, hpp, h.lt, by rw [ha, List.length_set]; exact h.len, fun j hj => ?_, by rw [ha]; exact h.gone, by rw [ha]; exact h.lies, ?_⟩, fun hne hj => hj.put _ hne⟩
  · rw [List.length_set] at hj
    rw [ha, set_getD _ _ _ _ hj]
    show nowL (S.at i).st ((S.at i).wt ++ [(k, x)]) j = _
    rw [now_snoc]
    split
    · rfl
    · exact h.now j hj
  · rw [ha]
    show ((S.at i).wt ++ [(k, x)]).length ≤ m + 1
    rw [List.length_append]; have := h.few; simp; exact this
theorem See.flush_no (h : See S i L g m) (hg : g = true) : S.flush i = (13, S) := by
  unfold Sy.flush; dsimp only; rw [h.p, h.gone, hg]; rfl
theorem See.flush_yes (h : See S i L g m) (hg : g = false) : (S.flush i).1 = 0 ∧ See (S.flush i).2 i L g 0 ∧ ∀ {j L' g' m'}, j ≠ i → See S j L' g' m' → See (S.flush i).2 j L' g' m' := by
  have hd0 : i < S.ds.length := by rw [h.ds]; exact h.lt
  have hp : S.p.fails = false := by rw [h.p]; rfl
  have hw : S.flush i = (0, S.put i { S.at i with st := flushL (S.at i).st (S.at i).wt, wt := [] }) := by
    unfold Sy.flush; dsimp only
    rw [if_neg (by rw [h.p, h.gone, hg]; simp), hp, if_neg (by simp), h.lies, if_neg (by simp), count_plain h.p]
  have ha : (S.put i { S.at i with st := flushL (S.at i).st (S.at i).wt, wt := [] }).at i = { S.at i with st := flushL (S.at i).st (S.at i).wt, wt := [] } := by rw [at_put _ hd0, if_pos rfl]
  rw [hw]
  refine ⟨rfl, ⟨by rw [len_put]; exact h.ds, h.p, h.lt, by rw [ha]; exact (flush_length _ _).trans h.len, fun j hj => ?_, by rw [ha]; exact h.gone, by rw [ha]; exact h.lies, by rw [ha]; exact Nat.le_refl _⟩, fun hne hj => hj.put _ hne⟩
  rw [ha]
  show nowL (flushL (S.at i).st (S.at i).wt) [] j = _
  rw [Kd.flush_nil, flush_get _ _ _ (by rw [h.len]; exact hj)]
  exact h.now j hj
theorem See.dry (h : See S i L g 0) : (S.at i).wt = [] := List.length_eq_zero_iff.1 (Nat.le_zero.1 h.few)
theorem See.stable (h : See S i L g 0) : (S.at i).st = L := by
  apply List.ext_getElem?
  intro k
  by_cases hk : k < L.length
  · have h1 := h.now k hk
    rw [Dv.now, h.dry, Kd.flush_nil, List.getD_eq_getElem?_getD, List.getD_eq_getElem?_getD, List.getElem?_eq_getElem (by rw [h.len]; exact hk), List.getElem?_eq_getElem hk] at h1
    rw [List.getElem?_eq_getElem (by rw [h.len]; exact hk), List.getElem?_eq_getElem hk]
    exact congrArg some h1
  · rw [List.getElem?_eq_none (by rw [h.len]; omega), List.getElem?_eq_none (by omega)]
theorem See.out (h : See S i L g 0) (on : Bool) : See (S.put i ((S.at i).out on)) i L on 0 := by
  have hd0 : i < S.ds.length := by rw [h.ds]; exact h.lt
  have ha : (S.put i ((S.at i).out on)).at i = (S.at i).out on := by rw [at_put _ hd0, if_pos rfl]
  have hw : ((S.at i).out on).wt = [] := by show (if on then [] else (S.at i).wt) = []; rw [h.dry]; split <;> rfl
  refine ⟨by rw [len_put]; exact h.ds, h.p, h.lt, by rw [ha]; exact h.len, fun j hj => ?_, by rw [ha]; rfl, by rw [ha]; exact h.lies, by rw [ha, hw]; exact Nat.le_refl _⟩
  rw [ha, Dv.now, hw]
  show nowL (S.at i).st [] j = _
  rw [← h.now j hj, Dv.now, h.dry]
theorem See.rot (h : See S i L g 0) (n a : Int) (b : UInt8) : See (S.rot i n a b) i (if hasByte L.length n a then rotL L n.toNat a.toNat b else L) g 0 := by
  have hl : (S.at i).st.length = L.length := h.len
  rw [Sy.rot, hl]
  split
  · have hd0 : i < S.ds.length := by rw [h.ds]; exact h.lt
    have ha : (S.put i ((S.at i).rot n.toNat a.toNat b)).at i = (S.at i).rot n.toNat a.toNat b := by rw [at_put _ hd0, if_pos rfl]
    refine ⟨by rw [len_put]; exact h.ds, h.p, h.lt, ?_, fun j hj => ?_, by rw [ha]; exact h.gone, by rw [ha]; exact h.lies, by rw [ha]; exact h.few⟩
    · rw [ha, ← h.stable]; rfl
    · rw [ha, Dv.now]
      show nowL (rotL (S.at i).st n.toNat a.toNat b) (S.at i).wt j = _
      rw [h.dry, Kd.flush_nil, h.stable]
  · exact h
theorem See.rot_other (h : See S j L' g' m') (n a : Int) (b : UInt8) (hij : j ≠ i) : See (S.rot i n a b) j L' g' m' := by
  rw [Sy.rot]; split
  · exact h.put _ hij
  · exact h
end
end Go.Proofs.Ytnplhagfmfggcaa.Mu
/-
  The contract of the mirror's Choose.
-/
namespace Go.Proofs.Ytnplhagfmfggcaa.Mi
open Go.RowKit Kd
attribute [local go_sem ↓] Go.wp_at_zero Go.wp_at_succ
section
variable {C : Duo} {G : Gd} {g : Nat} {w w1 : World} {s : Mr C} {F1 F : Nat → Prop}
/-- What is asked of one device by Choose: does it read x, or is x written to it? -/
def Mr.c1 (s : Mr C) (n : Int) (x : List UInt8) (i : Nat) : Bool × Mr C :=
  if (C.rd s.d i n).1 = 0 then (if (C.rd s.d i n).2 = x then (true, s) else ((C.wr s.d i n x).1 == 0, s.dev (C.wr s.d i n x).2)) else (false, s)
theorem ml_read (h : (ML C G g).At w s F) {i : Nat} (hi : i < 2) (n : Int) : Calls Try.prog 30 #[.pointer (C.ptr i), .int .i64 n] w (RetB (.tuple #[.agg (bva (C.rd s.d i n).2), .int .i64 (C.rd s.d i n).1]) w) := by
  obtain ⟨F1, hd, _⟩ := ml_dev h
  exact C.crd hd hi n
theorem ml_rdlen (h : (ML C G g).At w s F) {i : Nat} (hi : i < 2) (n : Int) : (C.rd s.d i n).2.length = 128 := by
  obtain ⟨F1, hd, _⟩ := ml_dev h
  exact C.rd_len hd hi
theorem arg_cells {b : Nat} {n : Int} {x : List UInt8} {i : Nat} (hi : i < 2) (h : ((ML C G g).and (argB g n x b)).At w s F) : w.cell? ⟨g, i, none⟩ = some (.pointer (C.ptr i)) ∧ w.cell? ⟨b, 0, none⟩ = some (.pointer (some ⟨g, 0, none⟩)) ∧ w.cell? ⟨b + 1, 0, none⟩ = some (.int .i64 n) ∧ Blk w (b + 1 + 1) (bva x) 38 := by
  obtain ⟨F0, h0, _, h2, _⟩ := and_lift h
  exact ⟨(ml_ptr h0 hi).1, (h2 _ (by unfold argB; exact List.mem_cons_self)).cell 0, (h2 _ (by unfold argB; exact List.mem_cons_of_mem _ List.mem_cons_self)).cell 0, h2 _ (by unfold argB; exact List.mem_cons_of_mem _ (List.mem_cons_of_mem _ List.mem_cons_self))⟩
theorem c1_ok {k i : Nat} {n : Int} {x : List UInt8} (h : s.ok k) : (s.c1 n x i).2.ok k := by
  unfold Mr.c1
  split
  · split
    · exact h
    · exact h
  · exact h
theorem c1_most {i : Nat} {n : Int} {x : List UInt8} (hi : i < 2) : C.most (s.c1 n x i).2.d ≤ C.most s.d + 1 := by
  unfold Mr.c1
  split
  · split
    · exact Nat.le_succ _
    · exact C.wr_most hi
  · exact Nat.le_succ _
def Mr.choose (s : Mr C) (n : Int) (x : List UInt8) : Int × Mr C :=
  if has s n then ((s.c1 n x 0).2.c1 n x 1).2.reach n.toNat (s.c1 n x 0).1 ((s.c1 n x 0).2.c1 n x 1).1 else (2, s)
end
end Go.Proofs.Ytnplhagfmfggcaa.Mi
/-
  The contract of the mirror's Heal.
-/
namespace Go.Proofs.Ytnplhagfmfggcaa.Mi
open Go.RowKit Kd
attribute [local go_sem ↓] Go.wp_at_zero Go.wp_at_succ
section
variable {C : Duo} {G : Gd} {g : Nat} {w : World} {s : Mr C} {F : Nat → Prop}
def Mr.healTo (s : Mr C) (i n : Nat) (x : List UInt8) : (Int × Int) × Mr C := (if (s.mend i n x).1 = 0 then (1, 0) else (0, (s.mend i n x).1), (s.mend i n x).2)
/-- What Heal tells, and makes of a mirror. -/
def Mr.heal (G : Gd) (s : Mr C) (n : Int) : (Int × Int) × Mr C :=
  if has s n then
    if C.there s.d 0 && C.there s.d 1 then
      (if right C G s 0 n.toNat then
        (if right C G s 1 n.toNat then (if rightV C G s 0 n.toNat = rightV C G s 1 n.toNat then ((0, 0), s) else s.healTo 1 n.toNat (rightV C G s 0 n.toNat))
         else s.healTo 1 n.toNat (rightV C G s 0 n.toNat))
       else if right C G s 1 n.toNat then s.healTo 0 n.toNat (rightV C G s 1 n.toNat) else ((2, 0), s))
    else ((0, 13), s)
  else ((0, 2), s)
def tup2 (x : Int × Int) : Value := .tuple #[.int .i64 x.1, .int .i64 x.2]
set_option maxRecDepth 100000 in
set_option maxHeartbeats 3200000 in
theorem heal_no {p : Option Addr} {n : Int} (hc : Calls Try.prog 121 #[.pointer p, .int .i64 n] w (RetB (.bool false) w)) : Calls Try.prog 116 #[.pointer p, .int .i64 n] w (RetB (tup2 (0, 2)) w) := by
  have HC := Lib.hid hc
  clear hc
  go_enter Try.func116, Try.ntmps116
  go_wp2_with fail
  refine HC.out.mono ?_
  rintro e w1 ⟨rfl, bw⟩
  have B1 := Lib.hid bw
  clear bw
  go_wp2_with fail
  exact bodyPost_ret (results_tmp2 Try.results116 _ _ _) rfl ⟨rfl, B1.out⟩
theorem heal_nil (n : Int) : Calls Try.prog 116 #[.pointer none, .int .i64 n] w (RetB (tup2 (0, 2)) w) := heal_no (has_nil w n)
set_option maxRecDepth 100000 in
set_option maxHeartbeats 12800000 in
theorem heal_any (h : (ML C G g).At w s F) {k : Nat} (hk : s.ok k) (n : Int) (hm : C.most s.d < 1000000) : Calls Try.prog 116 #[.pointer (some ⟨g, 0, none⟩), .int .i64 n] w (RetA (ML C G g) (tup2 (s.heal G n).1) (s.heal G n).2 F w) := by
  cases hh : has s n with
  | false =>
    rw [Mr.heal, hh, if_neg (by simp)]
    have := has_any h n
    rw [hh] at this
    exact (heal_no this).mono fun _ _ hr => RetB.reta h hr
  | true =>
    obtain ⟨j, rfl⟩ : ∃ j : Nat, n = (j : Int) := ⟨n.toNat, by rw [has] at hh; simp at hh; omega⟩
    have hj : j < k := by rw [has] at hh; simp at hh; rw [← hk.1]; exact hh
    have HJ := Lib.hid (show ∀ i, j < (s.st i).length from fun i => by rw [hk.st]; exact hj)
    obtain ⟨z, hz0⟩ : ∃ z : List UInt8, z = zeroS := ⟨_, rfl⟩
    have hz : ∀ W, (zeroValue 38).run Try.prog W = .ok (.agg (bva z)) W := fun _ => by rw [hz0]; kernel_rfl
    have HZ3 := Lib.hid (show z.length = 128 by rw [hz0]; exact zeroS_length)
    have hcc := has_any h (j : Int)
    rw [hh] at hcc
    have HC := Lib.hid hcc
    have M0 := Lib.hid (Mv.start h)
    obtain ⟨RV, hRV⟩ : ∃ RV, RV = s.heal G (j : Int) := ⟨_, rfl⟩
    rw [← hRV]
    rw [Mr.heal, hh, if_pos rfl, Int.toNat_natCast] at hRV
    obtain ⟨tt, htt⟩ : ∃ tt, tt = (C.there s.d 0 && C.there s.d 1) := ⟨_, rfl⟩
    have HW := Lib.hid (show ∀ w F, (ML C G g).At w s F → Calls Try.prog 132 #[.pointer (some ⟨g, 0, none⟩)] w (RetA (ML C G g) (.bool tt) s F w) from fun w F h => by rw [htt]; exact whole_any h)
    rw [← htt] at hRV
    obtain ⟨y0, hy0⟩ : ∃ y, y = rightV C G s 0 j := ⟨_, rfl⟩
    obtain ⟨y1, hy1⟩ : ∃ y, y = rightV C G s 1 j := ⟨_, rfl⟩
    obtain ⟨a, ha⟩ : ∃ a, a = right C G s 0 j := ⟨_, rfl⟩
    obtain ⟨b, hb⟩ : ∃ b, b = right C G s 1 j := ⟨_, rfl⟩
    have HR0 := Lib.hid (show ∀ w F, (ML C G g).At w s F → Calls Try.prog 125 #[.pointer (some ⟨g, 0, none⟩), .int .i64 0, .int .i64 j] w (RetB (.tuple #[.agg (bva y0), .bool a]) w) from fun w F h => by rw [hy0, ha]; exact right_any h (i := 0) (by omega) (HJ.out 0))
    have HR1 := Lib.hid (show ∀ w F, (ML C G g).At w s F → Calls Try.prog 125 #[.pointer (some ⟨g, 0, none⟩), .int .i64 1, .int .i64 j] w (RetB (.tuple #[.agg (bva y1), .bool b]) w) from fun w F h => by rw [hy1, hb]; exact right_any h (i := 1) (by omega) (HJ.out 1))
    have HY3 := Lib.hid (show y0.length = 128 by rw [hy0]; exact rightV_len h (by omega) j)
    have HY4 := Lib.hid (show y1.length = 128 by rw [hy1]; exact rightV_len h (by omega) j)
    have HIY : Hid ((Try.prog.info? 38).map (·.size) = some (bva y0).size) := by rw [bva_size, HY3.out]; exact info_sec
    have HIV : Hid ((Try.prog.info? 38).map (·.size) = some (bva y1).size) := by rw [bva_size, HY4.out]; exact info_sec
    rw [← hy0, ← hy1, ← ha, ← hb] at hRV
    have HRV := Lib.hid hRV
    have HM := Lib.hid hm
    clear hRV hz0 hcc hh hk hj h hm htt hy0 hy1 ha hb
    go_enter Try.func116, Try.ntmps116
    go_wp2_with fail
    refine HC.out.mono ?_
    rintro e w1 ⟨rfl, bw⟩
    have M1 := Lib.hid (M0.out.below bw)
    clear bw M0 HC
    go_wp2_with fail
    refine (HW.out _ _ M1.out.at_).mono ?_
    rintro e w2 ⟨rfl, F2, hm2⟩
    have M2 := Lib.hid (M1.out.trans hm2)
    clear hm2 M1 HW
    cases tt with
    | false =>
      have HEND := Lib.hid (show RV = ((0, 13), s) by rw [HRV.out, if_neg (by simp)])
      go_wp2_with fail
      exact bodyPost_ret (results_tmp2 Try.results116 _ _ _) rfl ⟨by rw [HEND.out]; rfl, F2, by rw [HEND.out]; exact M2.out⟩
    | true =>
      have HRV2 := Lib.hid (show RV = _ from by rw [HRV.out, if_pos rfl])
      clear HRV
      go_wp2_with fail
      refine (HR0.out _ _ M2.out.at_).mono ?_
      rintro e w3 ⟨rfl, bw⟩
      have M3 := Lib.hid (M2.out.below bw)
      clear bw M2 HR0
      go_wp2_with (show wpList _ _ _ ({ dst := none, op := .store 38 (.tmp 6) (.tmp 23), type := _, pos := _, after := _, guard := _ } :: _) _ _; apply Classical.byContradiction; intro hneg)
      refine hneg ?_
      clear hneg
      refine wpList_store_row rfl 38 (.tmp 6) (.tmp 23) rfl w3.heap.size (bva y0) rfl rfl 38 (bva z) (heap_alloc_new _ _) HIY.out (by rw [bva_size, bva_size, HY3.out, HZ3.out]) (bva_one _) ?_
      obtain ⟨w4, hw4⟩ : ∃ w4, w4 = (w3.alloc (.cells (bva z) 38)).setRow w3.heap.size (bva y0) := ⟨_, rfl⟩
      have hbw4 : Below w3.heap.size w3 w4 := by rw [hw4]; exact below_setRow ((Below.refl _ _).alloc (Nat.le_refl _) _) (Nat.le_refl _) _
      have BXw4 := Lib.hid (show Blk w4 w3.heap.size (bva y0) 38 from by rw [hw4]; exact setRow_heap _ _ _ _ _ _ (heap_alloc_new _ _))
      rw [← hw4]
      clear hw4
      have M4 := Lib.hid (M3.out.below hbw4)
      have X4 := Lib.hid (Bx.new M3.out BXw4.out (Nat.le_refl _))
      clear hbw4 M3 BXw4
      obtain ⟨b6, hb6⟩ : ∃ b6, b6 = w3.heap.size := ⟨_, rfl⟩
      rw [← hb6] at X4
      rw [← hb6]
      clear hb6
      go_wp2_with fail
      refine (HR1.out _ _ M4.out.at_).mono ?_
      rintro e w5 ⟨rfl, bw⟩
      have M5 := Lib.hid (M4.out.below bw)
      have X5 := Lib.hid (X4.out.below bw)
      clear bw M4 HR1 X4
      go_wp2_with (show wpList _ _ _ ({ dst := none, op := .store 38 (.tmp 8) (.tmp 29), type := _, pos := _, after := _, guard := _ } :: _) _ _; apply Classical.byContradiction; intro hneg)
      refine hneg ?_
      clear hneg
      refine wpList_store_row rfl 38 (.tmp 8) (.tmp 29) rfl w5.heap.size (bva y1) rfl rfl 38 (bva z) (heap_alloc_new _ _) HIV.out (by rw [bva_size, bva_size, HY4.out, HZ3.out]) (bva_one _) ?_
      obtain ⟨w6, hw6⟩ : ∃ w6, w6 = (w5.alloc (.cells (bva z) 38)).setRow w5.heap.size (bva y1) := ⟨_, rfl⟩
      have hbw6 : Below w5.heap.size w5 w6 := by rw [hw6]; exact below_setRow ((Below.refl _ _).alloc (Nat.le_refl _) _) (Nat.le_refl _) _
      have BXw6 := Lib.hid (show Blk w6 w5.heap.size (bva y1) 38 from by rw [hw6]; exact setRow_heap _ _ _ _ _ _ (heap_alloc_new _ _))
      rw [← hw6]
      clear hw6
      have M6 := Lib.hid (M5.out.below hbw6)
      have X6 := Lib.hid (X5.out.below hbw6)
      have Y6 := Lib.hid (Bx.new M5.out BXw6.out (Nat.le_refl _))
      clear hbw6 M5 BXw6 X5
      obtain ⟨b8, hb8⟩ : ∃ b8, b8 = w5.heap.size := ⟨_, rfl⟩
      rw [← hb8] at Y6
      rw [← hb8]
      clear hb8
      cases a
      · cases b
        · have HEND := Lib.hid (show RV = ((2, 0), s) by rw [HRV2.out, if_neg (by simp), if_neg (by simp)])
          go_wp2_with fail
          exact bodyPost_ret (results_tmp2 Try.results116 _ _ _) rfl ⟨by rw [HEND.out]; rfl, F2, by rw [HEND.out]; exact M6.out⟩
        · skip
          have HEND := Lib.hid (show RV = s.healTo 0 j y1 by rw [HRV2.out, if_neg (by simp), if_pos rfl])
          have HME := Lib.hid (mend_any M6.out.at_ (i := 0) (by omega) (HJ.out 0) y1 HY4.out HM.out)
          obtain ⟨r, hr⟩ : ∃ r, r = s.mend 0 j y1 := ⟨_, rfl⟩
          have HE2 := Lib.hid (show RV = (if r.1 = 0 then (1, 0) else (0, r.1), r.2) by rw [HEND.out, Mr.healTo, hr])
          rw [← hr] at HME
          clear hr HRV2 HEND
          go_wp2_with (first
            | (refine wpList_load_row rfl 38 (.tmp 6) rfl b6 rfl 38 (bva y0) (0, 0) _ X6.out.1 Try.underlying38 rfl HIY.out ?_)
            | (refine wpList_load_row rfl 38 (.tmp 8) rfl b8 rfl 38 (bva y1) (0, 0) _ Y6.out.1 Try.underlying38 rfl HIV.out ?_)
            | (refine wpList_execg8 rfl (exec_load 38 (.tmp 6) rfl rfl X6.out.1 Try.underlying38 rfl HIY.out) ?_)
            | (refine wpList_execg8 rfl (exec_load 38 (.tmp 8) rfl rfl Y6.out.1 Try.underlying38 rfl HIV.out) ?_))
          refine HME.out.mono ?_
          rintro e w7 ⟨rfl, F7, hm7⟩
          have M7 := Lib.hid (M6.out.trans hm7)
          clear hm7 M6 HME X6 Y6
          obtain ⟨r1, hr1⟩ : ∃ r1, r1 = r.1 := ⟨_, rfl⟩
          rw [← hr1]
          by_cases hr0 : r1 = 0
          · have HE3 := Lib.hid (show RV = ((1, 0), r.2) by rw [HE2.out, ← hr1, if_pos hr0])
            subst hr0
            clear hr1
            go_wp2_with fail
            refine (healed_ok _).mono ?_
            rintro e w8 ⟨rfl, rfl⟩
            go_wp2_with fail
            exact bodyPost_ret (results_tmp2 Try.results116 _ _ _) rfl ⟨by rw [HE3.out]; rfl, F7, by rw [HE3.out]; exact M7.out⟩
          · have HE3 := Lib.hid (show RV = ((0, r1), r.2) by rw [HE2.out, ← hr1, if_neg hr0])
            have HR0 := Lib.hid hr0
            clear hr1 hr0
            go_wp2_with fail
            refine (healed_no _ r1 HR0.out).mono ?_
            rintro e w8 ⟨rfl, rfl⟩
            go_wp2_with fail
            exact bodyPost_ret (results_tmp2 Try.results116 _ _ _) rfl ⟨by rw [HE3.out]; rfl, F7, by rw [HE3.out]; exact M7.out⟩
      · cases b
        · skip
          have HEND := Lib.hid (show RV = s.healTo 1 j y0 by rw [HRV2.out, if_pos rfl, if_neg (by simp)])
          have HME := Lib.hid (mend_any M6.out.at_ (i := 1) (by omega) (HJ.out 1) y0 HY3.out HM.out)
          obtain ⟨r, hr⟩ : ∃ r, r = s.mend 1 j y0 := ⟨_, rfl⟩
          have HE2 := Lib.hid (show RV = (if r.1 = 0 then (1, 0) else (0, r.1), r.2) by rw [HEND.out, Mr.healTo, hr])
          rw [← hr] at HME
          clear hr HRV2 HEND
          go_wp2_with (first
            | (refine wpList_load_row rfl 38 (.tmp 6) rfl b6 rfl 38 (bva y0) (0, 0) _ X6.out.1 Try.underlying38 rfl HIY.out ?_)
            | (refine wpList_load_row rfl 38 (.tmp 8) rfl b8 rfl 38 (bva y1) (0, 0) _ Y6.out.1 Try.underlying38 rfl HIV.out ?_)
            | (refine wpList_execg8 rfl (exec_load 38 (.tmp 6) rfl rfl X6.out.1 Try.underlying38 rfl HIY.out) ?_)
            | (refine wpList_execg8 rfl (exec_load 38 (.tmp 8) rfl rfl Y6.out.1 Try.underlying38 rfl HIV.out) ?_))
          refine HME.out.mono ?_
          rintro e w7 ⟨rfl, F7, hm7⟩
          have M7 := Lib.hid (M6.out.trans hm7)
          clear hm7 M6 HME X6 Y6
          obtain ⟨r1, hr1⟩ : ∃ r1, r1 = r.1 := ⟨_, rfl⟩
          rw [← hr1]
          by_cases hr0 : r1 = 0
          · have HE3 := Lib.hid (show RV = ((1, 0), r.2) by rw [HE2.out, ← hr1, if_pos hr0])
            subst hr0
            clear hr1
            go_wp2_with fail
            refine (healed_ok _).mono ?_
            rintro e w8 ⟨rfl, rfl⟩
            go_wp2_with fail
            exact bodyPost_ret (results_tmp2 Try.results116 _ _ _) rfl ⟨by rw [HE3.out]; rfl, F7, by rw [HE3.out]; exact M7.out⟩
          · have HE3 := Lib.hid (show RV = ((0, r1), r.2) by rw [HE2.out, ← hr1, if_neg hr0])
            have HR0 := Lib.hid hr0
            clear hr1 hr0
            go_wp2_with fail
            refine (healed_no _ r1 HR0.out).mono ?_
            rintro e w8 ⟨rfl, rfl⟩
            go_wp2_with fail
            exact bodyPost_ret (results_tmp2 Try.results116 _ _ _) rfl ⟨by rw [HE3.out]; rfl, F7, by rw [HE3.out]; exact M7.out⟩
        · by_cases hyy : y0 = y1
          · have HEND := Lib.hid (show RV = ((0, 0), s) by rw [HRV2.out, if_pos rfl, if_pos rfl, if_pos hyy])
            have hEQ : ∀ W, (Op.equalIn 10000 38 (.agg (bva y0)) (.agg (bva y1))).run Try.prog W = .ok true W := fun W => by rw [eq_sec _ _ HY3.out HY4.out, decide_eq_true hyy]
            clear hyy
            go_wp2_with (first
              | (refine wpList_load_row rfl 38 (.tmp 6) rfl b6 rfl 38 (bva y0) (0, 0) _ X6.out.1 Try.underlying38 rfl HIY.out ?_)
              | (refine wpList_load_row rfl 38 (.tmp 8) rfl b8 rfl 38 (bva y1) (0, 0) _ Y6.out.1 Try.underlying38 rfl HIV.out ?_)
              | (refine wpList_execg8 rfl (exec_load 38 (.tmp 6) rfl rfl X6.out.1 Try.underlying38 rfl HIY.out) ?_)
              | (refine wpList_execg8 rfl (exec_load 38 (.tmp 8) rfl rfl Y6.out.1 Try.underlying38 rfl HIV.out) ?_))
            exact bodyPost_ret (results_tmp2 Try.results116 _ _ _) rfl ⟨by rw [HEND.out]; rfl, F2, by rw [HEND.out]; exact M6.out⟩
          · have hEQ : ∀ W, (Op.equalIn 10000 38 (.agg (bva y0)) (.agg (bva y1))).run Try.prog W = .ok false W := fun W => by rw [eq_sec _ _ HY3.out HY4.out, decide_eq_false hyy]
            have HNE := Lib.hid hyy
            clear hyy
            have HEND := Lib.hid (show RV = s.healTo 1 j y0 by rw [HRV2.out, if_pos rfl, if_pos rfl, if_neg HNE.out])
            have HME := Lib.hid (mend_any M6.out.at_ (i := 1) (by omega) (HJ.out 1) y0 HY3.out HM.out)
            obtain ⟨r, hr⟩ : ∃ r, r = s.mend 1 j y0 := ⟨_, rfl⟩
            have HE2 := Lib.hid (show RV = (if r.1 = 0 then (1, 0) else (0, r.1), r.2) by rw [HEND.out, Mr.healTo, hr])
            rw [← hr] at HME
            clear hr HRV2 HEND
            go_wp2_with (first
              | (refine wpList_load_row rfl 38 (.tmp 6) rfl b6 rfl 38 (bva y0) (0, 0) _ X6.out.1 Try.underlying38 rfl HIY.out ?_)
              | (refine wpList_load_row rfl 38 (.tmp 8) rfl b8 rfl 38 (bva y1) (0, 0) _ Y6.out.1 Try.underlying38 rfl HIV.out ?_)
              | (refine wpList_execg8 rfl (exec_load 38 (.tmp 6) rfl rfl X6.out.1 Try.underlying38 rfl HIY.out) ?_)
              | (refine wpList_execg8 rfl (exec_load 38 (.tmp 8) rfl rfl Y6.out.1 Try.underlying38 rfl HIV.out) ?_))
            refine HME.out.mono ?_
            rintro e w7 ⟨rfl, F7, hm7⟩
            have M7 := Lib.hid (M6.out.trans hm7)
            clear hm7 M6 HME X6 Y6
            obtain ⟨r1, hr1⟩ : ∃ r1, r1 = r.1 := ⟨_, rfl⟩
            rw [← hr1]
            by_cases hr0 : r1 = 0
            · have HE3 := Lib.hid (show RV = ((1, 0), r.2) by rw [HE2.out, ← hr1, if_pos hr0])
              subst hr0
              clear hr1
              go_wp2_with fail
              refine (healed_ok _).mono ?_
              rintro e w8 ⟨rfl, rfl⟩
              go_wp2_with fail
              exact bodyPost_ret (results_tmp2 Try.results116 _ _ _) rfl ⟨by rw [HE3.out]; rfl, F7, by rw [HE3.out]; exact M7.out⟩
            · have HE3 := Lib.hid (show RV = ((0, r1), r.2) by rw [HE2.out, ← hr1, if_neg hr0])
              have HR0 := Lib.hid hr0
              clear hr1 hr0
              go_wp2_with fail
              refine (healed_no _ r1 HR0.out).mono ?_
              rintro e w8 ⟨rfl, rfl⟩
              go_wp2_with fail
              exact bodyPost_ret (results_tmp2 Try.results116 _ _ _) rfl ⟨by rw [HE3.out]; rfl, F7, by rw [HE3.out]; exact M7.out⟩
end
end Go.Proofs.Ytnplhagfmfggcaa.Mi
/-
  The contracts of catchUp and Sync.
-/
namespace Go.Proofs.Ytnplhagfmfggcaa.Mi
open Go.RowKit Kd
attribute [local go_sem ↓] Go.wp_at_zero Go.wp_at_succ
section
variable {C : Duo} {G : Gd} {g : Nat} {w : World} {s : Mr C} {F : Nat → Prop}
/-- One place of a device catches up. -/
def Mr.catch1 (G : Gd) (s : Mr C) (i n : Nat) : Mr C := if (s.st i).getD n false && right C G s (1 - i) n then (s.mend i n (rightV C G s (1 - i) n)).2 else s
def Mr.catchTo (G : Gd) (s : Mr C) (i : Nat) : Nat → Mr C
  | 0 => s
  | n + 1 => (s.catchTo G i n).catch1 G i n
theorem mend_ok {k i n : Nat} {x : List UInt8} (h : s.ok k) : (s.mend i n x).2.ok k := by
  unfold Mr.mend; dsimp only; split
  · exact Mr.ok.put h
  · exact h
theorem mend_most {i n : Nat} {x : List UInt8} (hi : i < 2) : C.most (s.mend i n x).2.d ≤ C.most s.d + 1 := by
  unfold Mr.mend; dsimp only; split
  · rw [put_d]; exact C.wr_most hi
  · exact C.wr_most hi
theorem catch1_ok {k i n : Nat} (h : s.ok k) : (s.catch1 G i n).ok k := by
  unfold Mr.catch1; split
  · exact mend_ok h
  · exact h
theorem catch1_most {i n : Nat} (hi : i < 2) : C.most (s.catch1 G i n).d ≤ C.most s.d + 1 := by
  unfold Mr.catch1; split
  · exact mend_most hi
  · exact Nat.le_succ _
theorem catchTo_ok {k i : Nat} (h : s.ok k) : ∀ n, (s.catchTo G i n).ok k
  | 0 => h
  | n + 1 => catch1_ok (catchTo_ok h n)
theorem catchTo_most {i : Nat} (hi : i < 2) : ∀ n, C.most (s.catchTo G i n).d ≤ C.most s.d + n
  | 0 => Nat.le_refl _
  | n + 1 => Nat.le_trans (catch1_most hi) (by have := catchTo_most hi n; omega)
theorem pin_cell {A B : Option Addr} {n c m e : Nat} {w : World} {s : Mr C} (h : (ML C (G.at A n c B m e) g).At w s F) {i : Nat} (hi : i < 2) :
    w.cell? ⟨g, 2 + i, none⟩ = some (if i = 0 then .slice A n c else .slice B m e) ∧ (s.st i).length = (if i = 0 then n else m) := by
  obtain ⟨A', n', c', B', m', e', F1, h, _⟩ := h
  obtain ⟨rfl, rfl, rfl, rfl, rfl, rfl⟩ := h.pin
  rcases two hi with rfl | rfl
  · exact ⟨h.blk.cell 2, h.an⟩
  · exact ⟨h.blk.cell 3, h.bn⟩
/-- What Sync makes of a mirror, and tells. -/
def Mr.caught (G : Gd) (s : Mr C) (k : Nat) : Mr C := (s.catchTo G 0 k).catchTo G 1 k
def Mr.sync (G : Gd) (s : Mr C) (k : Nat) : Int × Mr C :=
  if C.there s.d 0 && C.there s.d 1 then
    (if (s.caught G k).flushed = (true, true) then (if cnt (((s.caught G k).fl0 0).fl0 1).a = 0 ∧ cnt (((s.caught G k).fl0 0).fl0 1).b = 0 then 0 else 9) else 13, ((s.caught G k).fl0 0).fl0 1)
  else (13, s)
end
end Go.Proofs.Ytnplhagfmfggcaa.Mi
/-
  How arguments that came in are opened: a []byte, a slice of them, and so on, as what my words say of them.
-/
namespace Go.Proofs.Ytnplhagfmfggcaa
open Go.RowKit Go.ChangeShapes Go.WideShapes

/-- The byte of a number. -/
def byteOf (n : Int) : UInt8 := UInt8.ofNat n.toNat
theorem byteOf_val {n : Int} (h : (Lit.int .u8 n).wf = true) : ((byteOf n).toNat : Int) = n := by
  have hb := bounds_u8 h
  unfold byteOf
  rw [UInt8.toNat_ofNat']
  omega

section
variable {H : Type} {enc : TypeId × Value → H} {P : Program} {w : World} {base : Nat} {spare : Nat → Bool} {held : Bool}

theorem isB_of_trod {t e fuel : Nat} {v : Value} {x : DataW H × List MemPlace} (ht : P.underlying t = some (.slice e)) (he : P.underlying e = some (.int .u8)) (hc : P.cellsOf e = 1)
    (h : DataW.trod enc P w base spare held fuel t [v] = some x) : ∃ l, IsB w.heap.size w v l := by
  rcases open_ints ht he hc h with ⟨hcs, _⟩ | ⟨a, len, cap, zs, hcs, _, hl, hm, hz, _, hcell, hwz⟩
  · simp only [List.cons.injEq, and_true] at hcs
    subst hcs
    exact ⟨[], none, 0, rfl, Nat.le_refl _, Nat.zero_le _, Rd.none⟩
  · simp only [List.cons.injEq, and_true] at hcs
    subst hcs
    have hlz : len ≤ zs.length := by rw [hz]; split <;> omega
    have hlen : ((zs.take len).map byteOf).length = len := by simp; omega
    refine ⟨(zs.take len).map byteOf, some a, cap, by rw [hlen], by omega, hm, fun k u hu => ?_⟩
    have hk : k < len := by
      have := (List.getElem?_eq_some_iff.1 hu).1
      rw [bv_length, hlen] at this
      exact this
    have hkz : k < zs.length := by omega
    have hg := hcell k hkz
    have hd : zs.getD k 0 = zs[k] := by simp [List.getD, hkz]
    have hw := hwz _ (List.getElem_mem hkz)
    have hb := World.block_lt_of_cell? _ _ hg
    rw [add_block] at hb
    refine ⟨a, rfl, hb, ?_⟩
    rw [hg, hd]
    have e2 : (bv ((zs.take len).map byteOf))[k]? = some (.int .u8 zs[k]) := by
      rw [bv_get (by rw [hlen]; exact hk)]
      simp only [List.getElem_map, List.getElem_take]
      rw [byteOf_val hw]
    rw [← hu, e2]

theorem isL_of_trod {α : Type} {R : Value → α → Prop} {t e fuel : Nat} {v : Value} {x : DataW H × List MemPlace} (ht : P.underlying t = some (.slice e)) (hc : P.cellsOf e = 1)
    (each : ∀ (n : Nat) (u : Value) (y : DataW H × List MemPlace), DataW.trod enc P w base spare held n e [u] = some y → ∃ l, R u l)
    (h : DataW.trod enc P w base spare held fuel t [v] = some x) : ∃ ls, IsL w.heap.size w R v ls := by
  rcases Go.Deep.open_slice1 ht hc h with ⟨hcs, _⟩ | ⟨a, len, cap, m, n, V, D, Pl, hcs, _, hl, hm, hmm, _, hx⟩
  · simp only [List.cons.injEq, and_true] at hcs
    subst hcs
    exact ⟨[], none, 0, rfl, Nat.le_refl _, Nat.zero_le _, RdL.none⟩
  · simp only [List.cons.injEq, and_true] at hcs
    subst hcs
    have hlm : len ≤ m := by rw [hmm]; split <;> omega
    have hall : ∀ j, j ≤ len → ∃ ls : List α, ls.length = j ∧ ∀ (k : Nat) (l : α), ls[k]? = some l → R (V k) l := by
      intro j
      induction j with
      | zero => exact fun _ => ⟨[], rfl, fun k l hk => by simp at hk⟩
      | succ j ih =>
        intro hj
        obtain ⟨ls, hls, hR⟩ := ih (by omega)
        obtain ⟨l, hl'⟩ := each n (V j) _ (hx j (by omega)).2
        refine ⟨ls ++ [l], by simp [hls], fun k l' hk => ?_⟩
        rcases Nat.lt_trichotomy k j with hlt | rfl | hgt
        · rw [List.getElem?_append_left (by omega)] at hk
          exact hR k l' hk
        · rw [List.getElem?_append_right (by omega), hls, Nat.sub_self] at hk
          injection hk with hk
          subst hk
          exact hl'
        · rw [List.getElem?_eq_none (by simp; omega)] at hk
          cases hk
    obtain ⟨ls, hls, hR⟩ := hall len (Nat.le_refl _)
    refine ⟨ls, some a, cap, by rw [hls], by omega, hm, (List.range len).map V, by simp [hls], fun k u hu => ?_, fun k u l hu hl' => ?_⟩
    · have hk : k < len := by have := (List.getElem?_eq_some_iff.1 hu).1; simpa using this
      have hg := (hx k (by omega)).1
      have hb := World.block_lt_of_cell? _ _ hg
      rw [add_block] at hb
      have e2 : ((List.range len).map V)[k]? = some (V k) := by simp [hk]
      exact ⟨a, rfl, hb, by rw [hg, ← hu, e2]⟩
    · have hk : k < len := by have := (List.getElem?_eq_some_iff.1 hu).1; simpa using this
      have e2 : ((List.range len).map V)[k]? = some (V k) := by simp [hk]
      rw [e2] at hu
      injection hu with hu
      subst hu
      exact hR k l hl'

/-- A []byte that came in. -/
theorem open_bytes {t e : Nat} {a : Option Addr} {len cap : Nat} {d : DataW H} {ps : List MemPlace} (ht : P.underlying t = some (.slice e)) (he : P.underlying e = some (.int .u8)) (hc : P.cellsOf e = 1)
    (h : DataW.Trod enc P w base spare held t (.slice a len cap) d ps) : ∃ l : List UInt8, l.length = len ∧ len ≤ cap ∧ cap ≤ maxLen ∧ Rd w.heap.size w a (bv l) := by
  obtain ⟨fuel, hf⟩ := h
  obtain ⟨l, A, c, hv, h1, h2, h3⟩ := isB_of_trod ht he hc hf
  injection hv with e1 e2 e3
  subst e1; subst e2; subst e3
  exact ⟨l, rfl, h1, h2, h3⟩
/-- A [][]byte that came in. -/
theorem open_rows {t s e : Nat} {a : Option Addr} {len cap : Nat} {d : DataW H} {ps : List MemPlace} (ht : P.underlying t = some (.slice s)) (hs : P.underlying s = some (.slice e)) (he : P.underlying e = some (.int .u8))
    (hcs : P.cellsOf s = 1) (hc : P.cellsOf e = 1)
    (h : DataW.Trod enc P w base spare held t (.slice a len cap) d ps) : ∃ ls : List (List UInt8), ls.length = len ∧ len ≤ cap ∧ cap ≤ maxLen ∧ RdB w.heap.size w a ls := by
  obtain ⟨fuel, hf⟩ := h
  obtain ⟨ls, A, c, hv, h1, h2, h3⟩ := isL_of_trod (R := IsB w.heap.size w) ht hcs (fun _ _ _ hy => isB_of_trod hs he hc hy) hf
  injection hv with e1 e2 e3
  subst e1; subst e2; subst e3
  exact ⟨ls, rfl, h1, h2, h3⟩
/-- A [][][]byte that came in. -/
theorem open_rows3 {t r s e : Nat} {a : Option Addr} {len cap : Nat} {d : DataW H} {ps : List MemPlace} (ht : P.underlying t = some (.slice r)) (hr : P.underlying r = some (.slice s)) (hs : P.underlying s = some (.slice e)) (he : P.underlying e = some (.int .u8))
    (hcr : P.cellsOf r = 1) (hcs : P.cellsOf s = 1) (hc : P.cellsOf e = 1)
    (h : DataW.Trod enc P w base spare held t (.slice a len cap) d ps) : ∃ ls : List (List (List UInt8)), ls.length = len ∧ len ≤ cap ∧ cap ≤ maxLen ∧ RdL w.heap.size w (IsL w.heap.size w (IsB w.heap.size w)) a ls := by
  obtain ⟨fuel, hf⟩ := h
  obtain ⟨ls, A, c, hv, h1, h2, h3⟩ := isL_of_trod (R := IsL w.heap.size w (IsB w.heap.size w)) ht hcr (fun _ _ _ hy => isL_of_trod hr hcs (fun _ _ _ hz => isB_of_trod hs he hc hz) hy) hf
  injection hv with e1 e2 e3
  subst e1; subst e2; subst e3
  exact ⟨ls, rfl, h1, h2, h3⟩
end

end Go.Proofs.Ytnplhagfmfggcaa
/-
  Deeds: how a row of them that came in is opened, and how one is read.
-/
namespace Go.Proofs.Ytnplhagfmfggcaa.Kd
open Go.RowKit
/-- A deed: On, Kind, N, M, C. -/
structure Dd where
  on : Int
  kind : Int
  n : Int
  m : Int
  c : UInt8
def ddV (x : Dd) : List Value := [.int .i64 x.on, .int .i64 x.kind, .int .i64 x.n, .int .i64 x.m, .int .u8 (x.c.toNat : Int)]
def ddN : Dd := ⟨0, 0, 0, 0, 0⟩
def dds : List Dd → List Value
  | [] => []
  | x :: l => ddV x ++ dds l
theorem dds_append (a b : List Dd) : dds (a ++ b) = dds a ++ dds b := by
  induction a with
  | nil => rfl
  | cons x l ih => simp [dds, ih]
theorem ddV_length (x : Dd) : (ddV x).length = 5 := rfl
theorem dds_length (l : List Dd) : (dds l).length = l.length * 5 := by
  induction l with
  | nil => rfl
  | cons x l ih => rw [dds, List.length_append, ddV_length, ih, List.length_cons]; omega
theorem dds_get {l : List Dd} {k : Nat} (hk : k < l.length) {j : Nat} {v : Value} (hv : (ddV l[k])[j]? = some v) : (dds l)[5 * k + j]? = some v := by
  induction l generalizing k with
  | nil => simp at hk
  | cons x l ih =>
    cases k with
    | zero =>
      have hj : j < 5 := (List.getElem?_eq_some_iff.1 hv).1
      rw [dds, Nat.mul_zero, Nat.zero_add, List.getElem?_append_left (by rw [ddV_length]; omega)]
      exact hv
    | succ k =>
      rw [dds, List.getElem?_append_right (by rw [ddV_length]; omega), ddV_length, show 5 * (k + 1) + j - 5 = 5 * k + j by omega]
      exact ih (by simpa using hk) (by simpa using hv)
/-- All of a deed's numbers are numbers. -/
def Dd.ok (x : Dd) : Prop := (-9223372036854775808 ≤ x.on ∧ x.on ≤ 9223372036854775807) ∧ (-9223372036854775808 ≤ x.kind ∧ x.kind ≤ 9223372036854775807) ∧ (-9223372036854775808 ≤ x.n ∧ x.n ≤ 9223372036854775807) ∧ (-9223372036854775808 ≤ x.m ∧ x.m ≤ 9223372036854775807)
/-- A deed of a row, read. -/
theorem rd_deed {B : Nat} {w : World} {A : Option Addr} {l : List Dd} (h : Rd B w A (dds l)) {k : Nat} (hk : k < l.length) :
    ∃ ad, A = some ad ∧ ad.block < B ∧ ∀ j v, (ddV l[k])[j]? = some v → w.cell? ((ad.add (k * 5)).add j) = some v := by
  obtain ⟨ad, hA, hb, _⟩ := h _ _ (dds_get hk (j := 0) (v := .int .i64 l[k].on) rfl)
  refine ⟨ad, hA, hb, fun j v hv => ?_⟩
  obtain ⟨ad', hA', _, hc⟩ := h _ _ (dds_get hk hv)
  rw [hA] at hA'; injection hA' with hA'
  rw [hA', add_twice8, Nat.mul_comm k 5]
  exact hc
section
open Go.ChangeShapes Go.WideShapes
variable {H : Type} {enc : TypeId × Value → H} {w : World} {base : Nat} {spare : Nat → Bool} {held : Bool}
theorem deed_fields : (Try.prog.fieldsOf 36).toList.map (fun f => (f.name == "_", f.type, f.offset)) = [(false, 3, 0), (false, 3, 1), (false, 3, 2), (false, 3, 3), (false, 5, 4)] := by kernel_rfl
theorem deed_under : Try.prog.underlying 36 = some (.struct (Try.prog.fieldsOf 36)) := by kernel_rfl
set_option maxRecDepth 100000 in
theorem deed_of_trod {fuel : Nat} {cs : List Value} {x : DataW H × List MemPlace} (h : DataW.trod enc Try.prog w base spare held fuel 36 cs = some x) :
    ∃ y : Dd, cs = ddV y ∧ y.ok := by
  obtain ⟨xs, n, _, _, hl, hlen, hf⟩ := DataW.trod_struct deed_under h
  have hfs := deed_fields
  have hcn : Try.prog.cellsOf 36 = 5 := by kernel_rfl
  have hci : Try.prog.cellsOf 3 = 1 := by kernel_rfl
  have hcb : Try.prog.cellsOf 5 = 1 := by kernel_rfl
  generalize Try.prog.fieldsOf 36 = fs at hfs hlen hf
  rw [hcn] at hl
  obtain ⟨L⟩ := fs
  have hL5 : L.length = 5 := by simpa using congrArg List.length hfs
  match L, hL5, hfs, hf, hlen with
  | [f0, f1, f2, f3, f4], _, hfs, hf, hlen =>
    simp only [List.map_cons, List.map_nil, List.cons.injEq, Prod.mk.injEq, and_true] at hfs
    obtain ⟨⟨_, t0, o0⟩, ⟨_, t1, o1⟩, ⟨_, t2, o2⟩, ⟨_, t3, o3⟩, ⟨_, t4, o4⟩⟩ := hfs
    have h5 : xs.length = 5 := hlen
    have g0 := hf 0 f0 rfl
    have g1 := hf 1 f1 rfl
    have g2 := hf 2 f2 rfl
    have g3 := hf 3 f3 rfl
    have g4 := hf 4 f4 rfl
    rw [t0, o0, hci, List.getElem?_eq_getElem (by omega)] at g0
    rw [t1, o1, hci, List.getElem?_eq_getElem (by omega)] at g1
    rw [t2, o2, hci, List.getElem?_eq_getElem (by omega)] at g2
    rw [t3, o3, hci, List.getElem?_eq_getElem (by omega)] at g3
    rw [t4, o4, hcb, List.getElem?_eq_getElem (by omega)] at g4
    obtain ⟨a0, e0, _, w0⟩ := DataW.trod_int Try.underlying3 g0
    obtain ⟨a1, e1, _, w1⟩ := DataW.trod_int Try.underlying3 g1
    obtain ⟨a2, e2, _, w2⟩ := DataW.trod_int Try.underlying3 g2
    obtain ⟨a3, e3, _, w3⟩ := DataW.trod_int Try.underlying3 g3
    obtain ⟨a4, e4, _, w4⟩ := DataW.trod_int Try.underlying5 g4
    match cs, hl with
    | [u0, u1, u2, u3, u4], _ =>
      simp at e0 e1 e2 e3 e4
      exact ⟨⟨a0, a1, a2, a3, byteOf a4⟩, by rw [e0, e1, e2, e3, e4]; unfold ddV; rw [byteOf_val w4], bounds_i64 w0, bounds_i64 w1, bounds_i64 w2, bounds_i64 w3⟩
/-- A row of deeds that came in. -/
theorem open_deeds {a : Option Addr} {len cap : Nat} {d : DataW H} {ps : List MemPlace} (h : DataW.Trod enc Try.prog w base spare held 22 (.slice a len cap) d ps) :
    ∃ l : List Dd, l.length = len ∧ len ≤ cap ∧ cap ≤ maxLen ∧ Rd w.heap.size w a (dds l) ∧ ∀ y ∈ l, y.ok := by
  obtain ⟨fuel, hf⟩ := h
  have hf' : DataW.trod enc Try.prog w base spare held fuel 22 [Value.slice a len cap] = some (d, ps) := hf
  have hcn : Try.prog.cellsOf 36 = 5 := by kernel_rfl
  rcases Go.Deep.open_slice Try.underlying22 hf' with ⟨hcs, _⟩ | ⟨a', len', cap', m, n, D, Pl, hcs, _, hl, hm, hmm, _, hx⟩
  · simp only [List.cons.injEq, and_true] at hcs
    injection hcs with e1 e2 e3
    subst e1; subst e2; subst e3
    exact ⟨[], rfl, Nat.le_refl _, Nat.zero_le _, Rd.none, fun y hy => by simp at hy⟩
  · simp only [List.cons.injEq, and_true] at hcs
    injection hcs with e1 e2 e3
    subst e1; subst e2; subst e3
    have hlm : len ≤ m := by rw [hmm]; split <;> omega
    rw [hcn] at hx
    have hall : ∀ j, j ≤ len → ∃ l : List Dd, l.length = j ∧ (∀ y ∈ l, y.ok) ∧ ∀ k u, (dds l)[k]? = some u → w.cell? (a'.add k) = some u := by
      intro j
      induction j with
      | zero => exact fun _ => ⟨[], rfl, fun y hy => by simp at hy, fun k u hu => by simp [dds] at hu⟩
      | succ j ih =>
        intro hj
        obtain ⟨l, hl', hb, hc⟩ := ih (by omega)
        obtain ⟨cs', h1, h2⟩ := hx j (by omega)
        obtain ⟨y, hy, hyb⟩ := deed_of_trod h2
        obtain ⟨_, _, hcl⟩ := World.cells?_some h1
        have hnl : (dds l).length = j * 5 := by rw [dds_length, hl']
        refine ⟨l ++ [y], by simp [hl'], fun z hz => ?_, fun k u hu => ?_⟩
        · rcases List.mem_append.1 hz with hz | hz
          · exact hb z hz
          · rw [List.mem_singleton] at hz; rw [hz]; exact hyb
        · rw [dds_append] at hu
          rcases Nat.lt_or_ge k (dds l).length with hk | hk
          · rw [List.getElem?_append_left hk] at hu
            exact hc k u hu
          · rw [List.getElem?_append_right hk, dds, dds, List.append_nil, ← hy, hnl] at hu
            have hk5 : k - j * 5 < 5 := by
              have := (List.getElem?_eq_some_iff.1 hu).1
              rw [hy, ddV_length] at this; exact this
            have h3 := hcl (k - j * 5) hk5
            rw [add_twice8, show j * 5 + (k - j * 5) = k by omega, hu] at h3
            exact h3
    obtain ⟨l, hl', hb, hc⟩ := hall len (Nat.le_refl _)
    refine ⟨l, hl', hl, hm, fun k u hu => ⟨a', rfl, ?_, hc k u hu⟩, hb⟩
    have := World.block_lt_of_cell? _ _ (hc k u hu)
    rw [add_block] at this
    exact this
end
end Go.Proofs.Ytnplhagfmfggcaa.Kd
/-
  A device that lies; a row of sectors that is appended to. The rows of deeds in the laws.
-/
namespace Go.Proofs.Ytnplhagfmfggcaa.Kd
open Go.RowKit Go.Maps
/-- One device of L empty sectors, of which these writes wait; does it lie? -/
def lieS (L : Nat) (b : Bool) (wt : List (Nat × List UInt8)) : Sy := ⟨⟨false, -1⟩, [⟨List.replicate L zeroS, wt, 0, 0, b, false⟩]⟩
variable {L : Nat} {b : Bool} {wt : List (Nat × List UInt8)} {i : Int} {s : List UInt8}
theorem lie_refuse (h : 0 ≤ i ∧ i < (L : Int)) : refuseN (lieS L b wt).p ((lieS L b wt).at 0) i = 0 := by
  show (if (false || false) = true then (13 : Int) else if i < 0 ∨ ((List.replicate L zeroS).length : Int) ≤ i then 2 else 0) = 0
  rw [if_neg (by simp), if_neg (by rw [List.length_replicate]; omega)]
theorem lie_wy (h : 0 ≤ i ∧ i < (L : Int)) : (lieS L b wt).write 0 i s = (0, lieS L b (wt ++ [(i.toNat, s)])) := by
  obtain ⟨n, rfl⟩ := Int.eq_ofNat_of_zero_le h.1
  rw [write_yes (lie_refuse h)]; rfl
theorem lie_wn (h : ¬ (0 ≤ i ∧ i < (L : Int))) : (lieS L b wt).write 0 i s = (2, lieS L b wt) := by
  have hr : refuseN (lieS L b wt).p ((lieS L b wt).at 0) i = 2 := by
    show (if (false || false) = true then (13 : Int) else if i < 0 ∨ ((List.replicate L zeroS).length : Int) ≤ i then 2 else 0) = 2
    rw [if_neg (by simp), if_pos (by rw [List.length_replicate]; omega)]
  rw [write_no (by rw [hr]; decide), hr]
theorem lie_f : (lieS L true wt).flush 0 = (0, lieS L true wt) := rfl
theorem lie_off : (lieS L true wt).put 0 (((lieS L true wt).at 0).lie false) = lieS L false wt := rfl
theorem lie_on : (S0.new (20 : Int)).put 0 (((S0.new 20).at 0).lie true) = lieS 20 true [] := by kernel_rfl
/-- .. when all is flushed. -/
def lieE (L : Nat) (wt : List (Nat × List UInt8)) : Sy := ⟨⟨false, -1⟩, [⟨flushL (List.replicate L zeroS) wt, [], 0, 0, false, false⟩]⟩
theorem lie_e : (lieS L false wt).flush 0 = (0, lieE L wt) := rfl
theorem lie_len : ((lieS L b wt).at 0).st.length = L := by show (List.replicate L zeroS).length = L; rw [List.length_replicate]
theorem lie_secs : ∀ x ∈ List.replicate L zeroS, x.length = 128 := fun x hx => by rw [List.eq_of_mem_replicate hx]; exact zeroS_length
theorem lie_wait : (((lieS L b wt).at 0).wt.length : Int) = (wt.length : Int) := rfl
theorem lieE_st : ((lieE L wt).at 0).st = (List.range L).map (nowL (List.replicate L zeroS) wt) := by
  show flushL (List.replicate L zeroS) wt = _
  rw [flush_now, List.length_replicate]
theorem lieE_wait : (((lieE L wt).at 0).wt.length : Int) = 0 := rfl
theorem lie_read {k : Nat} (h : k < L) : readV (lieS L b wt).p ((lieS L b wt).at 0) (k : Int) = .tuple #[.agg (bva (nowL (List.replicate L zeroS) wt k)), .int .i64 0] := by
  rw [readV_yes (lie_refuse (by omega))]; rfl
/-- A row of sectors in new memory that is none of the devices'. -/
def RowN (w0 w : World) (F : Nat → Prop) (v : Value) (n : Nat) (l : List (List UInt8)) : Prop := w.ownsRow w0.heap.size 38 128 v n (svs l) ∧ ∀ q, v.ownBlock = some q → ¬ F q
section
variable {w0 w w' : World} {F F' : Nat → Prop} {v : Value} {n : Nat} {l : List (List UInt8)}
theorem RowN.step (h : RowN w0 w F v n l) (h1 : ∀ q, F' q → F q ∨ w.heap.size ≤ q) (h2 : But F w w') : RowN w0 w' F' v n l :=
  ⟨Own.but h.1 h2 h.2, fun q hq hf => by
    rcases h1 q hf with h3 | h3
    · exact h.2 q hq h3
    · have := (h.1.lt q hq).2; omega⟩
theorem RowN.below (h : RowN w0 w F v n l) (hb : Below w.heap.size w w') : RowN w0 w' F v n l := ⟨own_belowN h.1 hb, h.2⟩
theorem RowN.app {A' : Option Addr} {m c' : Nat} {y : List UInt8} (h : RowN w0 w F v n l) (hF : ∀ q, F q → q < w.heap.size) (ho : w'.ownsRow w0.heap.size 38 128 (.slice A' m c') m (svs l ++ bv y))
    (hor : (Value.slice A' m c').ownBlock = v.ownBlock ∨ (Value.slice A' m c').ownBlock = some w.heap.size) : RowN w0 w' F (.slice A' m c') m (l ++ [y]) :=
  ⟨by rw [svs_append, svs, svs, List.append_nil]; exact ho, fun q hq hf => by
    rcases hor with h1 | h1
    · exact h.2 q (h1 ▸ hq) hf
    · rw [h1] at hq; injection hq with hq; have := hF q hf; omega⟩
theorem rowN_nil : RowN w0 w F (.slice none 0 0) 0 [] := ⟨World.ownsRow_nil _ _ _ _, fun q hq => by cases hq⟩
/-- The devices behind an append to such a row. -/
theorem Live.app8 {p : Nat} {gs : List Nat} {S : Sy} (h : Live w0 w p gs S F) (hr : RowN w0 w F v n l) (hg : w.grownBy w' v.ownBlock) : Live w0 w' p gs S F :=
  h.but8 (T := fun q => v.ownBlock = some q) ((But.refl w).grown hg (fun _ hq => .inl hq)) (fun q hf hq => hr.2 q hq hf) (fun q hq => (hr.1.lt q hq).1)
end
end Go.Proofs.Ytnplhagfmfggcaa.Kd
/-
  The contract of the mirror's Both.
-/
namespace Go.Proofs.Ytnplhagfmfggcaa.Mi
open Go.RowKit Kd
attribute [local go_sem ↓] Go.wp_at_zero Go.wp_at_succ
section
variable {C : Duo} {G : Gd} {g : Nat} {w : World} {s : Mr C} {F : Nat → Prop}
/-- What the first p devices read of a place, as far as it may stand. -/
def bothTo (C : Duo) (G : Gd) (d : C.L.St) (n : Int) : Nat → List (List UInt8)
  | 0 => []
  | p + 1 => bothTo C G d n p ++ if rdOk C G d p n then [(C.rd d p n).2] else []
def bothL (G : Gd) (s : Mr C) (n : Int) : List (List UInt8) := if has s n then bothTo C G s.d n 2 else []
theorem bothTo_len (h : (ML C G g).At w s F) (n : Int) : ∀ p, p ≤ 2 → ∀ x ∈ bothTo C G s.d n p, x.length = 128
  | 0, _ => fun x hx => by cases hx
  | p + 1, hp => fun x hx => by
    rw [bothTo, List.mem_append] at hx
    rcases hx with hx | hx
    · exact bothTo_len h n p (by omega) x hx
    · split at hx
      · rw [List.mem_singleton] at hx
        subst hx
        obtain ⟨F1, hd, _⟩ := ml_dev h
        exact C.rd_len hd (by omega)
      · cases hx
theorem bothTo_few (d : C.L.St) (n : Int) : ∀ p, (bothTo C G d n p).length ≤ p
  | 0 => Nat.le_refl _
  | p + 1 => by
    rw [bothTo, List.length_append]
    have := bothTo_few d n p
    split <;> simp <;> omega
/-- It returns a new row of sectors. -/
def RetSec (l : List (List UInt8)) (w : World) (e : Ending) (w' : World) : Prop :=
  ∃ A n c, e = .returned (.slice A n c) ∧ l.length = n ∧ w'.ownsRow w.heap.size 38 128 (.slice A n c) n (svs l) ∧ Below w.heap.size w w'
set_option maxRecDepth 100000 in
set_option maxHeartbeats 3200000 in
theorem both_no {p : Option Addr} {n : Int} (hc : Calls Try.prog 121 #[.pointer p, .int .i64 n] w (RetB (.bool false) w)) : Calls Try.prog 129 #[.pointer p, .int .i64 n] w (RetSec [] w) := by
  have HC := Lib.hid hc
  clear hc
  go_enter Try.func129, Try.ntmps129
  go_wp2_with fail
  refine HC.out.mono ?_
  rintro e w1 ⟨rfl, bw⟩
  have B1 := Lib.hid bw
  clear bw
  go_wp2_with fail
  go_ret
  exact ⟨none, 0, 0, rfl, rfl, World.ownsRow_nil _ _ _ _, B1.out⟩
theorem both_nil (n : Int) : Calls Try.prog 129 #[.pointer none, .int .i64 n] w (RetSec [] w) := both_no (has_nil w n)
set_option maxRecDepth 100000 in
set_option maxHeartbeats 12800000 in
theorem both_any (h : (ML C G g).At w s F) (n : Int) : Calls Try.prog 129 #[.pointer (some ⟨g, 0, none⟩), .int .i64 n] w (RetSec (bothL G s n) w) := by
  cases hh : has s n with
  | false =>
    rw [bothL, hh, if_neg (by simp)]
    have := has_any h n
    rw [hh] at this
    exact both_no this
  | true =>
    obtain ⟨z, hz0⟩ : ∃ z : List UInt8, z = zeroS := ⟨_, rfl⟩
    have hz : ∀ W, (zeroValue 38).run Try.prog W = .ok (.agg (bva z)) W := fun _ => by rw [hz0]; kernel_rfl
    have HZ3 := Lib.hid (show z.length = 128 by rw [hz0]; exact zeroS_length)
    have hcc := has_any h n
    rw [hh] at hcc
    have HC := Lib.hid hcc
    have H := Lib.hid h
    rw [bothL, hh, if_pos rfl]
    clear hz0 hcc hh h
    go_enter Try.func129, Try.ntmps129
    go_wp2_with fail
    refine HC.out.mono ?_
    rintro e w1 ⟨rfl, bw⟩
    have B1 := Lib.hid bw
    clear bw HC
    go_wp2_with fail
    go_loopw [4, 12] (fun l x wr => ∃ (p : Nat) (A : Option Addr) (k c : Nat), p ≤ 2 ∧ x = .int .i64 p ∧ l = .slice A k c ∧ (bothTo C G s.d n p).length = k ∧ wr.ownsRow w.heap.size 38 128 (.slice A k c) k (svs (bothTo C G s.d n p)) ∧ Below w.heap.size w wr) (fun _ x _ => 2 - (intOf x).toNat)
    case atStart => exact ⟨0, none, 0, 0, by omega, rfl, rfl, rfl, World.ownsRow_nil _ _ _ _, B1.out⟩
    case round =>
      clear B1
      obtain ⟨p, A, k, c, hp, rfl, rfl, hk, ho, hb⟩ := hrel
      have HP := Lib.hid hp
      have HK := Lib.hid hk
      have O := Lib.hid ho
      have B := Lib.hid hb
      clear hp hk ho hb
      by_cases hlt : p < 2
      · have HPL := Lib.hid hlt
        have HR := Lib.hid (reads_any ((ML C G g).below H.out B.out) hlt n)
        have HS := Lib.hid (show bothTo C G s.d n (p + 1) = bothTo C G s.d n p ++ if rdOk C G s.d p n then [rdVal C G s.d p n] else [] by rw [bothTo, rdVal]; split <;> rfl)
        obtain ⟨y, hy⟩ : ∃ y, y = rdVal C G s.d p n := ⟨_, rfl⟩
        have HY3 := Lib.hid (show y.length = 128 by rw [hy, rdVal]; split; exact (ml_dev H.out).elim (fun F1 h => C.rd_len h.1 hlt); exact zeroS_length)
        have HIY : Hid ((Try.prog.info? 38).map (·.size) = some (bva y).size) := by rw [bva_size, HY3.out]; exact info_sec
        obtain ⟨o, ho⟩ : ∃ o, o = rdOk C G s.d p n := ⟨_, rfl⟩
        have HF := Lib.hid (bothTo_few (G := G) s.d n p)
        rw [← hy, ← ho] at HR HS
        have p0 : (0 : Int) ≤ (p : Int) := by omega
        have p1 : (p : Int) < 2 := by omega
        clear hy ho hlt
        go_wp2_with fail
        refine HR.out.mono ?_
        rintro e w2 ⟨rfl, bw⟩
        have O2 := Lib.hid (own_belowN O.out bw)
        have B2 := Lib.hid (B.out.trans (bw.mono B.out.size))
        clear bw O B HR
        go_wp2_with (show wpList _ _ _ ({ dst := none, op := .store 38 (.tmp 6) (.tmp 20), type := _, pos := _, after := _, guard := _ } :: _) _ _; apply Classical.byContradiction; intro hneg)
        refine hneg ?_
        clear hneg
        refine wpList_store_row rfl 38 (.tmp 6) (.tmp 20) rfl w2.heap.size (bva y) rfl rfl 38 (bva z) (heap_alloc_new _ _) HIY.out (by rw [bva_size, bva_size, HY3.out, HZ3.out]) (bva_one _) ?_
        obtain ⟨w3, hw3⟩ : ∃ w3, w3 = (w2.alloc (.cells (bva z) 38)).setRow w2.heap.size (bva y) := ⟨_, rfl⟩
        have hbw3 : Below w2.heap.size w2 w3 := by rw [hw3]; exact below_setRow ((Below.refl _ _).alloc (Nat.le_refl _) _) (Nat.le_refl _) _
        have BXw3 := Lib.hid (show Blk w3 w2.heap.size (bva y) 38 from by rw [hw3]; exact setRow_heap _ _ _ _ _ _ (heap_alloc_new _ _))
        rw [← hw3]
        clear hw3
        have O3 := Lib.hid (own_belowN O2.out hbw3)
        have B3 := Lib.hid (B2.out.trans (hbw3.mono B2.out.size))
        clear hbw3 O2 B2
        cases o
        · have HE := Lib.hid (show bothTo C G s.d n (p + 1) = bothTo C G s.d n p by rw [HS.out, if_neg (by simp), List.append_nil])
          go_wp2_with fail
          go_roundw
          case rel => exact ⟨p + 1, A, k, c, HPL.out, by go_num, rfl, by rw [HE.out]; exact HK.out, by rw [HE.out]; exact O3.out, B3.out⟩
          case measure => (have := HPL.out; simp [intOf]; omega)
        · have HE := Lib.hid (show bothTo C G s.d n (p + 1) = bothTo C G s.d n p ++ [y] by rw [HS.out, if_pos rfl])
          obtain ⟨L, hL⟩ : ∃ L, L = bothTo C G s.d n p := ⟨_, rfl⟩
          rw [← hL] at HE HK O3 HF
          have BA := Lib.hid (show Below w3.heap.size w3 (w3.alloc (.cells (bva y) 38)) from (Below.refl _ _).alloc (Nat.le_refl _) _)
          have RA := Lib.hid (show Rd (w3.alloc (.cells (bva y) 38)).heap.size (w3.alloc (.cells (bva y) 38)) (some ⟨w3.heap.size, 0, none⟩) (bv y) from by
            have hb5 : Blk (w3.alloc (.cells (bva y) 38)) w3.heap.size (bva y) 38 := heap_alloc_new _ _
            intro j v hv
            exact ⟨_, rfl, hb5.lt, by rw [Addr.add_mid, hb5.cell, Nat.zero_add]; simpa [bva] using hv⟩)
          clear hL HS
          go_wp2_with (show wpList _ _ _ ({ dst := some 24, op := .load 38 (.tmp 6), type := _, pos := _, after := _, guard := _ } :: _) _ _; apply Classical.byContradiction; intro hneg)
          refine hneg ?_
          clear hneg
          refine wpList_load_row rfl 38 (.tmp 6) rfl w2.heap.size rfl 38 (bva y) (0, 0) _ BXw3.out Try.underlying38 rfl HIY.out ?_
          go_wp2_with (show wpList _ _ _ ({ dst := some 25, op := .buildSlice 43 1 #[(0, .tmp 24)], type := _, pos := _, after := _, guard := _ } :: _) _ _; apply Classical.byContradiction; intro hneg)
          refine hneg ?_
          clear hneg
          refine wpList_execg8 (v := .slice (some ⟨w3.heap.size, 0, none⟩) 1 1) (w' := w3.alloc (.cells (bva y) 38)) rfl (exec_buildSlice 43 1 #[(0, .tmp 24)] rfl ?hbld) ?_
          case hbld =>
            simp only [List.map_toArray, List.map_cons, List.map_nil]
            exact run_oneN secsElt _ (.agg (bva y)) (by show (bva y).size = 128; rw [bva_size, HY3.out]) (by omega)
          go_wp2_with (at_builtin; apply Classical.byContradiction; intro hneg)
          refine hneg ?_
          clear hneg
          refine wpList_appN _ rfl (.tmp 23) (.tmp 25) 43 rfl secsElt (base := w.heap.size) (v := .slice A k c) (n := k) (xs := svs L) rfl (own_belowN O3.out BA.out) (m := 1) rfl RA.out (by rw [bv_length, HY3.out]) (bv_one _) (by have := HF.out; have := HK.out; omega) (Nat.le_trans B3.out.size BA.out.size) ?_
          intro A6 c6 w6 ho6 hg6 hl6
          have B6 := Lib.hid (app_belowN (B3.out.trans (BA.out.mono B3.out.size)) (own_belowN O3.out BA.out) hg6 (Nat.le_refl _) (Nat.le_trans B3.out.size BA.out.size))
          have O6 := Lib.hid (show World.ownsRow w6 w.heap.size 38 128 (.slice A6 (k + 1) c6) (k + 1) (svs (L ++ [y])) from by rw [svs_append, svs, svs, List.append_nil]; exact ho6)
          clear ho6 hg6 hl6 BXw3 O3 B3 BA RA
          go_wp2_with fail
          go_roundw
          case rel => exact ⟨p + 1, A6, k + 1, c6, HPL.out, by go_num, rfl, by rw [HE.out, List.length_append, HK.out]; rfl, by rw [HE.out]; exact O6.out, B6.out⟩
          case measure => (have := HPL.out; simp [intOf]; omega)
      · obtain rfl : p = 2 := by have := HP.out; omega
        clear hlt
        go_wp2_with fail
        go_ret
        exact ⟨A, k, c, rfl, HK.out, O.out, B.out⟩
end
end Go.Proofs.Ytnplhagfmfggcaa.Mi
/-
  The contract of slices.Repeat of one bool.
-/
namespace Go.Proofs.Ytnplhagfmfggcaa.Mi
open Go.RowKit Kd
attribute [local go_sem ↓] Go.wp_at_zero Go.wp_at_succ
theorem mask_small (a : Nat) (ha : a < 4294967296) : bits .and .u64 (a : Int) 4294967295 = (a : Int) := by
  have h := bits_and_u64_nat a 4294967295 (by omega) (by omega)
  rw [show a &&& 4294967295 = a % 4294967296 from Nat.and_two_pow_sub_one_eq_mod a 32, Nat.mod_eq_of_lt ha] at h
  exact h
theorem mul_one (w : World) (N : Nat) (hN : N ≤ 4096) : Calls Try.prog 137 #[.int .u64 1, .int .u64 N] w (Ret0 (.tuple #[.int .u64 0, .int .u64 N]) w) := by
  have a1 : bits .and .u64 1 4294967295 = 1 := by decide
  have a0 : bits .and .u64 0 4294967295 = 0 := by decide
  have aN : bits .and .u64 (N : Int) 4294967295 = N := mask_small N (by omega)
  have dN : (N : Int) / 4294967296 = 0 := by omega
  have wN : IntKind.u64.wrap (N : Int) = N := IntWalk.u64_in _ (by omega)
  have w0 : IntKind.u64.wrap 0 = 0 := by decide
  clear hN
  go_enter Try.func137, Try.ntmps137
  go_wp2_with fail
  exact bodyPost_ret (results_tmp2 Try.results137 _ _ _) rfl ⟨by rfl, rfl⟩
theorem mul_u (w : World) (N : Nat) (hN : N ≤ 4096) : Calls Try.prog 131 #[.int .u64 1, .int .u64 N] w (Ret0 (.tuple #[.int .u64 0, .int .u64 N]) w) := by
  have HN := Lib.hid hN
  clear hN
  go_enter Try.func131, Try.ntmps131
  go_wp2_with fail
  refine (mul_one _ N HN.out).mono ?_
  rintro e _ ⟨rfl, rfl⟩
  go_wp2_with fail
  exact bodyPost_ret (results_tmp2 Try.results131 _ _ _) rfl ⟨rfl, rfl⟩
theorem info_boolW : (Try.prog.info? 4).map (fun i => (i.zero, i.size, i.bytes)) = some (some (.bool false), 1, 1) := by kernel_rfl
theorem info_bool : (Try.prog.info? 4).map (·.size) = some 1 := by kernel_rfl
/-- A row whose first n cells are b. -/
structure Fst (w0 w : World) (g N n : Nat) (b : Bool) : Prop where
  cells : ∃ cur : Array Value, w.heap[g]? = some (.cells cur 4 (0, 0)) ∧ cur.size = N ∧ ∀ i, i < n → cur[i]? = some (.bool b)
  le : n ≤ N
  bel : Below w0.heap.size w0 w
theorem splice_get {α : Type} (L : List α) (o : Nat) (cs : List α) (h : o + cs.length ≤ L.length) (i : Nat) : (splice L o cs)[i]? = if i < o then L[i]? else if i < o + cs.length then cs[i - o]? else L[i]? := by
  unfold splice
  have ht : (L.take o).length = o := by rw [List.length_take]; omega
  by_cases h1 : i < o
  · rw [if_pos h1, List.getElem?_append_left (by omega), List.getElem?_take, if_pos h1]
  · rw [if_neg h1, List.getElem?_append_right (by omega), ht]
    by_cases h2 : i < o + cs.length
    · rw [if_pos h2, List.getElem?_append_left (by omega)]
    · rw [if_neg h2, List.getElem?_append_right (by omega), List.getElem?_drop]
      congr 1; omega
/-- A copy of the first cells behind them. -/
theorem Fst.copy {w0 w : World} {g N n : Nat} {b : Bool} (h : Fst w0 w g N n b) (hg : w0.heap.size ≤ g) (m : Nat) (hm : m = Nat.min n (N - n)) (k1 k2 : Nat) :
    ∃ w', (Builtin.copy_ #[191, 191] 3 #[.slice (some ⟨g, n, none⟩) (N - n) k1, .slice (some ⟨g, 0, none⟩) n k2]).run Try.prog w = .ok (goInt m) w' ∧ Fst w0 w' g N (n + m) b := by
  obtain ⟨cur, hc, hs, hb⟩ := h.cells
  have hle := h.le
  have hmn : m ≤ n ∧ m ≤ N - n := by rw [hm]; exact ⟨Nat.min_le_left _ _, Nat.min_le_right _ _⟩
  have hr := run_copyN (P := Try.prog) w 191 191 3 4 1 Try.underlying191 info_bool g n (N - n) k1 ⟨g, 0, none⟩ n k2 cur 4 (List.replicate m (.bool b)) hc
    (by rw [List.length_replicate, Nat.mul_one, hm]) (fun j v hv => by
      have hj : j < m := by have := (List.getElem?_eq_some_iff.1 hv).1; rwa [List.length_replicate] at this
      rw [List.getElem?_replicate, if_pos hj] at hv
      rw [Addr.add_mid, Nat.zero_add, ← hv, ← hb j (by omega)]
      exact Blk.cell (show Blk w g cur 4 from hc) j) (by rw [List.length_replicate]; omega) (fun v hv => by rw [List.eq_of_mem_replicate hv]; rfl)
  rw [← hm] at hr
  refine ⟨_, hr, ⟨⟨_, setRow_heap _ _ _ _ _ _ hc, ?_, fun i hi => ?_⟩, by omega, below_setRow h.bel hg _⟩⟩
  · rw [List.size_toArray, length_splice _ _ _ (by rw [List.length_replicate, Array.length_toList]; omega), Array.length_toList]; exact hs
  · rw [List.getElem?_toArray, splice_get _ _ _ (by rw [List.length_replicate, Array.length_toList]; omega), List.length_replicate]
    split
    · rw [Array.getElem?_toList]; exact hb i (by omega)
    · rw [List.getElem?_replicate, if_pos (by omega)]
theorem Fst.row {w0 w : World} {g N : Nat} {b : Bool} (h : Fst w0 w g N N b) (hg : w0.heap.size ≤ g) (hN : N ≤ maxLen) : w.ownsRow w0.heap.size 4 1 (.slice (some ⟨g, 0, none⟩) N N) N (bs (List.replicate N b)) := by
  obtain ⟨cur, hc, hs, hb⟩ := h.cells
  refine ⟨by rw [bs_length, List.length_replicate, Nat.mul_one], .inr ⟨g, N, cur, rfl, hg, hc, Nat.le_refl _, hN, by rw [hs, Nat.mul_one], ?_⟩⟩
  apply List.ext_getElem?
  intro i
  rw [List.getElem?_take, Nat.mul_one, bs, List.getElem?_map, List.getElem?_replicate]
  split
  · rw [Array.getElem?_toList, hb i (by assumption)]; rfl
  · rfl
set_option maxRecDepth 100000 in
set_option maxHeartbeats 6400000 in
theorem repeat_any {w : World} {a : Addr} {b : Bool} {c : Nat} (hb : w.cell? a = some (.bool b)) (N : Nat) (hN : N ≤ 4096) :
    Calls Try.prog 115 #[.slice (some a) 1 c, .int .i64 N] w (fun e w' => ∃ g, e = .returned (.slice (some ⟨g, 0, none⟩) N N) ∧ w'.ownsRow w.heap.size 4 1 (.slice (some ⟨g, 0, none⟩) N N) N (bs (List.replicate N b)) ∧ Below w.heap.size w w') := by
  have HN := Lib.hid hN
  have HB := Lib.hid hb
  obtain ⟨i0, hi, hz0, hz1, hz2⟩ := info_parts info_boolW
  have n0 : (0 : Int) ≤ (N : Int) := by omega
  have n1 : (N : Int) ≤ 4096 := by omega
  have wu : IntKind.u64.wrap (N : Int) = N := IntWalk.u64_in _ (by omega)
  have wi : IntKind.i64.wrap (N : Int) = N := IntWalk.i64_in _ (by omega)
  have w1 : IntKind.u64.wrap 1 = 1 := by decide
  clear hN
  go_enter Try.func115, Try.ntmps115
  go_wp2_with fail
  refine (mul_u _ N HN.out).mono ?_
  rintro e _ ⟨rfl, rfl⟩
  go_wp2_with (at_make; apply Classical.byContradiction; intro hneg)
  refine hneg ?_
  clear hneg
  refine wpList_make_full _ rfl _ _ _ rfl w.heap.size 4 i0 _ 1 Try.underlying191 hi hz0 hz1 .i64 .i64 _ _ N rfl rfl rfl rfl (by rw [hz2]; have := HN.out; omega) (by have := HN.out; unfold maxLen; omega) (Nat.le_refl _) ?_
  intro w1 hown hg
  have HO1 := Lib.hid hown
  have HG1 := Lib.hid (below_of_grown8 hg)
  have HMC := Lib.hid hg
  clear hown hg
  obtain ⟨g, hge⟩ : ∃ g, g = w.heap.size := ⟨_, rfl⟩
  rw [← hge]
  rw [← hge] at HO1
  have HGE := Lib.hid (show w.heap.size ≤ g by omega)
  have F0 := Lib.hid (show Fst w w1 g N 0 b from by
    rcases HO1.out.2 with ⟨h0, _⟩ | ⟨g', cap, cur, h0, _, h2, _, _, h5, _⟩
    · cases h0
    · injection h0 with h0 _ h7
      injection h0 with h0
      injection h0 with h0
      subst h0 h7
      exact ⟨⟨cur, h2, by rw [h5, Nat.mul_one], fun i hi => absurd hi (Nat.not_lt_zero _)⟩, Nat.zero_le _, HG1.out⟩)
  have hab : a.block < w.heap.size := block_lt_of_cell HB.out
  have HB1 := Lib.hid (show w1.cell? a = some (.bool b) from by rw [HG1.out.cell hab]; exact HB.out)
  clear hge HO1 hab
  have HCP := Lib.hid (show ∃ w2, (Builtin.copy_ #[191, 191] 3 #[.slice (some ⟨g, 0, none⟩) N N, .slice (some a) 1 c]).run Try.prog w1 = .ok (goInt (Nat.min 1 N)) w2 ∧ Fst w w2 g N (Nat.min 1 N) b from by
    obtain ⟨cur, hc, hs, _⟩ := F0.out.cells
    have hm1 : Nat.min 1 N ≤ 1 ∧ Nat.min 1 N ≤ N := ⟨Nat.min_le_left _ _, Nat.min_le_right _ _⟩
    have hr := run_copyN (P := Try.prog) w1 191 191 3 4 1 Try.underlying191 info_bool g 0 N N a 1 c cur 4 (List.replicate (Nat.min 1 N) (.bool b)) hc
      (by rw [List.length_replicate, Nat.mul_one]) (fun j v hv => by
        have hj : j < Nat.min 1 N := by have := (List.getElem?_eq_some_iff.1 hv).1; rwa [List.length_replicate] at this
        rw [List.getElem?_replicate, if_pos hj] at hv
        obtain rfl : j = 0 := by omega
        rw [show a.add 0 = a by rw [add_zero], ← hv]
        exact HB1.out) (by rw [List.length_replicate]; omega) (fun v hv => by rw [List.eq_of_mem_replicate hv]; rfl)
    refine ⟨_, hr, ⟨⟨_, setRow_heap _ _ _ _ _ _ hc, ?_, fun i hi => ?_⟩, hm1.2, below_setRow F0.out.bel HGE.out _⟩⟩
    · rw [List.size_toArray, length_splice _ _ _ (by rw [List.length_replicate, Array.length_toList]; omega), Array.length_toList]; exact hs
    · rw [List.getElem?_toArray, splice_get _ _ _ (by rw [List.length_replicate, Array.length_toList]; omega), List.length_replicate, if_neg (Nat.not_lt_zero _), if_pos (by omega), List.getElem?_replicate, if_pos (by omega)])
  obtain ⟨m0, hm0⟩ : ∃ m0, m0 = Nat.min 1 N := ⟨_, rfl⟩
  rw [← hm0] at HCP
  have HM0 := Lib.hid hm0
  obtain ⟨w2, hcp, hf2⟩ := HCP.out
  have F2 := Lib.hid hf2
  have hcq : (Builtin.copy_ #[191, 191] 3 #[.slice (some ⟨g, 0, none⟩) N N, .slice (some a) 1 c]).run Try.prog w1 = .ok (.int .i64 m0) w2 := hcp
  clear hm0 hcp hf2 HCP F0 HMC HG1 HB1
  go_wp2_with fail
  go_loopw [8] (fun x wr => ∃ n : Nat, x = .int .i64 n ∧ Fst w wr g N n b ∧ (n = 0 → N = 0)) (fun x _ => N - (intOf x).toNat)
  case atStart => exact ⟨m0, rfl, F2.out, fun h => by have h1 := HM0.out; rw [h] at h1; have : Nat.min 1 N = min 1 N := rfl; omega⟩
  case round =>
    clear F2 HM0 hcq
    obtain ⟨n, rfl, hf, hnz⟩ := hrel
    have FF := Lib.hid hf
    have HNZ := Lib.hid hnz
    clear hf hnz
    by_cases hlt : n < N
    · have HLT := Lib.hid hlt
      have m0 : (0 : Int) ≤ (n : Int) := by omega
      have m1 : (n : Int) < (N : Int) := by omega
      have m2 : (n : Int) ≤ (N : Int) := by omega
      have m3 : ¬ N = n := by omega
      have e1 : (N : Int) - (n : Int) = ((N - n : Nat) : Int) := by omega
      obtain ⟨k, hk⟩ : ∃ k, k = Nat.min n (N - n) := ⟨_, rfl⟩
      have HK := Lib.hid hk
      have HKB := Lib.hid (show k ≤ n ∧ k ≤ N - n by rw [hk]; exact ⟨Nat.min_le_left _ _, Nat.min_le_right _ _⟩)
      have HK0 := Lib.hid (show 0 < k by
        have h1 : n ≠ 0 := fun h => by have := HNZ.out h; omega
        have : Nat.min n (N - n) = min n (N - n) := rfl
        omega)
      have wk : IntKind.i64.wrap ((n : Int) + (k : Int)) = ((n + k : Nat) : Int) := by rw [show (n : Int) + (k : Int) = ((n + k : Nat) : Int) by omega]; exact IntWalk.i64_in _ (by have := HKB.out; have := HN.out; omega)
      have HCP := Lib.hid (show ∀ W, W = wr.drew → ∃ w', (Builtin.copy_ #[191, 191] 3 #[.slice (some ⟨g, n, none⟩) (N - n) (N - n), .slice (some ⟨g, 0, none⟩) n N]).run Try.prog W = .ok (goInt k) w' ∧ Fst w w' g N (n + k) b from fun W hW => by
        subst hW
        have hf : Fst w wr.drew g N n b := ⟨FF.out.cells, FF.out.le, FF.out.bel.drew⟩
        exact hf.copy HGE.out k HK.out _ _)
      clear hlt hk
      go_wp2_with fail
      refine wp_region_held_drew (S := fun _ => True) (by kernel_rfl) trivial (fun hh => ?_)
      have HH := Lib.hid hh
      clear hh
      refine wpAnyH_take (i := 0) (v := ?vR0) rfl (by kernel_rfl) (by kernel_rfl) (by kernel_rfl) (fun _ _ _ h => h) (Or.inl ⟨by rfl, fun w' _ => ?yR0⟩) HH.out ?_
      case yR0 => (go_simp; try with_reducible rfl)
      refine wpAnyH_take (i := 1) (v := ?vR1) rfl (by kernel_rfl) (by kernel_rfl) (by kernel_rfl) (fun _ _ _ h => h) (Or.inl ⟨by rfl, fun w' _ => ?yR1⟩) HH.out ?_
      case yR1 => (go_simp; try with_reducible rfl)
      try simp only [List.getElem_toArray, List.getElem_cons_succ, List.getElem_cons_zero, Act.put, List.setIfInBounds_toArray, List.set_cons_zero, List.set_cons_succ]
      refine wpAnyH_take (i := 2) (v := ?vR2) rfl (by kernel_rfl) (by kernel_rfl) (by kernel_rfl) (fun _ _ _ h => h) (Or.inl ⟨by rfl, fun w' _ => ?yR2⟩) HH.out ?_
      case yR2 => (go_simp; try with_reducible rfl)
      refine wpAnyH_take (i := 3) (v := ?vR3) rfl (by kernel_rfl) (by kernel_rfl) (by kernel_rfl) (fun _ _ _ h => h) (Or.inl ⟨by rfl, fun w' _ => ?yR3⟩) HH.out ?_
      case yR3 => (go_simp; try with_reducible rfl)
      refine wpAnyH_take (i := 4) (v := ?vR4) rfl (by kernel_rfl) (by kernel_rfl) (by kernel_rfl) (fun _ _ _ h => h) (Or.inl ⟨by rfl, fun w' _ => ?yR4⟩) HH.out ?_
      case yR4 => (go_simp; try with_reducible rfl)
      try simp only [List.getElem_toArray, List.getElem_cons_succ, List.getElem_cons_zero, Act.put, List.setIfInBounds_toArray, List.set_cons_zero, List.set_cons_succ]
      refine wpAnyH_take (i := 5) (v := ?vR5) rfl (by kernel_rfl) (by kernel_rfl) (by kernel_rfl) (fun _ _ _ h => h) (Or.inl ⟨by rfl, fun w' _ => ?yR5⟩) HH.out ?_
      case yR5 => (go_simp; try with_reducible rfl)
      refine wpAnyH_take (i := 6) (v := ?vR6) rfl (by kernel_rfl) (by kernel_rfl) (by kernel_rfl) (fun _ _ _ h => h) (Or.inl ⟨by rfl, fun w' _ => ?yR6⟩) HH.out ?_
      case yR6 => (go_simp; try with_reducible rfl)
      try simp only [List.getElem_toArray, List.getElem_cons_succ, List.getElem_cons_zero, Act.put, List.setIfInBounds_toArray, List.set_cons_zero, List.set_cons_succ]
      refine wpAnyH_ready (rs := [7]) (by kernel_rfl) (by simp) (AllReadyH.cons rfl (fun K hK => ?_) AllReadyH.nil)
      obtain ⟨w3, hcp, hf3⟩ := HCP.out _ rfl
      have F3 := Lib.hid hf3
      have HC3 := Lib.hid hcp
      clear hcp hf3 HCP
      refine step_copyR (by rfl) (.tmp 41) (.tmp 44) 191 191 rfl _ _ rfl rfl HC3.out ?_
      refine hK.out _ _ trivial (fun hh => ?_)
      have HH' := Lib.hid hh
      clear hh hK K HH FF HC3
      have HH := Lib.hid HH'.out
      clear HH'
      refine wpAnyH_take (i := 8) (v := ?vR8) rfl (by kernel_rfl) (by kernel_rfl) (by kernel_rfl) (fun _ _ _ h => h) (Or.inl ⟨by rfl, fun w' _ => ?yR8⟩) HH.out ?_
      case yR8 => (go_simp; try with_reducible rfl)
      refine wpAnyH_take (i := 9) (v := ?vR9) rfl (by kernel_rfl) (by kernel_rfl) (by kernel_rfl) (fun _ _ _ h => h) (Or.inl ⟨by rfl, fun w' _ => ?yR9⟩) HH.out ?_
      case yR9 => (go_simp; try with_reducible rfl)
      try simp only [List.getElem_toArray, List.getElem_cons_succ, List.getElem_cons_zero, Act.put, List.setIfInBounds_toArray, List.set_cons_zero, List.set_cons_succ]
      refine wpAnyH_done (by kernel_rfl) ?_ _
      go_wp2_with fail
      go_roundw
      case rel => exact ⟨n + k, by go_num, F3.out, fun h => by have := HK0.out; omega⟩
      case measure => (have := HLT.out; have := HK0.out; simp [intOf]; omega)
    · obtain rfl : n = N := by have := FF.out.le; omega
      clear hlt
      go_wp2_with fail
      go_ret
      exact ⟨g, rfl, FF.out.row HGE.out (by have := HN.out; unfold maxLen; omega), FF.out.bel⟩
end Go.Proofs.Ytnplhagfmfggcaa.Mi
