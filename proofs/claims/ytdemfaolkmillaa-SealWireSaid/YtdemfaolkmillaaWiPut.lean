/-
  The contract of wire's Put, in a namespace of its own: a number in so many bytes, the highest first, in new memory.
-/
import Derived.Test.YtdemfaolkmillaaRows
import Derived.Test.YtdemfaolkmillaaWords
import Derived.Deep.QuietTactic
import Derived.BigQuiet
namespace Go.Proofs.Ytdemfaolkmillaa.Wi
open Go.RowKit

theorem info_byte : (Try.prog.info? 5).map (fun i => (i.zero, i.size, i.bytes)) = some (some (.int .u8 0), 1, 1) := by kernel_rfl

/-- n in size bytes, the highest first. -/
def putL (n size : Nat) : List UInt8 := (List.range size).map fun i => UInt8.ofNat (n / 2 ^ (8 * (size - 1 - i)) % 256)

theorem putL_length (n s : Nat) : (putL n s).length = s := by simp [putL]
theorem putL_get {n s k : Nat} (h : k < s) : (putL n s)[k]? = some (UInt8.ofNat (n / 2 ^ (8 * (s - 1 - k)) % 256)) := by
  simp [putL, h]
theorem bv_replicate (n : Nat) : bv (List.replicate n 0) = List.replicate n (.int .u8 0) := by simp [bv]
theorem put_made (n s : Nat) : (madeCells (Value.int IntKind.u8 0).cells (s * 1)).toList = bv ((putL n s).take 0 ++ List.replicate (s - 0) 0) := by
  have e : (Value.int IntKind.u8 0).cells = #[Value.int IntKind.u8 0] := rfl
  rw [e, toList_madeCells_one, List.take_zero, List.nil_append, bv_replicate]
  simp
theorem ofNat_byte (x : Nat) : ((UInt8.ofNat (x % 256)).toNat : Int) = ((x % 256 : Nat) : Int) := by simp
theorem put_set {n s k : Nat} (h : k < s) : (bv ((putL n s).take k ++ List.replicate (s - k) 0)).set k (.int .u8 ((n : Int) / 2 ^ (8 * (s - 1 - k)) % 256)) = bv ((putL n s).take (k + 1) ++ List.replicate (s - (k + 1)) 0) := by
  have hl : ((putL n s).take k).length = k := by simp [putL_length]; omega
  have e1 : List.replicate (s - k) (0 : UInt8) = 0 :: List.replicate (s - (k + 1)) 0 := by
    rw [← List.replicate_succ]; congr 1; omega
  have e2 : (putL n s).take (k + 1) = (putL n s).take k ++ [UInt8.ofNat (n / 2 ^ (8 * (s - 1 - k)) % 256)] := by
    rw [List.take_add_one, putL_get h]; rfl
  have e3 : (Value.int .u8 ((n : Int) / 2 ^ (8 * (s - 1 - k)) % 256)) = .int .u8 ((UInt8.ofNat (n / 2 ^ (8 * (s - 1 - k)) % 256)).toNat : Int) := by
    rw [ofNat_byte, Int.natCast_emod, Int.natCast_ediv, Int.natCast_pow]; rfl
  rw [e1, e2, e3, bv_append, List.set_append_right _ _ (by rw [bv_length]; omega), bv_length, hl, Nat.sub_self]
  simp [bv]
theorem put_cell {n s k : Nat} (h : k < s) : ∃ v, (bv ((putL n s).take k ++ List.replicate (s - k) 0))[k]? = some v := by
  have hl : k < ((putL n s).take k ++ List.replicate (s - k) (0 : UInt8)).length := by simp [putL_length]; omega
  exact ⟨_, bv_get hl⟩
theorem put_done (n s : Nat) : bv ((putL n s).take s ++ List.replicate (s - s) 0) = bv (putL n s) := by
  rw [List.take_of_length_le (by rw [putL_length]; exact Nat.le_refl _)]; simp

set_option maxHeartbeats 400000 in
theorem wput_in (n size : Int) (w : World) (h0 : 0 ≤ n) (h1 : n < 18446744073709551616) (hs0 : 1 ≤ size) (hs8 : size ≤ 8) :
    Calls Try.prog 44 #[.int .u64 n, .int .i64 size] w (RetRow 5 (bv (putL n.toNat size.toNat)) w) := by
  obtain ⟨s, rfl⟩ := Int.eq_ofNat_of_zero_le (by omega : 0 ≤ size)
  obtain ⟨N, rfl⟩ := Int.eq_ofNat_of_zero_le h0
  obtain ⟨i0, hi, hz0, hz1, hz2⟩ := info_parts info_byte
  rw [Int.toNat_natCast, Int.toNat_natCast]
  clear h1
  go_enter Try.func44, Try.ntmps44
  go_wp2_with (at_make; refine wpList_make_full _ rfl _ _ _ rfl w.heap.size 5 i0 _ 1 Try.underlying28 hi hz0 hz1 .i64 .i64 _ _ s rfl rfl rfl rfl ?_ ?_ ?_ ?_; (rw [hz2]; omega); (unfold maxLen; omega); (exact Nat.le_refl _); intro w1 hown hg)
  go_loopw [6, 17] (fun u i wr => ∃ k : Nat, k ≤ s ∧ i = .int .i64 k ∧ Below w.heap.size w wr ∧ wr.ownsRow w.heap.size 5 1 (.slice (some ⟨w.heap.size, 0, none⟩) s s) s (bv ((putL N s).take k ++ List.replicate (s - k) 0))) (fun _ i _ => s - (intOf i).toNat)
  case atStart => exact ⟨0, Nat.zero_le _, rfl, (Below.refl _ _).grown hg (Nat.le_refl _) (fun _ h => by cases h), by rw [← put_made]; exact hown⟩
  case round =>
    obtain ⟨k, hk, rfl, hb, how⟩ := hrel
    by_cases hlt : k < s
    · have hc := how.cellAt k (by omega)
      have hf := how.frozenAt k
      obtain ⟨v, hv⟩ := put_cell (n := N) hlt
      rw [hv] at hc
      have HS := Lib.hid (how.stored k (.int .u8 ((N : Int) / 2 ^ (8 * (s - 1 - k)) % 256))).1
      clear hv
      go_wp2
      go_roundw
      case rel => exact ⟨k + 1, by omega, by go_num, hb.setCell (Nat.le_refl _) _, by rw [← put_set hlt]; exact HS.out⟩
      case measure => simp [intOf]; omega
    · obtain rfl : k = s := by omega
      rw [put_done] at how
      go_wp2
      go_ret
      exact RetRow.mk rfl how hb

set_option maxHeartbeats 400000 in
theorem wput_out (n size : Int) (w : World) (hs : size < 1 ∨ 8 < size) :
    Calls Try.prog 44 #[.int .u64 n, .int .i64 size] w fun e w' => e = .returned (.slice none 0 0) ∧ w = w' := by
  rcases hs with hs | hs
  · go_enter Try.func44, Try.ntmps44
    go_wp2
    go_ret
    exact ⟨rfl, rfl⟩
  · have hs' : ¬ size < 1 := by omega
    go_enter Try.func44, Try.ntmps44
    go_wp2
    go_ret
    exact ⟨rfl, rfl⟩

theorem bytesElt : Elt Try.prog 28 5 (.int .u8 0) 1 := ⟨Try.underlying28, by kernel_rfl, rfl, by omega⟩

/-- n told, whatever the size. -/
def putI (n size : Int) : List UInt8 := if 1 ≤ size ∧ size ≤ 8 then putL n.toNat size.toNat else []

set_option maxHeartbeats 400000 in
theorem wput_any (n size : Int) (w : World) (h0 : 0 ≤ n) (h1 : n < 18446744073709551616) :
    Calls Try.prog 44 #[.int .u64 n, .int .i64 size] w (RetRow 5 (bv (putI n size)) w) := by
  by_cases h : 1 ≤ size ∧ size ≤ 8
  · rw [putI, if_pos h]
    exact wput_in n size w h0 h1 h.1 h.2
  · rw [putI, if_neg h]
    refine (wput_out n size w (by omega)).mono ?_
    rintro e w' ⟨rfl, rfl⟩
    exact RetRow.mk rfl (World.ownsRow_nil _ _ _ _) (Below.refl _ _)

end Go.Proofs.Ytdemfaolkmillaa.Wi
