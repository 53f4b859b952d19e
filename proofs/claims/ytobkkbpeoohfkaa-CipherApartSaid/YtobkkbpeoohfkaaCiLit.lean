/-
  The contract of the little cipher's pad: 32 bytes that hang on the key, the number and the place.
-/
import Derived.Test.YtobkkbpeoohfkaaRows
import Derived.Test.YtobkkbpeoohfkaaArr
namespace Go.Proofs.Ytobkkbpeoohfkaa.Ci
open Go.RowKit
/-- A list as far as its first n are laid. -/
def layTo {α : Type} (z : α) (f : Nat → α) (N : Nat) : Nat → List α
  | 0 => List.replicate N z
  | n + 1 => (layTo z f N n).set n (f n)
theorem layTo_length {α : Type} (z : α) (f : Nat → α) (N : Nat) : ∀ n, (layTo z f N n).length = N
  | 0 => by simp [layTo]
  | n + 1 => by rw [layTo, List.length_set, layTo_length z f N n]
theorem layTo_get {α : Type} (z : α) (f : Nat → α) (N : Nat) : ∀ n j, j < n → n ≤ N → (layTo z f N n)[j]? = some (f j)
  | 0, j, h, _ => by omega
  | n + 1, j, h, h' => by
    rw [layTo]
    by_cases e : j = n
    · subst e
      rw [List.getElem?_set_self (by rw [layTo_length]; omega)]
    · rw [List.getElem?_set_ne (fun e' => e e'.symm)]
      exact layTo_get z f N n j (by omega) (by omega)
theorem layTo_all {α : Type} (z : α) (f : Nat → α) (N : Nat) : layTo z f N N = (List.range N).map f := by
  apply List.ext_getElem?
  intro j
  by_cases h : j < N
  · rw [layTo_get z f N N j h (Nat.le_refl _), List.getElem?_map, List.getElem?_range h]; rfl
  · rw [List.getElem?_eq_none (by rw [layTo_length]; omega), List.getElem?_eq_none (by simp; omega)]
/-- A number of 64 bits without a sign. -/
abbrev w64 (z : Int) : Int := IntKind.u64.wrap z
/-- A byte as such a number. -/
def wb (b : UInt8) : Int := w64 (b.toNat : Int)
/-- The little cipher's number behind so many steps. -/
def litX (k : List UInt8) (n : Int) : Nat → Int
  | 0 => w64 (w64 (w64 (wb (k.getD 0 0) + w64 (256 * wb (k.getD 1 0))) + w64 (65536 * wb (k.getD 2 0))) + 7)
  | i + 1 => w64 (w64 (w64 (w64 (litX k n i * 6364136223846793005) + 1442695040888963407) + n) + wb (k.getD i 0))
/-- Its byte. -/
def litB (x : Int) : UInt8 := UInt8.ofNat (x / 2 ^ 56 % 256).toNat
theorem litB_val (x : Int) : x / 2 ^ 56 % 256 = ((litB x).toNat : Int) := by
  rw [litB, UInt8.toNat_ofNat']; omega
/-- The little cipher's pad. -/
def litL (k : List UInt8) (n : Int) : List UInt8 := (List.range 32).map fun i => litB (litX k n (i + 1))
theorem litL_length (k : List UInt8) (n : Int) : (litL k n).length = 32 := by simp [litL]
theorem litL_lay (k : List UInt8) (n : Int) : layTo 0 (fun i => litB (litX k n (i + 1))) 32 32 = litL k n := layTo_all _ _ _
theorem info_key : (Try.prog.info? 23).map (·.size) = some 32 := by kernel_rfl
theorem info_blk : (Try.prog.info? 30).map (·.size) = some 32 := by kernel_rfl
set_option maxHeartbeats 400000 in
theorem litpad_any (key : List UInt8) (hk : key.length = 32) (n : Int) (w : World) :
    Calls Try.prog 20 #[.agg (bva key), .int .u64 n] w (RetB (.agg (bva (litL key n))) w) := by
  obtain ⟨z, hz0⟩ : ∃ z : List UInt8, z = List.replicate 32 0 := ⟨_, rfl⟩
  obtain ⟨b1, b2, b3, hb⟩ := three_blocks w (.cells (bva key) 23) (.cells (bva z) 30) (.cells (bva z) 30)
  have hz : ∀ W, (zeroValue 30).run Try.prog W = .ok (.agg (bva z)) W := fun _ => by rw [hz0]; kernel_rfl
  have Z0 := Lib.hid hz0
  have b1' : Blk _ _ _ _ := b1
  have c0 := b1'.cellb (k := 0) (by omega)
  have c1 := b1'.cellb (k := 1) (by omega)
  have c2 := b1'.cellb (k := 2) (by omega)
  obtain ⟨x0, hx0⟩ : ∃ x, x = key.getD 0 0 := ⟨_, rfl⟩
  obtain ⟨x1, hx1⟩ : ∃ x, x = key.getD 1 0 := ⟨_, rfl⟩
  obtain ⟨x2, hx2⟩ : ∃ x, x = key.getD 2 0 := ⟨_, rfl⟩
  rw [← hx0] at c0
  rw [← hx1] at c1
  rw [← hx2] at c2
  have X0 := Lib.hid hx0
  have X1 := Lib.hid hx1
  have X2 := Lib.hid hx2
  have B1 := Lib.hid b1'
  have B2 := Lib.hid (show Blk _ _ _ _ from b2)
  have B3 := Lib.hid (show Blk _ _ _ _ from b3)
  have BB := Lib.hid hb
  clear hz0 b1' b1 b2 b3 hb hx0 hx1 hx2
  go_enter Try.func20, Try.ntmps20
  go_wp2_with fail
  go_loopw [6, 7] (fun x i wr => ∃ k : Nat, k ≤ 32 ∧ i = .int .i64 k ∧ x = .int .u64 (litX key n k) ∧ Blk wr w.heap.size (bva key) 23 ∧ Blk wr (w.heap.size + 1) (bva z) 30 ∧ Blk wr (w.heap.size + 1 + 1) (bva (layTo 0 (fun i => litB (litX key n (i + 1))) 32 k)) 30 ∧ Below w.heap.size w wr) (fun _ i _ => 32 - (intOf i).toNat)
  case atStart => exact ⟨0, by omega, rfl, by rw [litX, ← X0.out, ← X1.out, ← X2.out]; rfl, B1.out, B2.out, by rw [layTo, ← Z0.out]; exact B3.out, BB.out⟩
  case round =>
    clear c0 c1 c2 hz B1 B2 B3 BB X0 X1 X2
    obtain ⟨k, hk2, rfl, rfl, B1, B2, B3, hbel⟩ := hrel
    by_cases hlt : k < 32
    · have k0 : (0 : Int) ≤ (k : Int) := by omega
      have k1 : (k : Int) < 32 := by omega
      obtain ⟨x, hx⟩ : ∃ x, x = key.getD k 0 := ⟨_, rfl⟩
      have C0 := B1.cellb (k := k) (by omega)
      rw [← hx] at C0
      obtain ⟨y, hy⟩ : ∃ y, y = (layTo 0 (fun i => litB (litX key n (i + 1))) 32 k).getD k 0 := ⟨_, rfl⟩
      have D0 := B3.cellb (k := k) (by rw [layTo_length]; omega)
      rw [← hy] at D0
      have D1 := B3.free k
      obtain ⟨X, hX⟩ : ∃ X, X = litX key n k := ⟨_, rfl⟩
      rw [← hX]
      have HX := Lib.hid hX
      have Hx := Lib.hid hx
      have G1 := Lib.hid B1
      have G2 := Lib.hid B2
      have G3 := Lib.hid B3
      clear hx hy hX B1 B2 B3
      go_wp2
      go_roundw
      case rel =>
        have hX1 : litX key n (k + 1) = IntKind.u64.wrap (IntKind.u64.wrap (IntKind.u64.wrap (IntKind.u64.wrap (X * 6364136223846793005) + 1442695040888963407) + n) + IntKind.u64.wrap ↑x.toNat) := by rw [litX, ← HX.out, ← Hx.out]; rfl
        exact ⟨k + 1, by omega, by go_num, by rw [hX1], by exact G1.out.other (by omega) _ _, by exact G2.out.other (by omega) _ _, by rw [layTo]; exact G3.out.setb k _ (int_eq (by rw [← litB_val, hX1]; rfl)), by exact hbel.setCell (by simp; omega) _⟩
      case measure => simp [intOf]; omega
    · obtain rfl : k = 32 := by omega
      rw [litL_lay] at B3
      have hi : (Try.prog.info? 30).map (·.size) = some (bva (litL key n)).size := by rw [bva_size, litL_length]; exact info_blk
      have Hi := Lib.hid hi
      have G2 := Lib.hid B2
      have G3 := Lib.hid B3
      clear hi B1 B2 B3
      go_wp2_with (first
        | (refine wpList_load_row rfl 30 (.tmp 5) rfl (w.heap.size + 1 + 1) rfl 30 (bva (litL key n)) (0, 0) _ G3.out Try.underlying30 rfl Hi.out ?_)
        | (refine wpList_store_row rfl 30 (.tmp 4) (.tmp 41) rfl (w.heap.size + 1) (bva (litL key n)) rfl rfl 30 (bva z) G2.out Hi.out (by rw [bva_size, bva_size, litL_length, Z0.out]; rfl) (bva_one _) ?_))
      exact bodyPost_ret (v := .agg (bva (litL key n))) (results_cell_row Try.results20 _ _ (w.heap.size + 1) 30 (bva (litL key n)) (0, 0) _ rfl (setRow_heap _ _ _ _ _ _ G2.out) Try.underlying30 rfl Hi.out) rfl ⟨rfl, below_setRow hbel (by omega) _⟩
end Go.Proofs.Ytobkkbpeoohfkaa.Ci
