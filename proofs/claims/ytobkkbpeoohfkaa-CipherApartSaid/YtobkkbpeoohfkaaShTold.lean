/-
  The contract of told: the words behind one another, the highest byte of each first.
-/
import Derived.Test.YtobkkbpeoohfkaaShSpread
namespace Go.Proofs.Ytobkkbpeoohfkaa
open Go.RowKit
/-- A list as far as its first n are laid. -/
def layTo {α : Type} (z : α) (f : Nat → α) (N : Nat) : Nat → List α
  | 0 => List.replicate N z
  | n + 1 => (layTo z f N n).set n (f n)
theorem layTo_length {α : Type} (z : α) (f : Nat → α) (N : Nat) : ∀ n, (layTo z f N n).length = N
  | 0 => by simp [layTo]
  | n + 1 => by rw [layTo, List.length_set, layTo_length z f N n]
theorem layTo_get {α : Type} (z : α) (f : Nat → α) (N : Nat) : ∀ n j, j < n → n ≤ N → (layTo z f N n)[j]? = some (f j)
  | 0, j, h, _ => by omega
  | n + 1, j, h, h' => by
    rw [layTo]
    by_cases e : j = n
    · subst e
      rw [List.getElem?_set_self (by rw [layTo_length]; omega)]
    · rw [List.getElem?_set_ne (fun e' => e e'.symm)]
      exact layTo_get z f N n j (by omega) (by omega)
theorem layTo_all {α : Type} (z : α) (f : Nat → α) (N : Nat) : layTo z f N N = (List.range N).map f := by
  apply List.ext_getElem?
  intro j
  by_cases h : j < N
  · rw [layTo_get z f N N j h (Nat.le_refl _), List.getElem?_map, List.getElem?_range h]; rfl
  · rw [List.getElem?_eq_none (by rw [layTo_length]; omega), List.getElem?_eq_none (by simp; omega)]
theorem byteB_val (x : UInt32) {m j : Nat} (h : m = 8 * (3 - j)) : (x.toNat : Int) / 2 ^ m % 256 = ((byteB x j).toNat : Int) := by
  rw [byteB, UInt8.toNat_ofNat', h, Int.natCast_emod, Int.natCast_ediv, Int.natCast_pow]; rfl
theorem toldB_lay (s : List UInt32) : layTo 0 (fun i => byteB (s.getD (i / 4) 0) (i % 4)) 32 32 = toldB s := layTo_all _ _ _
set_option maxHeartbeats 400000 in
theorem told_any (s : List UInt32) (hs : s.length = 8) (w : World) :
    Calls Try.prog 29 #[.agg (uv s)] w (RetB (.agg (bva (toldB s))) w) := by
  go_enter Try.func29, Try.ntmps29
  go_wp2
  go_loopw [4, 5] (fun _ i wr => ∃ k : Nat, k ≤ 32 ∧ i = .int .i64 k ∧ Blk wr w.heap.size (uv s) 60 ∧ Blk wr (w.heap.size + 1) (bva (List.replicate 32 0)) 23 ∧ Blk wr (w.heap.size + 1 + 1) (bva (layTo 0 (fun i => byteB (s.getD (i / 4) 0) (i % 4)) 32 k)) 23 ∧ Below w.heap.size w wr) (fun _ i _ => 32 - (intOf i).toNat)
  case atStart =>
    obtain ⟨b1, b2, b3, hb⟩ := three_blocks w (.cells (uv s) 60) (.cells (bva (List.replicate 32 0)) 23) (.cells (bva (List.replicate 32 0)) 23)
    exact ⟨0, by omega, rfl, b1, b2, b3, hb⟩
  case round =>
    obtain ⟨k, hk, rfl, B1, B2, B3, hbel⟩ := hrel
    by_cases hlt : k < 32
    · obtain ⟨d, hd⟩ : ∃ d : Nat, d = k / 4 := ⟨_, rfl⟩
      obtain ⟨m, hm⟩ : ∃ m : Nat, m = 8 * (3 - k % 4) := ⟨_, rfl⟩
      have ed : (k : Int) / 4 = (d : Int) := by omega
      have em : 8 * (3 - (k : Int) % 4) = (m : Int) := by omega
      have k0 : (0 : Int) ≤ (k : Int) := by omega
      have k1 : (k : Int) < 32 := by omega
      have d0 : (0 : Int) ≤ (d : Int) := by omega
      have d1 : (d : Int) < 8 := by omega
      have m0 : (0 : Int) ≤ (m : Int) := by omega
      have m1 : (m : Int) ≤ 24 := by omega
      obtain ⟨x, hx⟩ : ∃ x, x = s.getD d 0 := ⟨_, rfl⟩
      have C0 := B1.cellu (k := d) (by omega)
      rw [← hx] at C0
      have D0 := B3.cellb (k := k) (by rw [layTo_length]; omega)
      obtain ⟨y, hy⟩ : ∃ y, y = (layTo 0 (fun i => byteB (s.getD (i / 4) 0) (i % 4)) 32 k).getD k 0 := ⟨_, rfl⟩
      rw [← hy] at D0
      have D1 := B3.free k
      have HX := Lib.hid hx
      have HD := Lib.hid hd
      have HM := Lib.hid hm
      have G1 := Lib.hid B1
      have G2 := Lib.hid B2
      have G3 := Lib.hid B3
      clear hx hy hd hm B1 B2 B3
      go_wp2
      go_roundw
      case rel => exact ⟨k + 1, by omega, by go_num, by exact G1.out.other (by omega) _ _, by exact G2.out.other (by omega) _ _, by rw [layTo]; exact G3.out.setb k _ (int_eq (by rw [byteB_val _ HM.out, HX.out, HD.out])), by exact hbel.setCell (by simp; omega) _⟩
      case measure => simp [intOf]; omega
    · obtain rfl : k = 32 := by omega
      rw [toldB_lay] at B3
      have hi : (Try.prog.info? 23).map (·.size) = some (bva (toldB s)).size := by rw [bva_size, toldB_length]; exact info33
      have Hi := Lib.hid hi
      have G2 := Lib.hid B2
      have G3 := Lib.hid B3
      clear hi B1 B2 B3
      go_wp2_with (first
        | (refine wpList_load_row rfl 23 (.tmp 3) rfl (w.heap.size + 1 + 1) rfl 23 (bva (toldB s)) (0, 0) _ G3.out Try.underlying23 rfl Hi.out ?_)
        | (refine wpList_store_row rfl 23 (.tmp 2) (.tmp 21) rfl (w.heap.size + 1) (bva (toldB s)) rfl rfl 23 (bva (List.replicate 32 0)) G2.out Hi.out (by rw [bva_size, bva_size, toldB_length]; rfl) (bva_one _) ?_))
      exact bodyPost_ret (v := .agg (bva (toldB s))) (results_cell_row Try.results29 _ _ (w.heap.size + 1) 23 (bva (toldB s)) (0, 0) _ rfl (setRow_heap _ _ _ _ _ _ G2.out) Try.underlying23 rfl Hi.out) rfl ⟨rfl, below_setRow hbel (by omega) _⟩
end Go.Proofs.Ytobkkbpeoohfkaa
