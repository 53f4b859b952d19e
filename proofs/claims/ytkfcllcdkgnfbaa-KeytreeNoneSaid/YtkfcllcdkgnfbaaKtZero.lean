/-
  The contracts of a tree that is zero, and of none.
-/
import Derived.Test.YtkfcllcdkgnfbaaKtTClone
namespace Go.Proofs.Ytkfcllcdkgnfbaa.Kt
open Go.RowKit
attribute [local go_sem ↓] Go.wp_at_zero Go.wp_at_succ
/-- A zero tree at block g. -/
def Zr (w : World) (g : Nat) : Prop := Blk w g #[.nilIface, .slice none 0 0] 67
theorem Zr.c1 {w : World} {g : Nat} (h : Zr w g) : w.cell? ⟨g, 1, none⟩ = some (.slice none 0 0) := by rw [Blk.cell h]; rfl
theorem find_zero (g : Nat) (m : Int) (w : World) (h : Zr w g) :
    Calls Try.prog 32 #[.pointer (some ⟨g, 0, none⟩), .int .u64 m] w (RetB (.tuple #[.int .i64 0, .bool false]) w) := by
  have c1 := h.c1
  go_enter Try.func32, Try.ntmps32
  go_wp2_with fail
  refine (search_any (B := w.heap.size) none 0 0 [] 0 m _ rfl trivial (Nat.le_refl _) Rd.none (by omega)).mono ?_
  rintro e w2 ⟨i, b, rfl, hf, bw⟩
  obtain rfl : i = 0 := by have := hf.1; simpa using this
  obtain rfl : b = false := hf.2.2.2
  have HB := Lib.hid bw
  clear hf bw
  go_wp2_with fail
  go_ret2
  exact ⟨rfl, HB.out⟩
theorem tpuncture_zero (g : Nat) (m : Int) (w : World) (h : Zr w g) :
    Calls Try.prog 17 #[.pointer (some ⟨g, 0, none⟩), .int .u64 m] w (RetB (.bool false) w) := by
  go_enter Try.func17, Try.ntmps17
  go_wp2_with fail
  refine (find_zero g m _ h).mono ?_
  rintro e w2 ⟨rfl, bw⟩
  have HB := Lib.hid bw
  clear bw
  go_wp2_with fail
  go_ret
  exact ⟨rfl, HB.out⟩
theorem tpuncture_nil (m : Int) (w : World) : Calls Try.prog 17 #[.pointer none, .int .u64 m] w (RetB (.bool false) w) := by
  go_enter Try.func17, Try.ntmps17
  go_wp2_with fail
  refine (find_nil m _).mono ?_
  rintro e w2 ⟨rfl, rfl⟩
  go_wp2_with fail
  go_ret
  exact ⟨rfl, Below.refl _ _⟩
theorem tcount_zero (g : Nat) (w : World) (h : Zr w g) : Calls Try.prog 21 #[.pointer (some ⟨g, 0, none⟩)] w (RetB (.int .i64 0) w) := by
  have c1 := h.c1
  go_enter Try.func21, Try.ntmps21
  go_wp2_with fail
  go_loopw [3, 5, 13] (fun o _ i wr => i = .int .i64 0 ∧ o = .int .i64 0 ∧ Below w.heap.size w wr) (fun _ _ _ _ => 0)
  case atStart => exact ⟨rfl, rfl, Below.refl _ _⟩
  case round =>
    obtain ⟨rfl, rfl, hbw⟩ := hrel
    go_wp2
    go_ret
    exact ⟨rfl, hbw⟩
theorem tkey_zero (g : Nat) (m : Int) (w : World) (h : Zr w g) : Calls Try.prog 23 #[.pointer (some ⟨g, 0, none⟩), .int .u64 m] w (RetB (keyV none m) w) := by
  obtain ⟨z, hz0⟩ : ∃ z : List UInt8, z = List.replicate 32 0 := ⟨_, rfl⟩
  have hz : ∀ W, (zeroValue 23).run Try.prog W = .ok (.agg (bva z)) W := fun _ => by rw [hz0]; kernel_rfl
  have HBZ := Lib.hid (show ∀ W, (Instr.build 23 #[]).run Try.prog W = .ok (.agg (bva z)) W from fun _ => by rw [hz0]; kernel_rfl)
  have Z3 : Hid (z.length = 32) := by show _ = _; rw [hz0]; rfl
  have HKZ : Hid ((Try.prog.info? 23).map (·.size) = some (bva z).size) := by rw [bva_size, Z3.out]; exact info_keyL
  have P1 := Lib.hid (show Blk (w.alloc (.cells (bva z) 23)) w.heap.size (bva z) 23 from heap_alloc_new _ _)
  have HB2 := Lib.hid (show Below w.heap.size w (w.alloc (.cells (bva z) 23)) from (Below.refl _ _).alloc (Nat.le_refl _) _)
  have ZG := Lib.hid (show Zr (w.alloc (.cells (bva z) 23)) g from blk_old1 h)
  have Z0 := Lib.hid hz0
  clear hz0 h
  go_enter Try.func23, Try.ntmps23
  go_wp2_with fail
  refine (find_zero g m _ ZG.out).mono ?_
  rintro e w2 ⟨rfl, bw⟩
  have Q0 := Lib.hid (P1.out.below bw)
  have HB3 := Lib.hid (HB2.out.trans (bw.mono HB2.out.size))
  clear bw P1 HB2
  go_wp2_with (first
    | (refine wpList_build rfl 23 #[] rfl (HBZ.out _) ?_)
    | (refine wpList_store_row rfl 23 (.tmp 4) (.tmp 18) rfl w.heap.size (bva z) rfl rfl 23 (bva z) Q0.out HKZ.out rfl (bva_one _) ?_
       generalize hwx : World.setRow _ _ _ = wx
       have e1 : Blk wx w.heap.size (bva z) 23 := by rw [← hwx]; exact setRow_heap _ _ _ _ _ _ Q0.out
       have eb : Below w.heap.size w wx := by rw [← hwx]; exact below_setRow HB3.out (Nat.le_refl _) _
       have Q1 := Lib.hid e1
       have QB := Lib.hid eb
       clear hwx e1 eb))
  try simp only [Act.put, List.setIfInBounds_toArray, List.set_cons_zero, List.set_cons_succ]
  rw [keyV_none, ← Z0.out]
  exact bodyPost_ret (v := .tuple #[.agg (bva z), .bool false]) (results_ct Try.results23 _ _ w.heap.size 23 (bva z) _ rfl Q1.out Try.underlying23 rfl HKZ.out) rfl ⟨rfl, QB.out⟩
end Go.Proofs.Ytkfcllcdkgnfbaa.Kt
