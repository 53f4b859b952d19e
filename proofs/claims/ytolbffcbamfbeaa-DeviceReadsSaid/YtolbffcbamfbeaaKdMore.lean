/-
  Rot of live devices; the reference's Same over rows; what a nil device tells of Read, Write, Flush.
-/
import Derived.Test.YtolbffcbamfbeaaKdFine
namespace Go.Proofs.Ytolbffcbamfbeaa.Kd
open Go.RowKit Go.Maps
attribute [local go_sem ↓] Go.wp_at_zero Go.wp_at_succ
section
variable {w0 w w' : World} {p : Nat} {gs : List Nat} {S S' : Sy} {F F' : Nat → Prop} {v : Value} {e : Ending}
theorem live_rot (h : Live w0 w p gs S F) (k : Nat) (hk : k < S.ds.length) (i a : Int) (x : UInt8) :
    Calls Try.prog 32 #[.pointer (some ⟨gs.getD k 0, 0, none⟩), .int .i64 i, .int .i64 a, .int .u8 (x.toNat : Int)] w (RetL (.bool (hasByte (S.at k).st.length i a)) w0 p gs (S.rot k i a x) F w) :=
  (rot_sys h.sys k hk i a x).mono fun _ _ hr => h.ret hr
theorem rsame_b {B B' : Nat} (A A' : Option Addr) (n m c d : Nat) (xs ys : List (List UInt8)) (w : World) (hn : xs.length = n) (hm : ys.length = m) (hx3 : ∀ x ∈ xs, x.length = 128) (hy3 : ∀ x ∈ ys, x.length = 128)
    (ha : Rd B w A (svs xs)) (hb : Rd B' w A' (svs ys)) (hn' : n ≤ maxLen) (hm' : m ≤ maxLen) :
    Calls Try.prog 21 #[.slice A n c, .slice A' m d] w (RetB (.int .i64 (sameN xs ys)) w) :=
  (rsame_any A A' n m c d xs ys w hn hm hx3 hy3 ha hb hn' hm').mono fun _ _ hr => by
    obtain ⟨rfl, k, rfl⟩ := hr
    exact ⟨rfl, ⟨rfl, rfl, rfl, Nat.le_refl _, fun _ _ => rfl⟩⟩
/-- A box of a sector that is none of the devices'. -/
def BoxS (w : World) (F : Nat → Prop) (q : Nat) (l : List UInt8) : Prop := Blk w q (bva l) 38 ∧ ¬ F q
theorem BoxS.step {q : Nat} {l : List UInt8} (h : BoxS w F q l) (h1 : ∀ q, F' q → F q ∨ w.heap.size ≤ q) (h2 : But F w w') : BoxS w' F' q l :=
  ⟨h.1.but h2 h.2, fun hf => by
    rcases h1 q hf with h3 | h3
    · exact h.2 h3
    · have := h.1.lt; omega⟩
theorem BoxS.below {q : Nat} {l : List UInt8} (h : BoxS w F q l) (hb : Below w.heap.size w w') : BoxS w' F q l := ⟨h.1.below hb, h.2⟩
theorem same_refl (xs : List (List UInt8)) : sameN xs xs = 1 := by rw [sameN, if_pos rfl]
end
set_option maxRecDepth 100000 in
set_option maxHeartbeats 3200000 in
theorem dread_nil (w : World) (i : Int) : Calls Try.prog 26 #[.pointer none, .int .i64 i] w (RetB (.tuple #[.agg (bva zeroS), .int .i64 1]) w) := by
  obtain ⟨z, hz0⟩ : ∃ z : List UInt8, z = zeroS := ⟨_, rfl⟩
  rw [← hz0]
  have hz : ∀ W, (zeroValue 38).run Try.prog W = .ok (.agg (bva z)) W := fun _ => by rw [hz0]; kernel_rfl
  have HBZ := Lib.hid (show ∀ W, (Instr.build 38 #[]).run Try.prog W = .ok (.agg (bva z)) W from fun _ => by rw [hz0]; kernel_rfl)
  have HI : Hid ((Try.prog.info? 38).map (·.size) = some (bva z).size) := by rw [bva_size, hz0, zeroS_length]; exact info_sec
  have R0 := Lib.hid (show Blk (w.alloc (.cells (bva z) 38)) w.heap.size (bva z) 38 from heap_alloc_new _ _)
  clear hz0
  go_enter Try.func26, Try.ntmps26
  go_wp2_with (first
    | (refine (reaches_nil i).mono ?_; rintro e w' ⟨rfl, rfl⟩)
    | (refine wpList_build rfl 38 #[] rfl (v := .agg (bva z)) ?hbld ?_; case hbld => exact HBZ.out _)
    | (refine wpList_store_row rfl 38 (.tmp 4) (.tmp 14) rfl w.heap.size (bva z) rfl rfl 38 (bva z) R0.out HI.out (by rfl) (bva_one _) ?_))
  exact bodyPost_ret (v := .tuple #[.agg (bva z), .int .i64 1]) (results_ct8 Try.results26 _ _ w.heap.size 38 (bva z) _ rfl (setRow_heap _ _ _ _ _ _ R0.out) Try.underlying38 rfl HI.out) rfl ⟨rfl, below_setRow ((Below.refl _ _).alloc (Nat.le_refl _) _) (Nat.le_refl _) _⟩
theorem dwrite_nil (w : World) (i : Int) (s : List UInt8) : Calls Try.prog 23 #[.pointer none, .int .i64 i, .agg (bva s)] w (RetB (.int .i64 1) w) := by
  go_enter Try.func23, Try.ntmps23
  go_wp2_with (first | (refine (reaches_nil i).mono ?_; rintro e w' ⟨rfl, rfl⟩))
  go_ret
  exact ⟨rfl, (Below.refl _ _).alloc (Nat.le_refl _) _⟩
theorem dflush_nil (w : World) : Calls Try.prog 25 #[.pointer none] w (Ret0 (.int .i64 1) w) := by
  go_enter Try.func25, Try.ntmps25
  go_wp2_with (first | (refine runs_nil.mono ?_; rintro e w' ⟨rfl, rfl⟩))
  go_ret
  exact ⟨rfl, rfl⟩
end Go.Proofs.Ytolbffcbamfbeaa.Kd
