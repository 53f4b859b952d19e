/-
  The contract of the counting cipher's Pad, and of Hide by it.
-/
import Derived.Test.YtobkkbpeoohfkaaCiHide
import Derived.Deep.RegionHeld
namespace Go.Proofs.Ytobkkbpeoohfkaa.Ci
open Go.RowKit
attribute [local go_sem ↓] Go.wp_at_zero Go.wp_at_succ
/-- A cell is written here and there: what lies below stays alike. -/
theorem below_both {B : Nat} {w w' : World} {g k : Nat} {v : Value} {cs : Array Value} {t : TypeId} (h : Below B w w') (hb : Blk w g cs t) (hb' : Blk w' g cs t) : Below B (w.setCell ⟨g, k, none⟩ v) (w'.setCell ⟨g, k, none⟩ v) := by
  refine ⟨h.os, h.tape, h.output, by simpa using h.size, fun j hj => ?_⟩
  by_cases e : j = g
  · subst e
    rw [heap_setCell_same _ _ _ _ _ _ hb, heap_setCell_same _ _ _ _ _ _ hb']
  · rw [heap_setCell_other _ _ _ _ e, heap_setCell_other _ _ _ _ e]
    exact h.block j hj
theorem blk_cell {w : World} {g : Nat} {v u : Value} {t : TypeId} (h : Blk w g #[v] t) : Blk (w.setCell ⟨g, 0, none⟩ u) g #[u] t := heap_setCell_same _ _ _ _ _ _ h
set_option maxRecDepth 100000 in
set_option maxHeartbeats 1600000 in
theorem spy_any (key : List UInt8) (hk : key.length = 32) (n : Int) (g : Nat) (q : Value) (w : World) (hg : Blk w g #[.int .i64 0] 3) :
    Calls Try.prog 86 #[.agg #[.pointer (some ⟨g, 0, none⟩), q], .agg (bva key), .int .u64 n] w (fun e w' => e = .returned (.agg (bva (litL key n))) ∧ Below w.heap.size (w.setCell ⟨g, 0, none⟩ (.int .i64 1)) w') := by
  obtain ⟨z, hz0⟩ : ∃ z : List UInt8, z = List.replicate 32 0 := ⟨_, rfl⟩
  obtain ⟨b1, b2, b3, hb⟩ := three_blocks w (.cells #[.pointer (some ⟨g, 0, none⟩), q] 41) (.cells (bva key) 23) (.cells (bva z) 30)
  have hz : ∀ W, (zeroValue 30).run Try.prog W = .ok (.agg (bva z)) W := fun _ => by rw [hz0]; kernel_rfl
  have Z3 : Hid (z.length = 32) := by show _ = _; rw [hz0]; rfl
  have g1 := hg.below hb
  have gl := hg.lt
  have c1 := (show Blk _ _ _ _ from b1).cell 0
  have c2 := g1.cell 0
  have f2 := g1.free 0
  have G0 := Lib.hid hg
  have G1 := Lib.hid g1
  have B2 := Lib.hid (show Blk _ _ _ _ from b2)
  have B3 := Lib.hid (show Blk _ _ _ _ from b3)
  have BB := Lib.hid hb
  have HK := Lib.hid hk
  have HI : Hid ((Try.prog.info? 23).map (·.size) = some (bva key).size) := by rw [bva_size, hk]; exact info_key
  obtain ⟨L, hL⟩ : ∃ L, L = litL key n := ⟨_, rfl⟩
  have HL3 : Hid (L.length = 32) := by show _ = _; rw [hL, litL_length]
  have HL : Hid ((Try.prog.info? 30).map (·.size) = some (bva L).size) := by rw [bva_size, HL3.out]; exact info_blk
  have HLL := Lib.hid hL
  clear hz0 b1 b2 b3 hb hk hL hg g1
  go_enter Try.func86, Try.ntmps86
  have d2 := B2.out.other (g' := g) (by omega) 0 (.int .i64 1)
  have d3 := B3.out.other (g' := g) (by omega) 0 (.int .i64 1)
  have db : Below w.heap.size (w.setCell ⟨g, 0, none⟩ (.int .i64 1)) _ := below_both (k := 0) (v := .int .i64 1) BB.out G0.out G1.out
  have D2 := Lib.hid d2
  have D3 := Lib.hid d3
  have DB := Lib.hid db
  clear d2 d3 db B2 B3 BB G0 G1
  go_wp2_with (refine wpList_load_row rfl 23 (.tmp 4) rfl (w.heap.size + 1) rfl 23 (bva key) (0, 0) _ ?hg Try.underlying23 rfl HI.out ?_; case hg => exact D2.out)
  refine (litpad_any key HK.out n _).mono ?_
  rintro e w4 ⟨rfl, bw⟩
  rw [← HLL.out]
  have C3 := Lib.hid (D3.out.below bw)
  have CB := Lib.hid (DB.out.trans (bw.mono (by have := D3.out.lt; omega)))
  clear bw D2 D3 DB hz
  go_wp2_with (refine wpList_store_row rfl 30 (.tmp 6) (.tmp 15) rfl (w.heap.size + 1 + 1) (bva L) rfl rfl 30 (bva z) C3.out HL.out (by simp only [bva_size, HL3.out, Z3.out]) (bva_one _) ?_)
  exact bodyPost_ret (v := .agg (bva L)) (results_cell_row Try.results86 _ _ (w.heap.size + 1 + 1) 30 (bva L) (0, 0) _ rfl (setRow_heap _ _ _ _ _ _ C3.out) Try.underlying30 rfl HL.out) rfl ⟨by rw [HLL.out], below_setRow CB.out (by omega) _⟩
theorem spy_method (x : Array Value) (fuel : Nat) (W : World) : (method (fuel + 1) 41 (.agg x) "Pad").run Try.prog W = .ok (86, .agg x) W := by kernel_rfl
theorem spy_calls (args : Array Value) (W : World) : (callFunc 86 args).run Try.prog W = .ok (.enter 86 args) W := by kernel_rfl
/-- Hide by it: one pad is counted. -/
theorem hide_spy {B : Nat} (key : List UInt8) (n : Int) (g : Nat) (q : Value) (A : Option Addr) (m c : Nat) (l : List UInt8) (w : World) (hk : key.length = 32) (hl : l.length = m) (hm : m ≤ 32) (hg : Blk w g #[.int .i64 0] 3) (hB : B ≤ g) (hr : Rd B w A (bv l)) :
    Calls Try.prog 17 #[.iface 41 (.agg #[.pointer (some ⟨g, 0, none⟩), q]), .agg (bva key), .int .u64 n, .slice A m c] w
      (fun e w' => ∃ w1, Below w.heap.size (w.setCell ⟨g, 0, none⟩ (.int .i64 1)) w1 ∧ RetRow 5 (bv (Wi.xorL l (litL key n))) w1 e w') := by
  have hb : Below w.heap.size w (w.alloc (.cells (bva key) 23)) := (Below.refl _ _).alloc (Nat.le_refl _) _
  have g1 := hg.below hb
  have h2 := below_both (k := 0) (v := .int .i64 1) hb hg g1
  refine hide_any 41 _ 86 key _ n A m c l w (fun w1 => Below w.heap.size (w.setCell ⟨g, 0, none⟩ (.int .i64 1)) w1) hk (litL_length _ _) hl hm (spy_method _) spy_calls
    ((spy_any key hk n g q _ g1).mono fun e w1 he => ⟨he.1, h2.trans (he.2.mono (by simp))⟩) (fun w1 h1 => ?_)
  have hs : w.heap.size ≤ w1.heap.size := by have := h1.size; simpa using this
  have gl := hg.lt
  exact ((hr.below ((Below.refl B w).setCell (p := ⟨g, 0, none⟩) hB (.int .i64 1))).below (h1.mono (by omega))).more (by omega)
/-- What is hidden, and that there is nothing of too many bytes. -/
def hidL (l p : List UInt8) : List UInt8 := if l.length ≤ 32 then Wi.xorL l p else []
theorem hidL_length (l p : List UInt8) : (hidL l p).length ≤ 32 := by
  unfold hidL; split
  · rw [Wi.xorL_length]; omega
  · simp
theorem below_cell0 {B : Nat} {w w' : World} {g : Nat} {v : Value} {t : TypeId} (h : Below B w w') (hb : Blk w g #[v] t) : Below B (w.setCell ⟨g, 0, none⟩ v) w' := by
  refine ⟨h.os, h.tape, h.output, by simpa using h.size, fun j hj => ?_⟩
  rw [h.block j hj]
  by_cases e : j = g
  · subst e
    rw [blk_cell hb]; exact hb
  · rw [heap_setCell_other _ _ _ _ e]
theorem hide_spy2 {B : Nat} (key : List UInt8) (n : Int) (g : Nat) (q : Value) (A : Option Addr) (m c : Nat) (l : List UInt8) (w : World) (hk : key.length = 32) (hl : l.length = m) (hg : Blk w g #[.int .i64 0] 3) (hB : B ≤ g) (hr : Rd B w A (bv l)) :
    Calls Try.prog 17 #[.iface 41 (.agg #[.pointer (some ⟨g, 0, none⟩), q]), .agg (bva key), .int .u64 n, .slice A m c] w
      (fun e w' => ∃ w1 p, (0 ≤ p ∧ p ≤ 1) ∧ Below w.heap.size (w.setCell ⟨g, 0, none⟩ (.int .i64 p)) w1 ∧ RetRow 5 (bv (hidL l (litL key n))) w1 e w') := by
  by_cases hm : m ≤ 32
  · rw [hidL, if_pos (by omega)]
    exact (hide_spy key n g q A m c l w hk hl hm hg hB hr).mono fun e w' ⟨w1, h1, h2⟩ => ⟨w1, 1, by omega, h1, h2⟩
  · rw [hidL, if_neg (by omega)]
    refine (hide_long 41 _ key n A m c w (by omega)).mono ?_
    rintro e w' ⟨rfl, hb⟩
    exact ⟨w', 0, by omega, below_cell0 hb hg, none, 0, 0, rfl, World.ownsRow_nil _ _ _ _, Below.refl _ _⟩
theorem refhide2 (pad : List UInt8) (hp : pad.length = 32) (A : Option Addr) (m c : Nat) (l : List UInt8) (w : World) (hl : l.length = m) (hr : Rd w.heap.size w A (bv l)) :
    Calls Try.prog 19 #[.agg (bva pad), .slice A m c] w (RetRow 5 (bv (hidL l pad)) w) := by
  by_cases hm : m ≤ 32
  · rw [hidL, if_pos (by omega)]
    exact refhide_any pad hp A m c l w hl hm hr
  · rw [hidL, if_neg (by omega)]
    refine (refhide_long pad A m c w (by omega)).mono ?_
    rintro e w' ⟨rfl, hb⟩
    exact ⟨none, 0, 0, rfl, World.ownsRow_nil _ _ _ _, hb⟩
/-- A row of the call's own is read as it was behind a write elsewhere. -/
theorem rd_far {w : World} {base n c g k : Nat} {e : TypeId} {A : Option Addr} {xs : List Value} {v : Value} (h : w.ownsRow base e 1 (.slice A n c) n xs) (hg : g < base) : Rd w.heap.size (w.setCell ⟨g, k, none⟩ v) A xs := fun j u hu => by
  have hj : j < xs.length := (List.getElem?_eq_some_iff.1 hu).1
  have hn : xs.length = n := own_len h
  obtain ⟨g', rfl, hb, _, _⟩ := own_addr h (by omega)
  obtain ⟨ad, e1, e2, e3⟩ := Rd.own h j u hu
  injection e1 with e1; subst e1
  refine ⟨_, rfl, e2, ?_⟩
  rw [World.cell?_setCell_far _ _ _ _ (by rw [add_block]; show g ≠ g'; omega)]
  exact e3
end Go.Proofs.Ytobkkbpeoohfkaa.Ci
