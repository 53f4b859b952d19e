/-
  The contract of the reference's Split, a little one.
-/
import Derived.Test.YtkfcllcdkgnfbaaProg
import Derived.Test.YtkfcllcdkgnfbaaArr
import Derived.Deep.RegionHeld
namespace Go.Proofs.Ytkfcllcdkgnfbaa.Kt
open Go.RowKit
attribute [local go_sem ↓] Go.wp_at_zero Go.wp_at_succ
theorem two_rows_a (w : World) (Z c : Array Value) (A : TypeId) : Blk ((((w.drew.alloc (.cells Z A)).alloc (.cells Z A)).setRow w.heap.size c).setRow (w.heap.size + 1) c) w.heap.size c A ∧ Blk ((((w.drew.alloc (.cells Z A)).alloc (.cells Z A)).setRow w.heap.size c).setRow (w.heap.size + 1) c) (w.heap.size + 1) c A ∧ Below w.heap.size w ((((w.drew.alloc (.cells Z A)).alloc (.cells Z A)).setRow w.heap.size c).setRow (w.heap.size + 1) c) := by
  have h1 : (w.drew.alloc (.cells Z A)).heap.size = w.heap.size + 1 := by simp
  refine ⟨?_, ?_, below_setRow (below_setRow (((Below.refl w.heap.size w).drew.alloc (Nat.le_refl _) _).alloc (by rw [h1]; exact Nat.le_succ _) _) (Nat.le_refl _) _) (Nat.le_succ _) _⟩
  · unfold Blk; rw [setRow_other _ _ _ _ (by omega)]; exact setRow_heap _ _ _ _ _ _ (heap_alloc2_old w.drew _ _)
  · exact setRow_heap _ _ _ _ _ _ (by rw [setRow_other _ _ _ _ (by omega)]; exact heap_alloc2_new w.drew _ _)
theorem two_rows_b (w : World) (Z c : Array Value) (A : TypeId) : Blk ((((w.drew.alloc (.cells Z A)).alloc (.cells Z A)).setRow (w.heap.size + 1) c).setRow w.heap.size c) w.heap.size c A ∧ Blk ((((w.drew.alloc (.cells Z A)).alloc (.cells Z A)).setRow (w.heap.size + 1) c).setRow w.heap.size c) (w.heap.size + 1) c A ∧ Below w.heap.size w ((((w.drew.alloc (.cells Z A)).alloc (.cells Z A)).setRow (w.heap.size + 1) c).setRow w.heap.size c) := by
  have h1 : (w.drew.alloc (.cells Z A)).heap.size = w.heap.size + 1 := by simp
  refine ⟨?_, ?_, below_setRow (below_setRow (((Below.refl w.heap.size w).drew.alloc (Nat.le_refl _) _).alloc (by rw [h1]; exact Nat.le_succ _) _) (Nat.le_succ _) _) (Nat.le_refl _) _⟩
  · exact setRow_heap _ _ _ _ _ _ (by rw [setRow_other _ _ _ _ (by omega)]; exact heap_alloc2_old w.drew _ _)
  · unfold Blk; rw [setRow_other _ _ _ _ (by omega)]; exact setRow_heap _ _ _ _ _ _ (heap_alloc2_new w.drew _ _)
/-- One rest for all ways through a region. -/
theorem by_rest {R G : Nat → Nat → World → Prop} {p : Prop} (ways : (∀ X Y w', R X Y w' → G X Y w') → p) (rest : ∀ X Y w', R X Y w' → G X Y w') : p := ways rest
/-- A list whose first n are laid anew. -/
def layOn {α : Type} (l : List α) (f : Nat → α) : Nat → List α
  | 0 => l
  | n + 1 => (layOn l f n).set n (f n)
theorem layOn_length {α : Type} (l : List α) (f : Nat → α) : ∀ n, (layOn l f n).length = l.length
  | 0 => rfl
  | n + 1 => by rw [layOn, List.length_set, layOn_length l f n]
theorem layOn_get {α : Type} (l : List α) (f : Nat → α) : ∀ n j, j < n → n ≤ l.length → (layOn l f n)[j]? = some (f j)
  | 0, j, h, _ => by omega
  | n + 1, j, h, h' => by
    rw [layOn]
    by_cases e : j = n
    · subst e
      rw [List.getElem?_set_self (by rw [layOn_length]; omega)]
    · rw [List.getElem?_set_ne (fun e' => e e'.symm)]
      exact layOn_get l f n j (by omega) (by omega)
theorem layOn_all {α : Type} (l : List α) (f : Nat → α) (N : Nat) (h : l.length = N) : layOn l f N = (List.range N).map f := by
  apply List.ext_getElem?
  intro j
  by_cases hj : j < N
  · rw [layOn_get l f N j hj (by omega), List.getElem?_map, List.getElem?_range hj]; rfl
  · rw [List.getElem?_eq_none (by rw [layOn_length]; omega), List.getElem?_eq_none (by simp; omega)]
/-- The two of a key. -/
def fA (k : List UInt8) (i : Nat) : UInt8 := k.getD i 0 * 3 + UInt8.ofNat i + 1
def fB (k : List UInt8) (i : Nat) : UInt8 := k.getD i 0 * 5 + UInt8.ofNat (2 * i) + 7
def leftK (k : List UInt8) : List UInt8 := (List.range 32).map (fA k)
def rightK (k : List UInt8) : List UInt8 := (List.range 32).map (fB k)
theorem leftK_length (k : List UInt8) : (leftK k).length = 32 := by simp [leftK]
theorem rightK_length (k : List UInt8) : (rightK k).length = 32 := by simp [rightK]
theorem val_a (x : UInt8) (j : Nat) : ((x.toNat : Int) * 3 + (j : Int) + 1) % 256 = ((x * 3 + UInt8.ofNat j + 1).toNat : Int) := by
  rw [UInt8.toNat_add, UInt8.toNat_add, UInt8.toNat_mul, UInt8.toNat_ofNat']
  show _ = (((((x.toNat * 3 % 2 ^ 8) + j % 2 ^ 8) % 2 ^ 8 + 1) % 2 ^ 8 : Nat) : Int)
  omega
theorem val_b (x : UInt8) (j : Nat) : ((x.toNat : Int) * 5 + 2 * (j : Int) + 7) % 256 = ((x * 5 + UInt8.ofNat (2 * j) + 7).toNat : Int) := by
  rw [UInt8.toNat_add, UInt8.toNat_add, UInt8.toNat_mul, UInt8.toNat_ofNat']
  show _ = (((((x.toNat * 5 % 2 ^ 8) + 2 * j % 2 ^ 8) % 2 ^ 8 + 7) % 2 ^ 8 : Nat) : Int)
  omega
theorem info_b32 : (Try.prog.info? 22).map (·.size) = some 32 := by kernel_rfl
/-- Two arrays are told. -/
theorem results_cells2 {P : Program} {fn : Func} {p q : Tmp} {ty : TypeId} (h : fn.results = #[.cell p ty, .cell q ty]) (tmps : Array Value) (w : World) (g g' : Nat) (t t' : TypeId) (cs cs' : Array Value) (d : TypeDesc)
    (hp : tmps.getD p undef = .pointer (some ⟨g, 0, none⟩)) (hq : tmps.getD q undef = .pointer (some ⟨g', 0, none⟩)) (hg : Blk w g cs t) (hg' : Blk w g' cs' t')
    (hu : P.underlying ty = some d) (hd : (match d with | .struct _ | .array _ _ => true | _ => false) = true) (hi : (P.info? ty).map (·.size) = some cs.size) (hi' : (P.info? ty).map (·.size) = some cs'.size) :
    (results fn tmps).run P w = .ok (.tuple #[.agg cs, .agg cs']) w := by
  have hp' : tmps[p]?.getD undef = .pointer (some ⟨g, 0, none⟩) := by simpa using hp
  have hq' : tmps[q]?.getD undef = .pointer (some ⟨g', 0, none⟩) := by simpa using hq
  simp [results, h, hp', hq', asAddr, run_loadVar_row w g t ty cs (0, 0) d hg hu hd hi, run_loadVar_row w g' t' ty cs' (0, 0) d hg' hu hd hi']
theorem blk_row {w : World} {g g' : Nat} {cs cs' : Array Value} {t : TypeId} (h : Blk w g cs t) (hg : g ≠ g') : Blk (w.setRow g' cs') g cs t := by unfold Blk; rw [setRow_other _ _ _ _ hg]; exact h
set_option maxRecDepth 100000 in
set_option maxHeartbeats 1600000 in
theorem split_any (k : List UInt8) (hk : k.length = 32) (w : World) :
    Calls Try.prog 29 #[.agg (bva k)] w (RetB (.tuple #[.agg (bva (leftK k)), .agg (bva (rightK k))]) w) := by
  obtain ⟨z, hz0⟩ : ∃ z : List UInt8, z = List.replicate 32 0 := ⟨_, rfl⟩
  have hz : ∀ W, (zeroValue 22).run Try.prog W = .ok (.agg (bva z)) W := fun _ => by rw [hz0]; kernel_rfl
  have Z3 : Hid (z.length = 32) := by show _ = _; rw [hz0]; rfl
  obtain ⟨b1, b2, b3, hb⟩ := three_blocks w (.cells (bva k) 22) (.cells (bva z) 22) (.cells (bva z) 22)
  obtain ⟨w1, hw1⟩ : ∃ w1, w1 = (((w.alloc (.cells (bva k) 22)).alloc (.cells (bva z) 22)).alloc (.cells (bva z) 22)) := ⟨_, rfl⟩
  rw [← hw1] at b1 b2 b3 hb
  have HW := Lib.hid hw1
  have B1 := Lib.hid (show Blk _ _ _ _ from b1)
  have B2 := Lib.hid (show Blk _ _ _ _ from b2)
  have B3 := Lib.hid (show Blk _ _ _ _ from b3)
  have BB := Lib.hid hb
  have HK := Lib.hid hk
  have HI : Hid ((Try.prog.info? 22).map (·.size) = some (bva k).size) := by rw [bva_size, hk]; exact info_b32
  have hlt1 : w.heap.size + 1 + 1 < w1.heap.size := B3.out.lt
  clear hz0 b1 b2 b3 hb hk hw1
  go_enter Try.func29, Try.ntmps29
  go_wp2_with fail
  rw [← HW.out]
  clear HW
  apply by_rest (R := fun X Y w' => X ≠ Y ∧ w1.heap.size ≤ X ∧ w1.heap.size ≤ Y ∧ Blk w' X (bva k) 22 ∧ Blk w' Y (bva k) 22 ∧ Below w1.heap.size w1 w')
  case ways =>
    intro hG
    refine wp_region_held_drew (S := fun w' => Blk w' w.heap.size (bva k) 22) (by kernel_rfl) (show Blk w1.drew w.heap.size (bva k) 22 from B1.out) (fun hh => ?_)
    have HH := Lib.hid hh
    clear hh
    refine wpAnyH_take (i := 0) (v := .agg (bva k)) rfl (by kernel_rfl) (by kernel_rfl) (by kernel_rfl) (fun _ _ _ h => h) (Or.inl ⟨by rfl, fun w' hw' => ?y0⟩) HH.out ?_
    case y0 => exact exec_load 22 (.tmp 1) rfl rfl hw' Try.underlying22 rfl HI.out
    refine wpAnyH_take (i := 1) (v := .agg (bva k)) rfl (by kernel_rfl) (by kernel_rfl) (by kernel_rfl) (fun _ _ _ h => h) (Or.inl ⟨by rfl, fun w' hw' => ?y1⟩) HH.out ?_
    case y1 => exact exec_load 22 (.tmp 1) rfl rfl hw' Try.underlying22 rfl HI.out
    try simp only [List.getElem_toArray, List.getElem_cons_succ, List.getElem_cons_zero, Act.put, List.setIfInBounds_toArray, List.set_cons_zero, List.set_cons_succ]
    refine wpAnyH_ready (rs := [2, 3]) (by kernel_rfl) (by simp) (AllReadyH.cons rfl (fun K hK => ?_) (AllReadyH.cons rfl (fun K hK => ?_) AllReadyH.nil))
    · skip
      go_simp
      refine hK.out _ _ (Blk.below (w := w1.drew) HH.out ((Below.refl _ _).alloc (Nat.le_refl _) _)) (fun hh => ?_)
      have HH' := Lib.hid hh
      clear hh hK K HH
      have HH := Lib.hid HH'.out
      clear HH'
      try simp only [List.getElem_toArray, List.getElem_cons_succ, List.getElem_cons_zero, Act.put, List.setIfInBounds_toArray, List.set_cons_zero, List.set_cons_succ]
      refine wpAnyH_ready (rs := [3]) (by kernel_rfl) (by simp) (AllReadyH.cons rfl (fun K hK => ?_) AllReadyH.nil)
      go_simp
      refine hK.out _ _ (Blk.below (w := World.alloc w1.drew (.cells (bva z) 22)) HH.out ((Below.refl _ _).alloc (Nat.le_refl _) _)) (fun hh => ?_)
      have HH' := Lib.hid hh
      clear hh hK K HH
      have HH := Lib.hid HH'.out
      clear HH'
      try simp only [List.getElem_toArray, List.getElem_cons_succ, List.getElem_cons_zero, Act.put, List.setIfInBounds_toArray, List.set_cons_zero, List.set_cons_succ]
      refine wpAnyH_ready (rs := [4]) (by kernel_rfl) (by simp) (AllReadyH.cons rfl (fun K hK => ?_) AllReadyH.nil)
      rw [if_pos (by rfl)]
      refine wp_store_row 22 (.tmp 4) (.tmp 7) rfl (w1.heap.size) (bva k) rfl rfl 22 (bva z) (heap_alloc2_old _ _ _) HI.out (by simp only [bva_size, HK.out, Z3.out]) (bva_one _) ?_
      refine hK.out _ _ (by show Blk _ _ _ _; unfold Blk; rw [setRow_other _ _ _ _ (by omega)]; exact HH.out) (fun hh => ?_)
      have HH' := Lib.hid hh
      clear hh hK K HH
      have HH := Lib.hid HH'.out
      clear HH'
      try simp only [List.getElem_toArray, List.getElem_cons_succ, List.getElem_cons_zero, Act.put]
      refine wpAnyH_ready (rs := [5]) (by kernel_rfl) (by simp) (AllReadyH.cons rfl (fun K hK => ?_) AllReadyH.nil)
      rw [if_pos (by rfl)]
      refine wp_store_row 22 (.tmp 5) (.tmp 8) rfl (w1.heap.size + 1) (bva k) rfl rfl 22 (bva z) (by rw [setRow_other _ _ _ _ (by omega)]; exact heap_alloc2_new _ _ _) HI.out (by simp only [bva_size, HK.out, Z3.out]) (bva_one _) ?_
      refine hK.out _ _ (by show Blk _ _ _ _; unfold Blk; rw [setRow_other _ _ _ _ (by omega)]; exact HH.out) (fun hh => ?_)
      have HH' := Lib.hid hh
      clear hh hK K HH
      have HH := Lib.hid HH'.out
      clear HH'
      try simp only [List.getElem_toArray, List.getElem_cons_succ, List.getElem_cons_zero, Act.put]
      refine wpAnyH_done (by kernel_rfl) ?_ _
      try simp only [List.getElem_toArray, List.getElem_cons_succ, List.getElem_cons_zero, Act.put, List.setIfInBounds_toArray, List.set_cons_zero, List.set_cons_succ]
      generalize hw4 : World.setRow _ _ _ = w4
      obtain ⟨f1, f2, f3⟩ : Blk w4 w1.heap.size (bva k) 22 ∧ Blk w4 (w1.heap.size + 1) (bva k) 22 ∧ Below w1.heap.size w1 w4 := by rw [← hw4]; first | exact two_rows_a _ _ _ _ | exact two_rows_b _ _ _ _
      clear hw4 HH
      obtain ⟨X, hX⟩ : ∃ X, w1.heap.size = X := ⟨_, rfl⟩
      obtain ⟨Y, hY⟩ : ∃ Y, w1.heap.size + 1 = Y := ⟨_, rfl⟩
      have hXY : X ≠ Y := by omega
      have hXw : w1.heap.size ≤ X := by omega
      have hYw : w1.heap.size ≤ Y := by omega
      rw [hX] at f1
      rw [hY] at f2
      rw [hY]
      rw [hX]
      clear hX hY
      exact hG X Y w4 ⟨hXY, hXw, hYw, f1, f2, f3⟩
    · skip
      go_simp
      refine hK.out _ _ (Blk.below (w := w1.drew) HH.out ((Below.refl _ _).alloc (Nat.le_refl _) _)) (fun hh => ?_)
      have HH' := Lib.hid hh
      clear hh hK K HH
      have HH := Lib.hid HH'.out
      clear HH'
      try simp only [List.getElem_toArray, List.getElem_cons_succ, List.getElem_cons_zero, Act.put, List.setIfInBounds_toArray, List.set_cons_zero, List.set_cons_succ]
      refine wpAnyH_ready (rs := [2]) (by kernel_rfl) (by simp) (AllReadyH.cons rfl (fun K hK => ?_) AllReadyH.nil)
      go_simp
      refine hK.out _ _ (Blk.below (w := World.alloc w1.drew (.cells (bva z) 22)) HH.out ((Below.refl _ _).alloc (Nat.le_refl _) _)) (fun hh => ?_)
      have HH' := Lib.hid hh
      clear hh hK K HH
      have HH := Lib.hid HH'.out
      clear HH'
      try simp only [List.getElem_toArray, List.getElem_cons_succ, List.getElem_cons_zero, Act.put, List.setIfInBounds_toArray, List.set_cons_zero, List.set_cons_succ]
      refine wpAnyH_ready (rs := [4]) (by kernel_rfl) (by simp) (AllReadyH.cons rfl (fun K hK => ?_) AllReadyH.nil)
      rw [if_pos (by rfl)]
      refine wp_store_row 22 (.tmp 4) (.tmp 7) rfl (w1.heap.size + 1) (bva k) rfl rfl 22 (bva z) (heap_alloc2_new _ _ _) HI.out (by simp only [bva_size, HK.out, Z3.out]) (bva_one _) ?_
      refine hK.out _ _ (by show Blk _ _ _ _; unfold Blk; rw [setRow_other _ _ _ _ (by omega)]; exact HH.out) (fun hh => ?_)
      have HH' := Lib.hid hh
      clear hh hK K HH
      have HH := Lib.hid HH'.out
      clear HH'
      try simp only [List.getElem_toArray, List.getElem_cons_succ, List.getElem_cons_zero, Act.put]
      refine wpAnyH_ready (rs := [5]) (by kernel_rfl) (by simp) (AllReadyH.cons rfl (fun K hK => ?_) AllReadyH.nil)
      rw [if_pos (by rfl)]
      refine wp_store_row 22 (.tmp 5) (.tmp 8) rfl (w1.heap.size) (bva k) rfl rfl 22 (bva z) (by rw [setRow_other _ _ _ _ (by omega)]; exact heap_alloc2_old _ _ _) HI.out (by simp only [bva_size, HK.out, Z3.out]) (bva_one _) ?_
      refine hK.out _ _ (by show Blk _ _ _ _; unfold Blk; rw [setRow_other _ _ _ _ (by omega)]; exact HH.out) (fun hh => ?_)
      have HH' := Lib.hid hh
      clear hh hK K HH
      have HH := Lib.hid HH'.out
      clear HH'
      try simp only [List.getElem_toArray, List.getElem_cons_succ, List.getElem_cons_zero, Act.put]
      refine wpAnyH_done (by kernel_rfl) ?_ _
      try simp only [List.getElem_toArray, List.getElem_cons_succ, List.getElem_cons_zero, Act.put, List.setIfInBounds_toArray, List.set_cons_zero, List.set_cons_succ]
      generalize hw4 : World.setRow _ _ _ = w4
      obtain ⟨f1, f2, f3⟩ : Blk w4 w1.heap.size (bva k) 22 ∧ Blk w4 (w1.heap.size + 1) (bva k) 22 ∧ Below w1.heap.size w1 w4 := by rw [← hw4]; first | exact two_rows_a _ _ _ _ | exact two_rows_b _ _ _ _
      clear hw4 HH
      obtain ⟨X, hX⟩ : ∃ X, w1.heap.size + 1 = X := ⟨_, rfl⟩
      obtain ⟨Y, hY⟩ : ∃ Y, w1.heap.size = Y := ⟨_, rfl⟩
      have hXY : X ≠ Y := by omega
      have hXw : w1.heap.size ≤ X := by omega
      have hYw : w1.heap.size ≤ Y := by omega
      rw [hY] at f1
      rw [hX] at f2
      rw [hX]
      rw [hY]
      clear hX hY
      exact hG X Y w4 ⟨hXY, hXw, hYw, f2, f1, f3⟩
  case rest =>
    rintro X Y w4 ⟨hXY, hX, hY, dX, dY, db⟩
    have d1 := B1.out.below db
    have d2 := B2.out.below db
    have d3 := B3.out.below db
    have dbb := BB.out.trans (db.mono BB.out.size)
    clear db B1 B2 B3 BB
    go_wp2_with fail
    go_loopw [6] (fun i wr => ∃ j : Nat, j ≤ 32 ∧ i = .int .i64 j ∧ Blk wr w.heap.size (bva k) 22 ∧ Blk wr (w.heap.size + 1) (bva z) 22 ∧ Blk wr (w.heap.size + 1 + 1) (bva z) 22 ∧ Blk wr X (bva (layOn k (fA k) j)) 22 ∧ Blk wr Y (bva (layOn k (fB k) j)) 22 ∧ Below w.heap.size w wr) (fun i _ => 32 - (intOf i).toNat)
    case atStart => exact ⟨0, by omega, rfl, d1, d2, d3, dX, dY, dbb⟩
    case round =>
      clear d1 d2 d3 dX dY dbb
      obtain ⟨j, hj, rfl, d1, d2, d3, dX, dY, dbb⟩ := hrel
      by_cases hlt : j < 32
      · have j0 : (0 : Int) ≤ (j : Int) := by omega
        have j1 : (j : Int) < 32 := by omega
        obtain ⟨x, hx⟩ : ∃ x, x = k.getD j 0 := ⟨_, rfl⟩
        have c0 := d1.cellb (k := j) (by rw [HK.out]; omega)
        rw [← hx] at c0
        obtain ⟨u, hu⟩ : ∃ u, u = (layOn k (fA k) j).getD j 0 := ⟨_, rfl⟩
        have cX := dX.cellb (k := j) (by rw [layOn_length, HK.out]; omega)
        rw [← hu] at cX
        have fX := dX.free j
        obtain ⟨v, hv⟩ : ∃ v, v = (layOn k (fB k) j).getD j 0 := ⟨_, rfl⟩
        have cY := dY.cellb (k := j) (by rw [layOn_length, HK.out]; omega)
        rw [← hv] at cY
        have fY := dY.free j
        have Hx := Lib.hid hx
        have hYX : Y ≠ X := fun e => hXY e.symm
        have hwX : w.heap.size ≠ X := by omega
        have D1 := Lib.hid d1
        have D2 := Lib.hid d2
        have D3 := Lib.hid d3
        have DX := Lib.hid dX
        have DY := Lib.hid dY
        have DB := Lib.hid dbb
        clear hx hu hv d1 d2 d3 dX dY dbb
        go_wp2
        go_roundw
        case rel =>
          exact ⟨j + 1, by omega, by go_num, by exact (D1.out.other (by omega) _ _).other (by omega) _ _, by exact (D2.out.other (by omega) _ _).other (by omega) _ _, by exact (D3.out.other (by omega) _ _).other (by omega) _ _,
            by rw [layOn]; exact (DX.out.setb j _ (int_eq (by rw [fA, ← Hx.out]; exact val_a x j))).other hXY _ _, by rw [layOn]; exact (DY.out.other hYX _ _).setb j _ (int_eq (by rw [fB, ← Hx.out]; exact val_b x j)),
            by exact (DB.out.setCell (by simp; omega) _).setCell (by simp; omega) _⟩
        case measure => simp [intOf]; omega
      · obtain rfl : j = 32 := by omega
        rw [layOn_all k (fA k) 32 HK.out] at dX
        rw [layOn_all k (fB k) 32 HK.out] at dY
        obtain ⟨p, hp⟩ : ∃ p, p = leftK k := ⟨_, rfl⟩
        obtain ⟨q, hq⟩ : ∃ q, q = rightK k := ⟨_, rfl⟩
        have hS : Blk wr.drew (w.heap.size + 1) (bva z) 22 ∧ Blk wr.drew (w.heap.size + 1 + 1) (bva z) 22 ∧ Blk wr.drew X (bva p) 22 ∧ Blk wr.drew Y (bva q) 22 ∧ Below w.heap.size w wr.drew := ⟨d2, d3, by rw [hp]; exact dX, by rw [hq]; exact dY, dbb.drew⟩
        have HP3 : Hid (p.length = 32) := by show _ = _; rw [hp, leftK_length]
        have HQ3 : Hid (q.length = 32) := by show _ = _; rw [hq, rightK_length]
        have HP : Hid ((Try.prog.info? 22).map (·.size) = some (bva p).size) := by rw [bva_size, HP3.out]; exact info_b32
        have HQ : Hid ((Try.prog.info? 22).map (·.size) = some (bva q).size) := by rw [bva_size, HQ3.out]; exact info_b32
        have HPP := Lib.hid hp
        have HQQ := Lib.hid hq
        have HS := Lib.hid hS
        clear hp hq hS d1 d2 d3 dX dY dbb
        go_wp2_with fail
        refine wp_region_held_drew (S := fun w' => (∃ l : List UInt8, l.length = 32 ∧ Blk w' (w.heap.size + 1) (bva l) 22) ∧ (∃ l : List UInt8, l.length = 32 ∧ Blk w' (w.heap.size + 1 + 1) (bva l) 22) ∧ Blk w' X (bva p) 22 ∧ Blk w' Y (bva q) 22 ∧ Below w.heap.size w w') (by kernel_rfl) ⟨⟨z, Z3.out, HS.out.1⟩, ⟨z, Z3.out, HS.out.2.1⟩, HS.out.2.2⟩ (fun hh => ?_)
        have HH := Lib.hid hh
        clear hh
        refine wpAnyH_take (i := 0) (v := .agg (bva p)) rfl (by kernel_rfl) (by kernel_rfl) (by kernel_rfl) (fun _ _ _ h => h) (Or.inl ⟨by rfl, fun w' hw' => ?q0⟩) HH.out ?_
        case q0 => exact exec_load 22 (.tmp 4) rfl rfl hw'.2.2.1 Try.underlying22 rfl HP.out
        refine wpAnyH_take (i := 1) (v := .agg (bva q)) rfl (by kernel_rfl) (by kernel_rfl) (by kernel_rfl) (fun _ _ _ h => h) (Or.inl ⟨by rfl, fun w' hw' => ?q1⟩) HH.out ?_
        case q1 => exact exec_load 22 (.tmp 5) rfl rfl hw'.2.2.2.1 Try.underlying22 rfl HQ.out
        refine wpAnyH_ready (rs := [2]) (by kernel_rfl) (by simp) (AllReadyH.cons rfl (fun K hK => ?_) AllReadyH.nil)
        rw [if_pos (by rfl)]
        refine wp_store_row 22 (.tmp 2) (.tmp 34) rfl (w.heap.size + 1) (bva p) rfl rfl 22 (bva z) HS.out.1 HP.out (by simp only [bva_size, HP3.out, Z3.out]) (bva_one _) ?_
        have u1 : Blk (wr.drew.setRow (w.heap.size + 1) (bva p)) (w.heap.size + 1) (bva p) 22 := setRow_heap _ _ _ _ _ _ HS.out.1
        have u2 : Blk (wr.drew.setRow (w.heap.size + 1) (bva p)) (w.heap.size + 1 + 1) (bva z) 22 := blk_row HS.out.2.1 (by omega)
        have u3 : Blk (wr.drew.setRow (w.heap.size + 1) (bva p)) X (bva p) 22 := blk_row HS.out.2.2.1 (by omega)
        have u4 : Blk (wr.drew.setRow (w.heap.size + 1) (bva p)) Y (bva q) 22 := blk_row HS.out.2.2.2.1 (by omega)
        have ub : Below w.heap.size w (wr.drew.setRow (w.heap.size + 1) (bva p)) := below_setRow HS.out.2.2.2.2 (by omega) _
        refine hK.out _ _ ⟨⟨p, HP3.out, u1⟩, ⟨z, Z3.out, u2⟩, u3, u4, ub⟩ (fun _ => ?_)
        generalize hw6 : wr.drew.setRow _ _ = w6
        rw [hw6] at u1 u2 u3 u4 ub
        have U1 := Lib.hid u1
        have U2 := Lib.hid u2
        have U3 := Lib.hid u3
        have U4 := Lib.hid u4
        have UB := Lib.hid ub
        clear u1 u2 u3 u4 ub hw6 hK K HH HS
        refine wpAnyH_ready (rs := [3]) (by kernel_rfl) (by simp) (AllReadyH.cons rfl (fun K hK => ?_) AllReadyH.nil)
        rw [if_pos (by rfl)]
        refine wp_store_row 22 (.tmp 3) (.tmp 35) rfl (w.heap.size + 1 + 1) (bva q) rfl rfl 22 (bva z) U2.out HQ.out (by simp only [bva_size, HQ3.out, Z3.out]) (bva_one _) ?_
        have v1 : Blk (w6.setRow (w.heap.size + 1 + 1) (bva q)) (w.heap.size + 1) (bva p) 22 := blk_row U1.out (by omega)
        have v2 : Blk (w6.setRow (w.heap.size + 1 + 1) (bva q)) (w.heap.size + 1 + 1) (bva q) 22 := setRow_heap _ _ _ _ _ _ U2.out
        have v3 : Blk (w6.setRow (w.heap.size + 1 + 1) (bva q)) X (bva p) 22 := blk_row U3.out (by omega)
        have v4 : Blk (w6.setRow (w.heap.size + 1 + 1) (bva q)) Y (bva q) 22 := blk_row U4.out (by omega)
        have vb : Below w.heap.size w (w6.setRow (w.heap.size + 1 + 1) (bva q)) := below_setRow UB.out (by omega) _
        refine hK.out _ _ ⟨⟨p, HP3.out, v1⟩, ⟨q, HQ3.out, v2⟩, v3, v4, vb⟩ (fun _ => ?_)
        have V1 := Lib.hid v1
        have V2 := Lib.hid v2
        have VB := Lib.hid vb
        clear v1 v2 v3 v4 vb U1 U2 U3 U4 UB hK K
        refine wpAnyH_done (by kernel_rfl) ?_ _
        go_wp2
        exact bodyPost_ret (v := .tuple #[.agg (bva p), .agg (bva q)]) (results_cells2 Try.results29 _ _ (w.heap.size + 1) (w.heap.size + 1 + 1) 22 22 (bva p) (bva q) _ rfl rfl V1.out V2.out Try.underlying22 rfl HP.out HQ.out) rfl ⟨by rw [HPP.out, HQQ.out], VB.out⟩
end Go.Proofs.Ytkfcllcdkgnfbaa.Kt
