/-
  SealZero holds: of every key, bytes and list of rows the law returns true, and its arguments read as they did.
-/
import Derived.Test.YtdemfaolkmillaaSeAwake
import Derived.Test.YtdemfaolkmillaaShMid
import Derived.Test.YtdemfaolkmillaaReach
import Derived.Test.YtdemfaolkmillaaOpen
import Derived.Test.YtdemfaolkmillaaOpenA
import Derived.ProofKit
import Derived.OpenShut
import Derived.ShutString
import Derived.ChangeOld
namespace Go.Proofs.Ytdemfaolkmillaa
open Go.RowKit Go.ChangeShapes Go.WideShapes Go.ChangeAt
attribute [local go_sem ↓] Go.wp_at_zero Go.wp_at_succ
theorem two_rows_a (w : World) (Z c : Array Value) (A : TypeId) : Blk ((((w.drew.alloc (.cells Z A)).alloc (.cells Z A)).setRow w.heap.size c).setRow (w.heap.size + 1) c) w.heap.size c A ∧ Blk ((((w.drew.alloc (.cells Z A)).alloc (.cells Z A)).setRow w.heap.size c).setRow (w.heap.size + 1) c) (w.heap.size + 1) c A ∧ Below w.heap.size w ((((w.drew.alloc (.cells Z A)).alloc (.cells Z A)).setRow w.heap.size c).setRow (w.heap.size + 1) c) := by
  have h1 : (w.drew.alloc (.cells Z A)).heap.size = w.heap.size + 1 := by simp
  refine ⟨?_, ?_, below_setRow (below_setRow (((Below.refl w.heap.size w).drew.alloc (Nat.le_refl _) _).alloc (by rw [h1]; exact Nat.le_succ _) _) (Nat.le_refl _) _) (Nat.le_succ _) _⟩
  · unfold Blk; rw [setRow_other _ _ _ _ (by omega)]; exact setRow_heap _ _ _ _ _ _ (heap_alloc2_old w.drew _ _)
  · exact setRow_heap _ _ _ _ _ _ (by rw [setRow_other _ _ _ _ (by omega)]; exact heap_alloc2_new w.drew _ _)
theorem two_rows_b (w : World) (Z c : Array Value) (A : TypeId) : Blk ((((w.drew.alloc (.cells Z A)).alloc (.cells Z A)).setRow (w.heap.size + 1) c).setRow w.heap.size c) w.heap.size c A ∧ Blk ((((w.drew.alloc (.cells Z A)).alloc (.cells Z A)).setRow (w.heap.size + 1) c).setRow w.heap.size c) (w.heap.size + 1) c A ∧ Below w.heap.size w ((((w.drew.alloc (.cells Z A)).alloc (.cells Z A)).setRow (w.heap.size + 1) c).setRow w.heap.size c) := by
  have h1 : (w.drew.alloc (.cells Z A)).heap.size = w.heap.size + 1 := by simp
  refine ⟨?_, ?_, below_setRow (below_setRow (((Below.refl w.heap.size w).drew.alloc (Nat.le_refl _) _).alloc (by rw [h1]; exact Nat.le_succ _) _) (Nat.le_succ _) _) (Nat.le_refl _) _⟩
  · exact setRow_heap _ _ _ _ _ _ (by rw [setRow_other _ _ _ _ (by omega)]; exact heap_alloc2_old w.drew _ _)
  · unfold Blk; rw [setRow_other _ _ _ _ (by omega)]; exact setRow_heap _ _ _ _ _ _ (heap_alloc2_new w.drew _ _)
/-- One rest for all ways through a region. -/
theorem by_rest {R G : Nat → Nat → World → Prop} {p : Prop} (ways : (∀ X Y w', R X Y w' → G X Y w') → p) (rest : ∀ X Y w', R X Y w' → G X Y w') : p := ways rest
/-- The chain of a sum by rows, one behind the other. -/
def chainsL (s : List UInt8) : List (List UInt8) → List UInt8
  | [] => s
  | l :: ls => chainsL (chainL s l) ls
theorem chainsL_append (a b : List (List UInt8)) : ∀ s, chainsL s (a ++ b) = chainsL (chainsL s a) b := by
  induction a with
  | nil => intro s; rfl
  | cons l ls ih => intro s; exact ih _
theorem chainsL_take (s : List UInt8) {ls : List (List UInt8)} {k : Nat} (h : k < ls.length) : chainsL s (ls.take (k + 1)) = chainL (chainsL s (ls.take k)) ls[k] := by
  rw [List.take_add_one, List.getElem?_eq_getElem h, Option.toList_some, chainsL_append]; rfl
theorem chainsL_length {s : List UInt8} (hs : s.length = 16) : ∀ ls : List (List UInt8), (chainsL s ls).length = 16 := by
  intro ls
  induction ls generalizing s with
  | nil => exact hs
  | cons l ls ih => exact ih (chainL_length _ _)
theorem rf_cells {w : World} {g g' : Nat} {l : List UInt8} {t : TypeId} (h : Blk w g (bva l) t) (hne : g ≠ g') : Rf g' w (some ⟨g, 0, none⟩) (bv l) := fun k u hu =>
  ⟨_, rfl, hne, by rw [add_head, h.cell, bva, List.getElem?_toArray]; exact hu⟩
/-- A load of a whole row under a guard that holds. -/
theorem wpList_load_if {P : Program} {w : World} {ops : Array Oper} {rest : List Oper} {o : Oper} {a : Act} {Q : Exit → Act → World → Prop} (hgd : Region.wanted o (yielded ops a.tmps) = true) (ty : TypeId) (x : Operand) (ho : o.op = .load ty x) {g : Nat} {cs : Array Value} {A : TypeId} {d : TypeDesc}
    (hx : a.eval x = .pointer (some ⟨g, 0, none⟩)) (hg : Blk w g cs A) (hu : P.underlying ty = some d) (hd : (match d with | .struct _ | .array _ _ => true | _ => false) = true) (hi : (P.info? ty).map (·.size) = some cs.size)
    (h : wpList P ops Q rest (a.put o.dst (.agg cs)) w) : wpList P ops Q (o :: rest) a w := by
  unfold wpList
  rw [if_pos hgd]
  refine .inl ?_
  unfold Oper.wp
  rw [exec_load ty x ho hx hg hu hd hi]
  exact h
set_option maxHeartbeats 6400000 in
theorem sealZero_any (w : World) (k : List UInt8) (hk : k.length = 32) (A : Option Addr) (n c : Nat) (l : List UInt8) (hl : l.length = n) (hc : n ≤ c) (hm : c ≤ maxLen) (hr : Rd w.heap.size w A (bv l))
    (A' : Option Addr) (n' c' : Nat) (ls : List (List UInt8)) (hl' : ls.length = n') (_hc' : n' ≤ c') (_hm' : c' ≤ maxLen) (hr' : RdB w.heap.size w A' ls) :
    Calls Try.prog 10 #[.agg (bva k), .slice A n c, .slice A' n' c'] w (RetB (.bool true) w) := by
  have HL := Lib.hid hl
  have HR := Lib.hid hr
  have HL' := Lib.hid hl'
  have HR' := Lib.hid hr'
  have HK := Lib.hid hk
  have HI : Hid ((Try.prog.info? 30).map (·.size) = some (bva k).size) := by rw [bva_size, hk]; exact info33
  have hz : ∀ W, (zeroValue 34).run Try.prog W = .ok (.agg (bva zeroSum)) W := fun _ => by kernel_rfl
  have hz' : ∀ W, (zeroValue 30).run Try.prog W = .ok (.agg (bva (List.replicate 32 0))) W := fun _ => by kernel_rfl
  have b1 : Blk (w.alloc (.cells (bva k) 30)) w.heap.size (bva k) 30 := heap_alloc_new _ _
  have bb : Below w.heap.size w (w.alloc (.cells (bva k) 30)) := (Below.refl _ _).alloc (Nat.le_refl _) _
  have B1 := Lib.hid b1
  have BB := Lib.hid bb
  clear hl hr hl' hr' hk b1 bb
  by_cases hn : n ≤ 200 ∧ n' ≤ 10
  · obtain ⟨hn1, hn2⟩ := hn
    have hd1 : decide (200 < (n : Int)) = false := by simp; omega
    have hd2 : decide (10 < (n' : Int)) = false := by simp; omega
    obtain ⟨s0, hs0⟩ : ∃ s0, s0 = sealL k l := ⟨_, rfl⟩
    have HX0 := Lib.hid hs0
    have HX16 : Hid (s0.length = 16) := by show _ = _; rw [hs0]; exact sealL_length k l
    have HXI : Hid ((Try.prog.info? 34).map (·.size) = some (bva s0).size) := by rw [bva_size, HX16.out]; exact info_sum
    clear hs0
    go_enter Try.func10, Try.ntmps10
    go_wp2_with fail
    refine (seAwake_any _).mono ?_
    rintro e w1 ⟨rfl, bw⟩
    have C1 := Lib.hid (B1.out.below bw)
    have CB := Lib.hid (BB.out.trans (bw.mono BB.out.size))
    clear bw B1 BB
    go_wp2_with (refine wpList_load_row rfl 30 (.tmp 3) rfl w.heap.size rfl 30 (bva k) (0, 0) _ C1.out Try.underlying30 rfl HI.out ?_)
    refine (seal_any k HK.out A n c l _ HL.out hc hm ((HR.out.below CB.out).more CB.out.size) (by omega)).mono ?_
    rintro e w2 ⟨rfl, bw⟩
    rw [← HX0.out]
    have D1 := Lib.hid (C1.out.below bw)
    have DB := Lib.hid (CB.out.trans (bw.mono CB.out.size))
    clear bw C1 CB
    go_wp2_with (refine wpList_store_row rfl 34 (.tmp 7) (.tmp 26) rfl w2.heap.size (bva s0) rfl rfl 34 (bva zeroSum) (heap_alloc_new _ _) HXI.out (by rw [bva_size, bva_size, HX16.out]; rfl) (bva_one _) ?_
                 generalize hwz : World.setRow _ _ _ = wz
                 have d1 : Blk wz w.heap.size (bva k) 30 := by rw [← hwz]; exact blk_past D1.out
                 have d2 : Blk wz w2.heap.size (bva s0) 34 := by rw [← hwz]; exact blk_new _
                 have d3 : Below w.heap.size w wz := by rw [← hwz]; exact below_new DB.out DB.out.size
                 have hkp : w.heap.size < w2.heap.size := D1.out.lt
                 have hwlt : w2.heap.size < wz.heap.size := d2.lt
                 have GK := Lib.hid d1
                 have GP := Lib.hid d2
                 have GB0 := Lib.hid d3
                 clear d1 d2 d3 hwz D1 DB)
    apply by_rest (R := fun X Y w' => X ≠ Y ∧ w2.heap.size < X ∧ w2.heap.size < Y ∧ Blk w' X (bva s0) 34 ∧ Blk w' Y (bva s0) 34 ∧ Blk w' w2.heap.size (bva s0) 34 ∧ Blk w' w.heap.size (bva k) 30 ∧ Below w.heap.size w w')
    case ways =>
      intro hG
      refine wp_region_held_drew (S := fun w' => Blk w' w2.heap.size (bva s0) 34) (by kernel_rfl) (show Blk wz.drew w2.heap.size (bva s0) 34 from GP.out) (fun hh => ?_)
      have HH := Lib.hid hh
      clear hh
      refine wpAnyH_take (i := 0) (v := .agg (bva s0)) rfl (by kernel_rfl) (by kernel_rfl) (by kernel_rfl) (fun _ _ _ h => h) (Or.inl ⟨by rfl, fun w' hw' => ?y0⟩) HH.out ?_
      case y0 => exact exec_load 34 (.tmp 7) rfl rfl hw' Try.underlying34 rfl HXI.out
      refine wpAnyH_take (i := 1) (v := .agg (bva s0)) rfl (by kernel_rfl) (by kernel_rfl) (by kernel_rfl) (fun _ _ _ h => h) (Or.inl ⟨by rfl, fun w' hw' => ?y1⟩) HH.out ?_
      case y1 => exact exec_load 34 (.tmp 7) rfl rfl hw' Try.underlying34 rfl HXI.out
      try simp only [List.getElem_toArray, List.getElem_cons_succ, List.getElem_cons_zero, Act.put, List.setIfInBounds_toArray, List.set_cons_zero, List.set_cons_succ]
      refine wpAnyH_ready (rs := [2, 3]) (by kernel_rfl) (by simp) (AllReadyH.cons rfl (fun K hK => ?_) (AllReadyH.cons rfl (fun K hK => ?_) AllReadyH.nil))
      · skip
        go_simp
        refine hK.out _ _ (Blk.below (w := wz.drew) HH.out ((Below.refl _ _).alloc (Nat.le_refl _) _)) (fun hh => ?_)
        have HH' := Lib.hid hh
        clear hh hK K HH
        have HH := Lib.hid HH'.out
        clear HH'
        try simp only [List.getElem_toArray, List.getElem_cons_succ, List.getElem_cons_zero, Act.put, List.setIfInBounds_toArray, List.set_cons_zero, List.set_cons_succ]
        refine wpAnyH_ready (rs := [3]) (by kernel_rfl) (by simp) (AllReadyH.cons rfl (fun K hK => ?_) AllReadyH.nil)
        go_simp
        refine hK.out _ _ (Blk.below (w := World.alloc wz.drew (.cells (bva zeroSum) 34)) HH.out ((Below.refl _ _).alloc (Nat.le_refl _) _)) (fun hh => ?_)
        have HH' := Lib.hid hh
        clear hh hK K HH
        have HH := Lib.hid HH'.out
        clear HH'
        try simp only [List.getElem_toArray, List.getElem_cons_succ, List.getElem_cons_zero, Act.put, List.setIfInBounds_toArray, List.set_cons_zero, List.set_cons_succ]
        refine wpAnyH_ready (rs := [4]) (by kernel_rfl) (by simp) (AllReadyH.cons rfl (fun K hK => ?_) AllReadyH.nil)
        rw [if_pos (by rfl)]
        refine wp_store_row 34 (.tmp 8) (.tmp 27) rfl (wz.heap.size) (bva s0) rfl rfl 34 (bva zeroSum) (heap_alloc2_old _ _ _) HXI.out (by rw [bva_size, bva_size, HX16.out]; rfl) (bva_one _) ?_
        refine hK.out _ _ (by show Blk _ _ _ _; unfold Blk; rw [setRow_other _ _ _ _ (by omega)]; exact HH.out) (fun hh => ?_)
        have HH' := Lib.hid hh
        clear hh hK K HH
        have HH := Lib.hid HH'.out
        clear HH'
        try simp only [List.getElem_toArray, List.getElem_cons_succ, List.getElem_cons_zero, Act.put, List.setIfInBounds_toArray, List.set_cons_zero, List.set_cons_succ]
        refine wpAnyH_ready (rs := [5]) (by kernel_rfl) (by simp) (AllReadyH.cons rfl (fun K hK => ?_) AllReadyH.nil)
        rw [if_pos (by rfl)]
        refine wp_store_row 34 (.tmp 9) (.tmp 28) rfl (wz.heap.size + 1) (bva s0) rfl rfl 34 (bva zeroSum) (by rw [setRow_other _ _ _ _ (by omega)]; exact heap_alloc2_new _ _ _) HXI.out (by rw [bva_size, bva_size, HX16.out]; rfl) (bva_one _) ?_
        refine hK.out _ _ (by show Blk _ _ _ _; unfold Blk; rw [setRow_other _ _ _ _ (by omega)]; exact HH.out) (fun hh => ?_)
        have HH' := Lib.hid hh
        clear hh hK K HH
        have HH := Lib.hid HH'.out
        clear HH'
        refine wpAnyH_done (by kernel_rfl) ?_ _
        try simp only [List.getElem_toArray, List.getElem_cons_succ, List.getElem_cons_zero, Act.put, List.setIfInBounds_toArray, List.set_cons_zero, List.set_cons_succ]
        generalize hw4 : World.setRow _ _ _ = w4
        obtain ⟨f1, f2, f3⟩ : Blk w4 wz.heap.size (bva s0) 34 ∧ Blk w4 (wz.heap.size + 1) (bva s0) 34 ∧ Below wz.heap.size wz w4 := by rw [← hw4]; first | exact two_rows_a _ _ _ _ | exact two_rows_b _ _ _ _
        clear hw4 HH
        have f5 := GP.out.below f3; have f6 := GK.out.below f3; have f4 := GB0.out.trans (f3.mono GB0.out.size)
        have hb0 : w.heap.size ≤ wz.heap.size := GB0.out.size
        clear f3
        obtain ⟨X, hX⟩ : ∃ X, wz.heap.size = X := ⟨_, rfl⟩
        obtain ⟨Y, hY⟩ : ∃ Y, wz.heap.size + 1 = Y := ⟨_, rfl⟩
        have hXY : X ≠ Y := by omega
        have hYX : Y ≠ X := by omega
        have hXp : w2.heap.size < X := by omega
        have hYp : w2.heap.size < Y := by omega
        rw [hX] at f1
        rw [hY] at f2
        rw [hY]
        rw [hX]
        clear hX hY hb0
        have GX := Lib.hid f1
        have GY := Lib.hid f2
        have GB := Lib.hid f4
        clear f1 f2 f4
        exact hG X Y w4 ⟨hXY, hXp, hYp, GX.out, GY.out, f5, f6, GB.out⟩
      · skip
        go_simp
        refine hK.out _ _ (Blk.below (w := wz.drew) HH.out ((Below.refl _ _).alloc (Nat.le_refl _) _)) (fun hh => ?_)
        have HH' := Lib.hid hh
        clear hh hK K HH
        have HH := Lib.hid HH'.out
        clear HH'
        try simp only [List.getElem_toArray, List.getElem_cons_succ, List.getElem_cons_zero, Act.put, List.setIfInBounds_toArray, List.set_cons_zero, List.set_cons_succ]
        refine wpAnyH_ready (rs := [2]) (by kernel_rfl) (by simp) (AllReadyH.cons rfl (fun K hK => ?_) AllReadyH.nil)
        go_simp
        refine hK.out _ _ (Blk.below (w := World.alloc wz.drew (.cells (bva zeroSum) 34)) HH.out ((Below.refl _ _).alloc (Nat.le_refl _) _)) (fun hh => ?_)
        have HH' := Lib.hid hh
        clear hh hK K HH
        have HH := Lib.hid HH'.out
        clear HH'
        try simp only [List.getElem_toArray, List.getElem_cons_succ, List.getElem_cons_zero, Act.put, List.setIfInBounds_toArray, List.set_cons_zero, List.set_cons_succ]
        refine wpAnyH_ready (rs := [4]) (by kernel_rfl) (by simp) (AllReadyH.cons rfl (fun K hK => ?_) AllReadyH.nil)
        rw [if_pos (by rfl)]
        refine wp_store_row 34 (.tmp 8) (.tmp 27) rfl (wz.heap.size + 1) (bva s0) rfl rfl 34 (bva zeroSum) (heap_alloc2_new _ _ _) HXI.out (by rw [bva_size, bva_size, HX16.out]; rfl) (bva_one _) ?_
        refine hK.out _ _ (by show Blk _ _ _ _; unfold Blk; rw [setRow_other _ _ _ _ (by omega)]; exact HH.out) (fun hh => ?_)
        have HH' := Lib.hid hh
        clear hh hK K HH
        have HH := Lib.hid HH'.out
        clear HH'
        try simp only [List.getElem_toArray, List.getElem_cons_succ, List.getElem_cons_zero, Act.put, List.setIfInBounds_toArray, List.set_cons_zero, List.set_cons_succ]
        refine wpAnyH_ready (rs := [5]) (by kernel_rfl) (by simp) (AllReadyH.cons rfl (fun K hK => ?_) AllReadyH.nil)
        rw [if_pos (by rfl)]
        refine wp_store_row 34 (.tmp 9) (.tmp 28) rfl (wz.heap.size) (bva s0) rfl rfl 34 (bva zeroSum) (by rw [setRow_other _ _ _ _ (by omega)]; exact heap_alloc2_old _ _ _) HXI.out (by rw [bva_size, bva_size, HX16.out]; rfl) (bva_one _) ?_
        refine hK.out _ _ (by show Blk _ _ _ _; unfold Blk; rw [setRow_other _ _ _ _ (by omega)]; exact HH.out) (fun hh => ?_)
        have HH' := Lib.hid hh
        clear hh hK K HH
        have HH := Lib.hid HH'.out
        clear HH'
        refine wpAnyH_done (by kernel_rfl) ?_ _
        try simp only [List.getElem_toArray, List.getElem_cons_succ, List.getElem_cons_zero, Act.put, List.setIfInBounds_toArray, List.set_cons_zero, List.set_cons_succ]
        generalize hw4 : World.setRow _ _ _ = w4
        obtain ⟨f1, f2, f3⟩ : Blk w4 wz.heap.size (bva s0) 34 ∧ Blk w4 (wz.heap.size + 1) (bva s0) 34 ∧ Below wz.heap.size wz w4 := by rw [← hw4]; first | exact two_rows_a _ _ _ _ | exact two_rows_b _ _ _ _
        clear hw4 HH
        have f5 := GP.out.below f3; have f6 := GK.out.below f3; have f4 := GB0.out.trans (f3.mono GB0.out.size)
        have hb0 : w.heap.size ≤ wz.heap.size := GB0.out.size
        clear f3
        obtain ⟨X, hX⟩ : ∃ X, wz.heap.size + 1 = X := ⟨_, rfl⟩
        obtain ⟨Y, hY⟩ : ∃ Y, wz.heap.size = Y := ⟨_, rfl⟩
        have hXY : X ≠ Y := by omega
        have hYX : Y ≠ X := by omega
        have hXp : w2.heap.size < X := by omega
        have hYp : w2.heap.size < Y := by omega
        rw [hX] at f2
        rw [hY] at f1
        rw [hX]
        rw [hY]
        clear hX hY hb0
        have GX := Lib.hid f2
        have GY := Lib.hid f1
        have GB := Lib.hid f4
        clear f1 f2 f4
        exact hG X Y w4 ⟨hXY, hXp, hYp, GX.out, GY.out, f5, f6, GB.out⟩
    case rest =>
      intro X Y w4 ⟨hXY, hXp, hYp, hGX, hGY, hGP, hGK, hGB⟩
      have hYX : Y ≠ X := fun e => hXY e.symm
      have hPX : w2.heap.size ≠ X := by omega
      have hPY : w2.heap.size ≠ Y := by omega
      have hKX : w.heap.size ≠ X := by omega
      have hKY : w.heap.size ≠ Y := by omega
      have hXw : w.heap.size ≤ X := by omega
      have hYw : w.heap.size ≤ Y := by omega
      clear GK GP GB0
      have GX := Lib.hid hGX
      have GY := Lib.hid hGY
      have GP := Lib.hid hGP
      have GK := Lib.hid hGK
      have GB := Lib.hid hGB
      clear hGX hGY hGP hGK hGB
      go_wp2_with fail
      go_loopw [10] (fun i wr => ∃ j : Nat, j ≤ n' ∧ i = .int .i64 j ∧ Hid (∀ l ∈ ls.take j, l.length ≤ 100) ∧ Blk wr X (bva (chainsL (s0) (ls.take j))) 34 ∧ Blk wr Y (bva s0) 34 ∧ Blk wr w2.heap.size (bva s0) 34 ∧ Blk wr w.heap.size (bva k) 30 ∧ Below w.heap.size w wr) (fun i _ => n' - (intOf i).toNat)
      case atStart => exact ⟨0, Nat.zero_le _, rfl, (fun l hl => by simp at hl), GX.out, GY.out, GP.out, GK.out, GB.out⟩
      case round =>
        clear GX GY GP GK GB
        obtain ⟨j, hk, rfl, H100, RX, RGY, RGP, RGK, RB⟩ := hrel
        have GX := Lib.hid RX
        have GB := Lib.hid RB
        have GY := Lib.hid RGY
        have GP := Lib.hid RGP
        have GK := Lib.hid RGK
        clear RX RB RGY RGP RGK
        by_cases hlt : j < n'
        · have hkl : j < ls.length := by rw [HL'.out]; exact hlt
          obtain ⟨ad, A6, c6, rfl, hadb, hcell0, hnc6, hcm6, hrd⟩ := RdB.at_ HR'.out hkl
          obtain ⟨b, hb⟩ : ∃ b, b = ls[j] := ⟨_, rfl⟩
          rw [← hb] at hcell0 hnc6 hrd
          obtain ⟨n6, hn6⟩ : ∃ n6, b.length = n6 := ⟨_, rfl⟩
          rw [hn6] at hcell0 hnc6
          have HN6 := Lib.hid hn6
          have RD := Lib.hid hrd
          have hcell : wr.cell? (ad.add j) = some (.slice A6 n6 c6) := (GB.out.cell (by rw [add_block]; exact hadb)).trans hcell0
          have hcd : wr.drew.cell? (ad.add j) = some (.slice A6 n6 c6) := hcell
          have HKL := Lib.hid hkl
          have HB := Lib.hid hb
          have k0 : (0 : Int) ≤ (j : Int) := by omega
          have k1 : (j : Int) < (n' : Int) := by omega
          have hcm7 := hcm6
          unfold maxLen at hcm7
          clear hb hn6 hrd hcell0
          by_cases hbig : n6 ≤ 100
          · have hdb : decide (100 < (n6 : Int)) = false := by simp; omega
            obtain ⟨u, hu⟩ : ∃ u, u = chainsL (s0) (ls.take j) := ⟨_, rfl⟩
            have HU : Hid (u.length = 16) := by show _ = _; rw [hu]; exact chainsL_length HX16.out _
            have HUI : Hid ((Try.prog.info? 34).map (·.size) = some (bva u).size) := by rw [bva_size, HU.out]; exact info_sum
            obtain ⟨nu, hnu⟩ : ∃ nu, chainL u b = nu := ⟨_, rfl⟩
            have HNU := Lib.hid hnu
            have HN16 : Hid (nu.length = 16) := by show _ = _; rw [← hnu]; exact chainL_length _ _
            have HNI : Hid ((Try.prog.info? 34).map (·.size) = some (bva nu).size) := by rw [bva_size, HN16.out]; exact info_sum
            have HNX : Hid (chainsL (s0) (ls.take (j + 1)) = nu) := by show _ = _; rw [chainsL_take _ HKL.out, ← hu, ← HB.out]; exact hnu
            have H101 : Hid (∀ l ∈ ls.take (j + 1), l.length ≤ 100) := fun l hl => by
              rw [List.take_add_one, List.getElem?_eq_getElem HKL.out, Option.toList_some, List.mem_append, List.mem_singleton] at hl
              rcases hl with hl | hl
              · exact H100.out l hl
              · rw [hl, ← HB.out, HN6.out]; exact hbig
            rw [← hu] at GX
            clear hu hnu
            go_wp2_with fail
            refine wp_region_any (by kernel_rfl) ?_
            change wpAny _ _ _ _ _ _ _ (World.drew _)
            refine wpAny_take (i := 1) (v := ?vp1) rfl (by kernel_rfl) (by kernel_rfl) (by kernel_rfl) (fun _ _ _ h => h) (Or.inl ⟨by rfl, ?yp1⟩) ?_
            case yp1 => (intro w'; go_simp; try with_reducible rfl)
            refine wpAny_take (i := 2) (v := ?vp2) rfl (by kernel_rfl) (by kernel_rfl) (by kernel_rfl) (fun _ _ _ h => h) (Or.inl ⟨by rfl, ?yp2⟩) ?_
            case yp2 => (intro w'; go_simp; try with_reducible rfl)
            refine wpAny_take (i := 3) (v := ?vp3) rfl (by kernel_rfl) (by kernel_rfl) (by kernel_rfl) (fun _ _ _ h => h) (Or.inl ⟨by rfl, ?yp3⟩) ?_
            case yp3 => (intro w'; go_simp; try with_reducible rfl)
            refine wpAny_look (i := 0) (v := .agg (bva u)) rfl (by kernel_rfl) (by kernel_rfl) (by kernel_rfl) (fun _ _ _ h => h) (by rfl) ?yp0 ?_
            case yp0 => exact exec_load 34 (.tmp 8) rfl rfl (show Blk wr.drew X (bva u) 34 from GX.out) Try.underlying34 rfl HUI.out
            try simp only [List.getElem_toArray, List.getElem_cons_succ, List.getElem_cons_zero, Act.put, List.setIfInBounds_toArray, List.set_cons_zero, List.set_cons_succ]
            refine wpAny_look (i := 4) (v := .slice A6 n6 c6) rfl (by kernel_rfl) (by kernel_rfl) (by kernel_rfl) (fun _ _ _ h => h) (by rfl) ?yp4 ?_
            case yp4 => (go_simp; try with_reducible rfl)
            try simp only [List.getElem_toArray, List.getElem_cons_succ, List.getElem_cons_zero, Act.put, List.setIfInBounds_toArray, List.set_cons_zero, List.set_cons_succ]
            refine wpAny_ready (rs := [5]) (by kernel_rfl) (by simp) (AllReady.cons rfl (fun K hK => ?_) AllReady.nil)
            go_simp
            refine (chain_any u HU.out A6 n6 c6 b wr.drew HN6.out hnc6 hcm6 ((RD.out.below GB.out.drew).more GB.out.size) (by omega)).mono ?_
            rintro e w5 ⟨rfl, bw⟩
            rw [HNU.out]
            have KX := Lib.hid (Blk.below (w := wr.drew) GX.out bw)
            have KB := Lib.hid (GB.out.drew.trans (bw.mono GB.out.size))
            have KGY := Lib.hid (Blk.below (w := wr.drew) GY.out bw)
            have KGP := Lib.hid (Blk.below (w := wr.drew) GP.out bw)
            have KGK := Lib.hid (Blk.below (w := wr.drew) GK.out bw)
            clear bw GX GB GY GP GK
            go_simp
            refine hK _ _ ?_
            clear hK K
            try simp only [List.getElem_toArray, List.getElem_cons_succ, List.getElem_cons_zero, Act.put, List.setIfInBounds_toArray, List.set_cons_zero, List.set_cons_succ]
            refine wpAny_ready (rs := [6]) (by kernel_rfl) (by simp) (AllReady.cons rfl (fun K hK => ?_) AllReady.nil)
            rw [if_pos (by rfl)]
            refine wp_store_row 34 (.tmp 8) (.tmp 46) rfl X (bva nu) rfl rfl 34 (bva u) KX.out HNI.out (by rw [bva_size, bva_size, HN16.out, HU.out]) (bva_one _) ?_
            generalize hw9 : World.setRow _ _ _ = w9
            have q1 : Blk w9 X (bva nu) 34 := by rw [← hw9]; exact setRow_heap _ _ _ _ _ _ KX.out
            have q2 : Below w.heap.size w w9 := by rw [← hw9]; exact below_setRow KB.out hXw _
            have Q1 := Lib.hid q1
            have Q2 := Lib.hid q2
            have QGY : Hid (Blk w9 Y (bva s0) 34) := by show Blk _ _ _ _; rw [← hw9]; unfold Blk; rw [setRow_other _ _ _ _ hYX]; exact KGY.out
            have QGP : Hid (Blk w9 w2.heap.size (bva s0) 34) := by show Blk _ _ _ _; rw [← hw9]; unfold Blk; rw [setRow_other _ _ _ _ hPX]; exact KGP.out
            have QGK : Hid (Blk w9 w.heap.size (bva k) 30) := by show Blk _ _ _ _; rw [← hw9]; unfold Blk; rw [setRow_other _ _ _ _ hKX]; exact KGK.out
            clear q1 q2 hw9 KX KB KGY KGP KGK
            refine hK _ _ ?_
            clear hK K
            refine wpAny_done (by kernel_rfl) ?_ _
            try simp only [List.getElem_toArray, List.getElem_cons_succ, List.getElem_cons_zero, Act.put, List.setIfInBounds_toArray, List.set_cons_zero, List.set_cons_succ]
            go_wp2_with fail
            go_roundw
            case rel => exact ⟨j + 1, by omega, by go_num, H101, by rw [HNX.out]; exact Q1.out, QGY.out, QGP.out, QGK.out, Q2.out⟩
            case measure => (simp [intOf]; try omega)
          · have hdb : decide (100 < (n6 : Int)) = true := by simp; omega
            go_wp2_with fail
            go_ret
            exact ⟨rfl, GB.out⟩
        · obtain rfl : n' = j := by omega
          obtain ⟨t, ht⟩ : ∃ t, t = chainsL s0 (ls.take n') := ⟨_, rfl⟩
          have HT : Hid (chainsL s0 ls = t) := by show _ = _; rw [ht, List.take_of_length_le (by rw [HL'.out]; exact Nat.le_refl _)]
          have HT16 : Hid (t.length = 16) := by show _ = _; rw [ht]; exact chainsL_length HX16.out _
          have H1H : Hid (∀ l ∈ ls, l.length ≤ 100) := by
            have h := H100.out
            rw [List.take_of_length_le (by rw [HL'.out]; exact Nat.le_refl _)] at h
            exact h
          rw [← ht] at GX
          clear ht H100
          go_wp2_with fail
          refine (new_any' _).mono ?_
          rintro e wn ⟨gn, rfl, _, _, _, bw⟩
          have NX := Lib.hid (GX.out.below bw)
          have NY := Lib.hid (GY.out.below bw)
          have NP := Lib.hid (GP.out.below bw)
          have NK := Lib.hid (GK.out.below bw)
          have NB := Lib.hid (GB.out.trans (bw.mono GB.out.size))
          clear bw GX GY GP GK GB
          go_wp2_with fail
          go_loopw [12] (fun i wr => ∃ j : Nat, j ≤ n' ∧ i = .int .i64 j ∧ Blk wr Y (bva (chainsL s0 (ls.take j))) 34 ∧ Blk wr X (bva t) 34 ∧ Blk wr w2.heap.size (bva s0) 34 ∧ Blk wr w.heap.size (bva k) 30 ∧ Below w.heap.size w wr) (fun i _ => n' - (intOf i).toNat)
          case atStart => exact ⟨0, Nat.zero_le _, rfl, NY.out, NX.out, NP.out, NK.out, NB.out⟩
          case round =>
            clear NX NY NP NK NB
            obtain ⟨j, hk, rfl, RY, RX, RP, RK, RB⟩ := hrel
            have GX := Lib.hid RX
            have GY := Lib.hid RY
            have GP := Lib.hid RP
            have GK := Lib.hid RK
            have GB := Lib.hid RB
            clear RX RY RP RK RB
            by_cases hlt : j < n'
            · have hkl : j < ls.length := by rw [HL'.out]; exact hlt
              obtain ⟨ad, A6, c6, rfl, hadb, hcell0, hnc6, hcm6, hrd⟩ := RdB.at_ HR'.out hkl
              obtain ⟨b, hb⟩ : ∃ b, b = ls[j] := ⟨_, rfl⟩
              rw [← hb] at hcell0 hnc6 hrd
              obtain ⟨n6, hn6⟩ : ∃ n6, b.length = n6 := ⟨_, rfl⟩
              rw [hn6] at hcell0 hnc6
              have HN6 := Lib.hid hn6
              have RD := Lib.hid hrd
              have hcell : wr.cell? (ad.add j) = some (.slice A6 n6 c6) := (GB.out.cell (by rw [add_block]; exact hadb)).trans hcell0
              have hcd : wr.drew.cell? (ad.add j) = some (.slice A6 n6 c6) := hcell
              have HKL := Lib.hid hkl
              have HB := Lib.hid hb
              have k0 : (0 : Int) ≤ (j : Int) := by omega
              have k1 : (j : Int) < (n' : Int) := by omega
              have hcm7 := hcm6
              unfold maxLen at hcm7
              clear hb hn6 hrd hcell0
              have hbig : n6 ≤ 100 := by rw [← HN6.out, HB.out]; exact H1H.out _ (List.getElem_mem hkl)
              obtain ⟨u, hu⟩ : ∃ u, u = chainsL s0 (ls.take j) := ⟨_, rfl⟩
              have HU : Hid (u.length = 16) := by show _ = _; rw [hu]; exact chainsL_length HX16.out _
              obtain ⟨nu, hnu⟩ : ∃ nu, chainL u b = nu := ⟨_, rfl⟩
              have HN16 : Hid (nu.length = 16) := by show _ = _; rw [← hnu]; exact chainL_length _ _
              have HNX : Hid (chainsL s0 (ls.take (j + 1)) = nu) := by show _ = _; rw [chainsL_take _ HKL.out, ← hu, ← HB.out]; exact hnu
              have HNU := Lib.hid hnu
              rw [← hu] at GY
              clear hu hnu
              go_wp2_with fail
              refine (new_any' _).mono ?_
              rintro e wn ⟨g, rfl, hg1, _, hG, bw⟩
              have hgx : X ≠ g := by have := GX.out.lt; omega
              have hgy : Y ≠ g := by have := GY.out.lt; omega
              have hgp : w2.heap.size ≠ g := by have := GP.out.lt; omega
              have hgk : w.heap.size ≠ g := by have := GK.out.lt; omega
              have hgw : w.heap.size ≤ g := by have := GK.out.lt; omega
              have hcn : wn.cell? (ad.add j) = some (.slice A6 n6 c6) := (bw.cell (by rw [add_block]; have := GB.out.size; omega)).trans hcell
              have NX := Lib.hid (GX.out.below bw)
              have NY := Lib.hid (GY.out.below bw)
              have NP := Lib.hid (GP.out.below bw)
              have NK := Lib.hid (GK.out.below bw)
              have NB := Lib.hid (GB.out.trans (bw.mono GB.out.size))
              have NG := Lib.hid hG
              clear bw GX GY GP GK GB hG hg1 hcell hcd
              go_wp2_with fail
              refine (write_any g [] u (some ⟨Y, 0, none⟩) 16 16 _ HU.out (by omega) (by unfold maxLen; omega) NG.out (rf_cells NY.out hgy) (by show 0 + 16 ≤ _; omega)).mono ?_
              rintro e wo ⟨rfl, hG, gr⟩
              have hco : wo.cell? (ad.add j) = some (.slice A6 n6 c6) := gr.cell hcn (by rw [add_block]; intro e; injection e with e; omega)
              have OX := Lib.hid (blk_far NX.out gr hgx)
              have OY := Lib.hid (blk_far NY.out gr hgy)
              have OP := Lib.hid (blk_far NP.out gr hgp)
              have OK := Lib.hid (blk_far NK.out gr hgk)
              have OB := Lib.hid (NB.out.grown gr NB.out.size (fun k hk => by injection hk with hk; omega))
              have OG := Lib.hid (show HashIs wo g u from hG)
              clear hG gr NX NY NP NK NB NG hcn
              go_wp2_with fail
              refine (write_any g u b A6 n6 c6 _ HN6.out hnc6 hcm6 OG.out (Rf.of_rd (RD.out.below OB.out) hgw) (by rw [HU.out]; omega)).mono ?_
              rintro e wp ⟨rfl, hG, gr⟩
              have PX := Lib.hid (blk_far OX.out gr hgx)
              have PY := Lib.hid (blk_far OY.out gr hgy)
              have PP := Lib.hid (blk_far OP.out gr hgp)
              have PK := Lib.hid (blk_far OK.out gr hgk)
              have PB := Lib.hid (OB.out.grown gr OB.out.size (fun k hk => by injection hk with hk; omega))
              have PG := Lib.hid hG
              clear hG gr OX OY OP OK OB OG hco
              go_wp2_with fail
              refine (hsum_any g (u ++ b) _ PG.out (by rw [List.length_append, HU.out, HN6.out]; omega)).mono ?_
              rintro e wq ⟨rfl, bw⟩
              obtain ⟨m, hm0⟩ : ∃ m, shaL (u ++ b) = m := ⟨_, rfl⟩
              have HM : Hid (m.take 16 = nu) := by show _ = _; rw [← hm0]; exact HNU.out
              have HM32 : Hid (m.length = 32) := by show _ = _; rw [← hm0]; exact shaL_length _
              have HMI : Hid ((Try.prog.info? 30).map (·.size) = some (bva m).size) := by rw [bva_size, HM32.out]; exact info33
              rw [hm0]
              have QX := Lib.hid (PX.out.below bw)
              have QY := Lib.hid (PY.out.below bw)
              have QP := Lib.hid (PP.out.below bw)
              have QK := Lib.hid (PK.out.below bw)
              have QB := Lib.hid (PB.out.trans (bw.mono PB.out.size))
              clear hm0 bw PX PY PP PK PB PG
              go_wp2_with (refine wpList_store_row rfl 30 (.tmp 13) (.tmp 65) rfl wq.heap.size (bva m) rfl rfl 30 (bva (List.replicate 32 0)) (heap_alloc_new _ _) HMI.out (by rw [bva_size, bva_size, HM32.out]; rfl) (bva_one _) ?_
                           generalize hws : World.setRow _ _ _ = ws
                           have d1 : Blk ws X (bva t) 34 := by rw [← hws]; exact blk_past QX.out
                           have d2 : Blk ws Y (bva u) 34 := by rw [← hws]; exact blk_past QY.out
                           have d3 : Blk ws w2.heap.size (bva s0) 34 := by rw [← hws]; exact blk_past QP.out
                           have d4 : Blk ws w.heap.size (bva k) 30 := by rw [← hws]; exact blk_past QK.out
                           have d5 : Blk ws wq.heap.size (bva m) 30 := by rw [← hws]; exact blk_new _
                           have d6 : Below w.heap.size w ws := by rw [← hws]; exact below_new QB.out QB.out.size
                           have SX := Lib.hid d1
                           have SY := Lib.hid d2
                           have SP := Lib.hid d3
                           have SK := Lib.hid d4
                           have SM := Lib.hid d5
                           have SB := Lib.hid d6
                           clear d1 d2 d3 d4 d5 d6 hws QX QY QP QK QB)
              refine wp_region_any (by kernel_rfl) ?_
              change wpAny _ _ _ _ _ _ _ (World.drew _)
              refine wpAny_take (i := 0) (v := ?w0) rfl (by kernel_rfl) (by kernel_rfl) (by kernel_rfl) (fun _ _ _ h => h) (Or.inl ⟨by rfl, ?z0⟩) ?_
              case z0 => (intro w'; go_simp; try with_reducible rfl)
              refine wpAny_take (i := 1) (v := ?w1) rfl (by kernel_rfl) (by kernel_rfl) (by kernel_rfl) (fun _ _ _ h => h) (Or.inl ⟨by rfl, ?z1⟩) ?_
              case z1 => (intro w'; go_simp; try with_reducible rfl)
              try simp only [List.getElem_toArray, List.getElem_cons_succ, List.getElem_cons_zero, Act.put, List.setIfInBounds_toArray, List.set_cons_zero, List.set_cons_succ]
              refine wpAny_ready (rs := [2]) (by kernel_rfl) (by simp) (AllReady.cons rfl (fun K hK => ?_) AllReady.nil)
              refine step_copy_set rfl (.tmp 66) (.tmp 67) 28 28 rfl 5 Try.underlying28 info5 ⟨wq.heap.size, 0, none⟩ Y 0 16 16 32 32 rfl rfl (bv u) 34 ?c3 (bv nu) ?c1 ?c4 ?c2 (bv_one _) 16 (by rw [bv_length, HN16.out]) ?_
              case c3 => exact SY.out
              case c4 => exact fun j v hv => by rw [add_head]; exact (SM.out.cell j).trans (by rw [bva, List.getElem?_toArray]; exact bv_take_get (m := 16) (by rw [HM.out]; exact hv))
              case c1 => rw [bv_length, HN16.out]; rfl
              case c2 => rw [bv_length, bv_length, HN16.out, HU.out]; exact Nat.le_refl _
              generalize hwt : World.setRow _ _ _ = wt
              have d1 : Blk wt X (bva t) 34 := by rw [← hwt]; unfold Blk; rw [setRow_other _ _ _ _ hXY]; exact SX.out
              have d2 : Blk wt Y (bva nu) 34 := by rw [← hwt, splice_whole _ _ (by rw [bv_length, bv_length, HN16.out, HU.out])]; exact setRow_heap _ _ _ _ _ _ SY.out
              have d3 : Blk wt w2.heap.size (bva s0) 34 := by rw [← hwt]; unfold Blk; rw [setRow_other _ _ _ _ hPY]; exact SP.out
              have d4 : Blk wt w.heap.size (bva k) 30 := by rw [← hwt]; unfold Blk; rw [setRow_other _ _ _ _ hKY]; exact SK.out
              have d5 : Below w.heap.size w wt := by rw [← hwt]; exact below_setRow SB.out.drew hYw _
              have TX := Lib.hid d1
              have TY := Lib.hid d2
              have TP := Lib.hid d3
              have TK := Lib.hid d4
              have TB := Lib.hid d5
              clear d1 d2 d3 d4 d5 hwt SX SY SP SK SM SB
              refine hK _ _ ?_
              clear hK K
              refine wpAny_done (by kernel_rfl) ?_ _
              try simp only [List.getElem_toArray, List.getElem_cons_succ, List.getElem_cons_zero, Act.put, List.setIfInBounds_toArray, List.set_cons_zero, List.set_cons_succ]
              go_wp2_with fail
              go_roundw
              case rel => exact ⟨j + 1, by omega, by go_num, by rw [HNX.out]; exact TY.out, TX.out, TP.out, TK.out, TB.out⟩
              case measure => (simp [intOf]; try omega)
            · obtain rfl : n' = j := by omega
              have RY' : Blk wr Y (bva t) 34 := by
                have h := GY.out
                rw [List.take_of_length_le (by rw [HL'.out]; exact Nat.le_refl _), HT.out] at h
                exact h
              have HTI : Hid ((Try.prog.info? 34).map (·.size) = some (bva t).size) := by rw [bva_size, HT16.out]; exact info_sum
              have heq := eq_sum t HT16.out
              have GY' := Lib.hid RY'
              clear RY' GY
              go_wp2_with (first
                | (refine wpList_load_row rfl 34 (.tmp 8) rfl X rfl 34 (bva t) (0, 0) _ GX.out Try.underlying34 rfl HTI.out ?_)
                | (refine wpList_load_row rfl 34 (.tmp 9) rfl Y rfl 34 (bva t) (0, 0) _ GY'.out Try.underlying34 rfl HTI.out ?_)
                | (refine wpList_load_if (by rfl) 30 (.tmp 3) rfl (g := w.heap.size) (cs := bva k) (A := 30) rfl GK.out Try.underlying30 rfl HI.out ?_)
                | (refine wpList_load_if (by rfl) 34 (.tmp 7) rfl (g := w2.heap.size) (cs := bva s0) (A := 34) rfl GP.out Try.underlying34 rfl HXI.out ?_))
              refine (right_any k s0 HK.out HX16.out A n c l _ HL.out hc hm ((HR.out.below GB.out).more GB.out.size) (by omega)).mono ?_
              rintro e we ⟨rfl, bw⟩
              rw [← HX0.out, decide_eq_true (rfl : s0 = s0)]
              have EB := Lib.hid (GB.out.trans (bw.mono GB.out.size))
              clear bw GB
              go_wp2_with fail
              go_ret
              exact ⟨rfl, EB.out⟩

  · go_enter Try.func10, Try.ntmps10
    go_wp2_with fail
    refine (seAwake_any _).mono ?_
    rintro e w1 ⟨rfl, bw⟩
    have CB := Lib.hid (BB.out.trans (bw.mono BB.out.size))
    clear bw B1 BB
    by_cases h1 : n ≤ 200
    · have hd1 : decide (200 < (n : Int)) = false := by simp; omega
      have hd2 : decide (10 < (n' : Int)) = true := by simp; omega
      go_wp2_with fail
      go_ret
      exact ⟨rfl, CB.out⟩
    · have hd1 : decide (200 < (n : Int)) = true := by simp; omega
      go_wp2_with fail
      go_ret
      exact ⟨rfl, CB.out⟩
theorem sealZero_own : ownKnob Try.prog.godebug = none := by kernel_rfl
theorem sealZero_laid : laidOutB Try.prog = true := by kernel_rfl

set_option maxRecDepth 100000 in
theorem sealZero_lifted (os : Os) (started : os.Started) (H : Type) (enc : TypeId × Value → H) :
    ReturnsInHanded {} Try.checked os 10 .any (Rows.sealZeroSpec.pre6 enc Try.prog Try.f10 Rows.sealZeroRow.domain false) (Rows.sealZeroSpec.post enc Try.prog Try.f10 false true false false) := by
  refine returnsInHanded_of_change (C := Try.checked) sealZero_own started (by kernel_rfl) Try.func10
    (ChangeSpec.witness6 (enc := enc) (C := Try.checked) false ⟨#[], #[.agg #[.int .u8 0, .int .u8 0, .int .u8 0, .int .u8 0, .int .u8 0, .int .u8 0, .int .u8 0, .int .u8 0, .int .u8 0, .int .u8 0, .int .u8 0, .int .u8 0, .int .u8 0, .int .u8 0, .int .u8 0, .int .u8 0, .int .u8 0, .int .u8 0, .int .u8 0, .int .u8 0, .int .u8 0, .int .u8 0, .int .u8 0, .int .u8 0, .int .u8 0, .int .u8 0, .int .u8 0, .int .u8 0, .int .u8 0, .int .u8 0, .int .u8 0, .int .u8 0], .slice none 0 0, .slice none 0 0], []⟩ 8 (by kernel_rfl) (by kernel_rfl) (by kernel_rfl) (by kernel_rfl)) ?_
  intro W base args ds gs before hval0 hW _ _
  have hval : ∀ (j : Nat) t v, Try.f10.params[j]? = some t → args[j]? = some v → Value.okWide Try.prog W .any base t v := hval0
  have hW' := hW
  obtain ⟨p, q, hA0, hV, rfl, hfz, hnd⟩ := hW
  have hA : DataW.TrodAll enc Try.prog W 0 (fun _ => true) true Try.f10.params.toList args.toList ds p := hA0
  rw [Try.params10] at hA hval
  obtain ⟨v0, vs0, d0, ds0, p0, q0, hargs, rfl, rfl, h0, r0⟩ := trodAll_cons hA
  obtain ⟨v1, vs1, d1, ds1, p1, q1, rfl, rfl, rfl, h1, r1⟩ := trodAll_cons r0
  obtain ⟨v2, vs2, d2, ds2, p2, q2, rfl, rfl, rfl, h2, r2⟩ := trodAll_cons r1
  obtain ⟨rfl, rfl, rfl⟩ := trodAll_nil r2
  obtain rfl : args = #[v0, v1, v2] := by cases args; simp_all
  obtain ⟨rfl, rfl⟩ := trodVars_none hV
  have lt0 : ∀ x ∈ p0, x.block < W.heap.size := by obtain ⟨m, hm⟩ := h0; exact DataW.trod_lt m _ _ _ hm
  obtain ⟨l0, hl0, rfl⟩ := open_u8s Try.underlying30 Try.underlying5 (by kernel_rfl) (by kernel_rfl) (hval 0 30 v0 rfl rfl) h0
  obtain ⟨a1, n1, c1, rfl⟩ := okWide_slice Try.underlying28 (hval 1 28 v1 rfl rfl)
  have lt1 : ∀ x ∈ p1, x.block < W.heap.size := by obtain ⟨m, hm⟩ := h1; exact DataW.trod_lt m _ _ _ hm
  obtain ⟨l1, hl1, hc1, hm1, hr1⟩ := open_bytes Try.underlying28 Try.underlying5 (by kernel_rfl) h1
  obtain ⟨a2, n2, c2, rfl⟩ := okWide_slice Try.underlying40 (hval 2 40 v2 rfl rfl)
  have lt2 : ∀ x ∈ p2, x.block < W.heap.size := by obtain ⟨m, hm⟩ := h2; exact DataW.trod_lt m _ _ _ hm
  obtain ⟨l2, hl2, hc2, hm2, hr2⟩ := open_rows Try.underlying40 Try.underlying28 Try.underlying5 (by kernel_rfl) (by kernel_rfl) h2
  clear hA0 hval0
  refine (sealZero_any W l0 hl0 a1 n1 c1 l1 hl1 hc1 hm1 hr1 a2 n2 c2 l2 hl2 hc2 hm2 hr2).mono fun e W' ⟨he, bel⟩ => ?_
  subst he
  exact ⟨_, rfl, _, _, _, [], _, [], hW', trodAll_mk1 (shut_bool Try.underlying4 _), (trodAll_cons_mk (Below.trod sealZero_laid (by kernel_rfl) (of_decide_eq_true (by kernel_rfl)) h0 bel lt0) (trodAll_cons_mk (Below.trod sealZero_laid (by kernel_rfl) (of_decide_eq_true (by kernel_rfl)) h1 bel lt1) (trodAll_cons_mk (Below.trod sealZero_laid (by kernel_rfl) (of_decide_eq_true (by kernel_rfl)) h2 bel lt2) trodAll_mk0))), rfl, bel.frame _, fun h => by cases h⟩

theorem sealZero_holds : Rows.SealZeroSaid :=
  OpenClaim.holds_of_wide 10 Try.f10 rfl rfl rfl rfl rfl rfl rfl ⟨rfl, rfl, rfl, rfl, rfl⟩ rfl rfl rfl rfl rfl (by kernel_rfl) Try.func10 (by kernel_rfl)
    (of_decide_eq_true (by kernel_rfl)) (by unfold Func.isWrapper; rw [if_neg (of_decide_eq_false (by kernel_rfl))]; exact ⟨rfl, rfl⟩)
    (fun os started H enc _ => sealZero_lifted os started H enc)

#print axioms sealZero_holds

end Go.Proofs.Ytdemfaolkmillaa
