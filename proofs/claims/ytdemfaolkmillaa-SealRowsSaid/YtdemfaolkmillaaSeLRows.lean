/-
  SealRows holds: of every sum and every two lists of rows the law returns true, and its arguments read as they did.
-/
import Derived.Test.YtdemfaolkmillaaSeAwake
import Derived.Test.YtdemfaolkmillaaOld
import Derived.Test.YtdemfaolkmillaaShMid
import Derived.Test.YtdemfaolkmillaaReach
import Derived.Test.YtdemfaolkmillaaOpen
import Derived.Test.YtdemfaolkmillaaOpenA
import Derived.ProofKit
import Derived.OpenShut
import Derived.ShutString
import Derived.ChangeOld
namespace Go.Proofs.Ytdemfaolkmillaa
open Go.RowKit Go.ChangeShapes Go.WideShapes Go.ChangeAt
attribute [local go_sem ↓] Go.wp_at_zero Go.wp_at_succ
theorem two_rows_a (w : World) (Z c : Array Value) (A : TypeId) : Blk ((((w.drew.alloc (.cells Z A)).alloc (.cells Z A)).setRow w.heap.size c).setRow (w.heap.size + 1) c) w.heap.size c A ∧ Blk ((((w.drew.alloc (.cells Z A)).alloc (.cells Z A)).setRow w.heap.size c).setRow (w.heap.size + 1) c) (w.heap.size + 1) c A ∧ Below w.heap.size w ((((w.drew.alloc (.cells Z A)).alloc (.cells Z A)).setRow w.heap.size c).setRow (w.heap.size + 1) c) := by
  have h1 : (w.drew.alloc (.cells Z A)).heap.size = w.heap.size + 1 := by simp
  refine ⟨?_, ?_, below_setRow (below_setRow (((Below.refl w.heap.size w).drew.alloc (Nat.le_refl _) _).alloc (by rw [h1]; exact Nat.le_succ _) _) (Nat.le_refl _) _) (Nat.le_succ _) _⟩
  · unfold Blk; rw [setRow_other _ _ _ _ (by omega)]; exact setRow_heap _ _ _ _ _ _ (heap_alloc2_old w.drew _ _)
  · exact setRow_heap _ _ _ _ _ _ (by rw [setRow_other _ _ _ _ (by omega)]; exact heap_alloc2_new w.drew _ _)
theorem two_rows_b (w : World) (Z c : Array Value) (A : TypeId) : Blk ((((w.drew.alloc (.cells Z A)).alloc (.cells Z A)).setRow (w.heap.size + 1) c).setRow w.heap.size c) w.heap.size c A ∧ Blk ((((w.drew.alloc (.cells Z A)).alloc (.cells Z A)).setRow (w.heap.size + 1) c).setRow w.heap.size c) (w.heap.size + 1) c A ∧ Below w.heap.size w ((((w.drew.alloc (.cells Z A)).alloc (.cells Z A)).setRow (w.heap.size + 1) c).setRow w.heap.size c) := by
  have h1 : (w.drew.alloc (.cells Z A)).heap.size = w.heap.size + 1 := by simp
  refine ⟨?_, ?_, below_setRow (below_setRow (((Below.refl w.heap.size w).drew.alloc (Nat.le_refl _) _).alloc (by rw [h1]; exact Nat.le_succ _) _) (Nat.le_succ _) _) (Nat.le_refl _) _⟩
  · exact setRow_heap _ _ _ _ _ _ (by rw [setRow_other _ _ _ _ (by omega)]; exact heap_alloc2_old w.drew _ _)
  · unfold Blk; rw [setRow_other _ _ _ _ (by omega)]; exact setRow_heap _ _ _ _ _ _ (heap_alloc2_new w.drew _ _)
/-- One rest for all ways through a region. -/
theorem by_rest {R G : Nat → Nat → World → Prop} {p : Prop} (ways : (∀ X Y w', R X Y w' → G X Y w') → p) (rest : ∀ X Y w', R X Y w' → G X Y w') : p := ways rest
/-- The chain of a sum by rows, one behind the other. -/
def chainsL (s : List UInt8) : List (List UInt8) → List UInt8
  | [] => s
  | l :: ls => chainsL (chainL s l) ls
theorem chainsL_append (a b : List (List UInt8)) : ∀ s, chainsL s (a ++ b) = chainsL (chainsL s a) b := by
  induction a with
  | nil => intro s; rfl
  | cons l ls ih => intro s; exact ih _
theorem chainsL_take (s : List UInt8) {ls : List (List UInt8)} {k : Nat} (h : k < ls.length) : chainsL s (ls.take (k + 1)) = chainL (chainsL s (ls.take k)) ls[k] := by
  rw [List.take_add_one, List.getElem?_eq_getElem h, Option.toList_some, chainsL_append]; rfl
theorem chainsL_length {s : List UInt8} (hs : s.length = 16) : ∀ ls : List (List UInt8), (chainsL s ls).length = 16 := by
  intro ls
  induction ls generalizing s with
  | nil => exact hs
  | cons l ls ih => exact ih (chainL_length _ _)
theorem bytesElt : Elt Try.prog 28 5 (.int .u8 0) 1 := ⟨Try.underlying28, by kernel_rfl, rfl, by omega⟩
theorem rowsElt : Elt Try.prog 40 28 (.slice none 0 0) 24 := ⟨Try.underlying40, by kernel_rfl, rfl, by omega⟩
theorem rows_one {B : Nat} {w : World} {vs : List Value} {ls : List (List UInt8)} (hl : vs.length = ls.length) (h : ∀ (k : Nat) v l, vs[k]? = some v → ls[k]? = some l → IsB B w v l) : ∀ v ∈ vs, v.oneCell' = true := fun v hv => by
  obtain ⟨k, hk, rfl⟩ := List.mem_iff_getElem.1 hv
  obtain ⟨A, c, e, _⟩ := h k _ _ (List.getElem?_eq_getElem hk) (List.getElem?_eq_getElem (by omega))
  rw [e]; rfl
theorem rows_both {B : Nat} {w : World} {vs vs' : List Value} {ls ls' : List (List UInt8)} (hl : vs.length = ls.length) (h : ∀ (k : Nat) v l, vs[k]? = some v → ls[k]? = some l → IsB B w v l) (h' : ∀ (k : Nat) v l, vs'[k]? = some v → ls'[k]? = some l → IsB B w v l) :
    ∀ (k : Nat) v l, (vs ++ vs')[k]? = some v → (ls ++ ls')[k]? = some l → IsB B w v l := fun k v l hv hl' => by
  by_cases hk : k < vs.length
  · rw [List.getElem?_append_left hk] at hv
    rw [List.getElem?_append_left (by omega)] at hl'
    exact h k v l hv hl'
  · rw [List.getElem?_append_right (by omega)] at hv
    rw [List.getElem?_append_right (by omega), ← hl] at hl'
    exact h' _ v l hv hl'
theorem blk_apart {w w' : World} {g : Nat} {cs : Array Value} {A : TypeId} {row : Option Nat} (h : Blk w g cs A) (hg : w.grownBy w' row) (hne : some g ≠ row) : Blk w' g cs A := by
  unfold Blk; rw [hg.block g h.lt hne]; exact h
set_option maxHeartbeats 6400000 in
theorem sealRows_any (w : World) (s : List UInt8) (hs : s.length = 16) (A : Option Addr) (n c : Nat) (ls : List (List UInt8)) (hl : ls.length = n) (_hc : n ≤ c) (hm : c ≤ maxLen) (hr : RdB w.heap.size w A ls)
    (A' : Option Addr) (n' c' : Nat) (ls' : List (List UInt8)) (hl' : ls'.length = n') (_hc' : n' ≤ c') (hm' : c' ≤ maxLen) (hr' : RdB w.heap.size w A' ls') :
    Calls Try.prog 8 #[.agg (bva s), .slice A n c, .slice A' n' c'] w (RetB (.bool true) w) := by
  have HL := Lib.hid hl
  have HR := Lib.hid hr
  have HL' := Lib.hid hl'
  have HR' := Lib.hid hr'
  have HS := Lib.hid hs
  have HI : Hid ((Try.prog.info? 34).map (·.size) = some (bva s).size) := by rw [bva_size, hs]; exact info_sum
  have hz : ∀ W, (zeroValue 34).run Try.prog W = .ok (.agg (bva zeroSum)) W := fun _ => by kernel_rfl
  have b1 : Blk (w.alloc (.cells (bva s) 34)) w.heap.size (bva s) 34 := heap_alloc_new _ _
  have bb : Below w.heap.size w (w.alloc (.cells (bva s) 34)) := (Below.refl _ _).alloc (Nat.le_refl _) _
  have B1 := Lib.hid b1
  have BB := Lib.hid bb
  clear hl hr hl' hr' hs b1 bb hm hm'
  by_cases hn : n ≤ 20 ∧ n' ≤ 20
  · obtain ⟨hn1, hn2⟩ := hn
    have hd1 : decide (20 < (n : Int)) = false := by simp; omega
    have hd2 : decide (20 < (n' : Int)) = false := by simp; omega
    go_enter Try.func8, Try.ntmps8
    go_wp2_with fail
    refine (seAwake_any _).mono ?_
    rintro e w1 ⟨rfl, bw⟩
    have C1 := Lib.hid (B1.out.below bw)
    have CB := Lib.hid (BB.out.trans (bw.mono BB.out.size))
    have hwlt := C1.out.lt
    clear bw B1 BB
    go_wp2_with fail
    apply by_rest (R := fun X Y w' => X ≠ Y ∧ w.heap.size ≤ X ∧ w.heap.size ≤ Y ∧ Blk w' X (bva s) 34 ∧ Blk w' Y (bva s) 34 ∧ Below w.heap.size w w')
    case ways =>
      intro hG
      refine wp_region_held_drew (S := fun w' => Blk w' w.heap.size (bva s) 34) (by kernel_rfl) (show Blk w1.drew w.heap.size (bva s) 34 from C1.out) (fun hh => ?_)
      have HH := Lib.hid hh
      clear hh
      refine wpAnyH_take (i := 0) (v := .agg (bva s)) rfl (by kernel_rfl) (by kernel_rfl) (by kernel_rfl) (fun _ _ _ h => h) (Or.inl ⟨by rfl, fun w' hw' => ?y0⟩) HH.out ?_
      case y0 => exact exec_load 34 (.tmp 3) rfl rfl hw' Try.underlying34 rfl HI.out
      refine wpAnyH_take (i := 1) (v := .agg (bva s)) rfl (by kernel_rfl) (by kernel_rfl) (by kernel_rfl) (fun _ _ _ h => h) (Or.inl ⟨by rfl, fun w' hw' => ?y1⟩) HH.out ?_
      case y1 => exact exec_load 34 (.tmp 3) rfl rfl hw' Try.underlying34 rfl HI.out
      try simp only [List.getElem_toArray, List.getElem_cons_succ, List.getElem_cons_zero, Act.put, List.setIfInBounds_toArray, List.set_cons_zero, List.set_cons_succ]
      refine wpAnyH_ready (rs := [2, 3]) (by kernel_rfl) (by simp) (AllReadyH.cons rfl (fun K hK => ?_) (AllReadyH.cons rfl (fun K hK => ?_) AllReadyH.nil))
      · skip
        go_simp
        refine hK.out _ _ (Blk.below (w := w1.drew) HH.out ((Below.refl _ _).alloc (Nat.le_refl _) _)) (fun hh => ?_)
        have HH' := Lib.hid hh
        clear hh hK K HH
        have HH := Lib.hid HH'.out
        clear HH'
        try simp only [List.getElem_toArray, List.getElem_cons_succ, List.getElem_cons_zero, Act.put, List.setIfInBounds_toArray, List.set_cons_zero, List.set_cons_succ]
        refine wpAnyH_ready (rs := [3]) (by kernel_rfl) (by simp) (AllReadyH.cons rfl (fun K hK => ?_) AllReadyH.nil)
        go_simp
        refine hK.out _ _ (Blk.below (w := World.alloc w1.drew (.cells (bva zeroSum) 34)) HH.out ((Below.refl _ _).alloc (Nat.le_refl _) _)) (fun hh => ?_)
        have HH' := Lib.hid hh
        clear hh hK K HH
        have HH := Lib.hid HH'.out
        clear HH'
        try simp only [List.getElem_toArray, List.getElem_cons_succ, List.getElem_cons_zero, Act.put, List.setIfInBounds_toArray, List.set_cons_zero, List.set_cons_succ]
        refine wpAnyH_ready (rs := [4]) (by kernel_rfl) (by simp) (AllReadyH.cons rfl (fun K hK => ?_) AllReadyH.nil)
        rw [if_pos (by rfl)]
        refine wp_store_row 34 (.tmp 7) (.tmp 23) rfl (w1.heap.size) (bva s) rfl rfl 34 (bva zeroSum) (heap_alloc2_old _ _ _) HI.out (by rw [bva_size, bva_size, HS.out]; rfl) (bva_one _) ?_
        refine hK.out _ _ (by show Blk _ _ _ _; unfold Blk; rw [setRow_other _ _ _ _ (by omega)]; exact HH.out) (fun hh => ?_)
        have HH' := Lib.hid hh
        clear hh hK K HH
        have HH := Lib.hid HH'.out
        clear HH'
        try simp only [List.getElem_toArray, List.getElem_cons_succ, List.getElem_cons_zero, Act.put, List.setIfInBounds_toArray, List.set_cons_zero, List.set_cons_succ]
        refine wpAnyH_ready (rs := [5]) (by kernel_rfl) (by simp) (AllReadyH.cons rfl (fun K hK => ?_) AllReadyH.nil)
        rw [if_pos (by rfl)]
        refine wp_store_row 34 (.tmp 8) (.tmp 24) rfl (w1.heap.size + 1) (bva s) rfl rfl 34 (bva zeroSum) (by rw [setRow_other _ _ _ _ (by omega)]; exact heap_alloc2_new _ _ _) HI.out (by rw [bva_size, bva_size, HS.out]; rfl) (bva_one _) ?_
        refine hK.out _ _ (by show Blk _ _ _ _; unfold Blk; rw [setRow_other _ _ _ _ (by omega)]; exact HH.out) (fun hh => ?_)
        have HH' := Lib.hid hh
        clear hh hK K HH
        have HH := Lib.hid HH'.out
        clear HH'
        refine wpAnyH_done (by kernel_rfl) ?_ _
        try simp only [List.getElem_toArray, List.getElem_cons_succ, List.getElem_cons_zero, Act.put, List.setIfInBounds_toArray, List.set_cons_zero, List.set_cons_succ]
        generalize hw4 : World.setRow _ _ _ = w4
        obtain ⟨f1, f2, f3⟩ : Blk w4 w1.heap.size (bva s) 34 ∧ Blk w4 (w1.heap.size + 1) (bva s) 34 ∧ Below w1.heap.size w1 w4 := by rw [← hw4]; first | exact two_rows_a _ _ _ _ | exact two_rows_b _ _ _ _
        clear hw4 HH
        have f4 := CB.out.trans (f3.mono CB.out.size)
        have hb0 : w.heap.size ≤ w1.heap.size := CB.out.size
        clear f3
        obtain ⟨X, hX⟩ : ∃ X, w1.heap.size = X := ⟨_, rfl⟩
        obtain ⟨Y, hY⟩ : ∃ Y, w1.heap.size + 1 = Y := ⟨_, rfl⟩
        have hXY : X ≠ Y := by omega
        have hYX : Y ≠ X := by omega
        have hXw : w.heap.size ≤ X := by omega
        have hYw : w.heap.size ≤ Y := by omega
        rw [hX] at f1
        rw [hY] at f2
        rw [hY]
        rw [hX]
        clear hX hY hb0
        have GX := Lib.hid f1
        have GY := Lib.hid f2
        have GB := Lib.hid f4
        clear f1 f2 f4
        exact hG X Y w4 ⟨hXY, hXw, hYw, GX.out, GY.out, GB.out⟩
      · skip
        go_simp
        refine hK.out _ _ (Blk.below (w := w1.drew) HH.out ((Below.refl _ _).alloc (Nat.le_refl _) _)) (fun hh => ?_)
        have HH' := Lib.hid hh
        clear hh hK K HH
        have HH := Lib.hid HH'.out
        clear HH'
        try simp only [List.getElem_toArray, List.getElem_cons_succ, List.getElem_cons_zero, Act.put, List.setIfInBounds_toArray, List.set_cons_zero, List.set_cons_succ]
        refine wpAnyH_ready (rs := [2]) (by kernel_rfl) (by simp) (AllReadyH.cons rfl (fun K hK => ?_) AllReadyH.nil)
        go_simp
        refine hK.out _ _ (Blk.below (w := World.alloc w1.drew (.cells (bva zeroSum) 34)) HH.out ((Below.refl _ _).alloc (Nat.le_refl _) _)) (fun hh => ?_)
        have HH' := Lib.hid hh
        clear hh hK K HH
        have HH := Lib.hid HH'.out
        clear HH'
        try simp only [List.getElem_toArray, List.getElem_cons_succ, List.getElem_cons_zero, Act.put, List.setIfInBounds_toArray, List.set_cons_zero, List.set_cons_succ]
        refine wpAnyH_ready (rs := [4]) (by kernel_rfl) (by simp) (AllReadyH.cons rfl (fun K hK => ?_) AllReadyH.nil)
        rw [if_pos (by rfl)]
        refine wp_store_row 34 (.tmp 7) (.tmp 23) rfl (w1.heap.size + 1) (bva s) rfl rfl 34 (bva zeroSum) (heap_alloc2_new _ _ _) HI.out (by rw [bva_size, bva_size, HS.out]; rfl) (bva_one _) ?_
        refine hK.out _ _ (by show Blk _ _ _ _; unfold Blk; rw [setRow_other _ _ _ _ (by omega)]; exact HH.out) (fun hh => ?_)
        have HH' := Lib.hid hh
        clear hh hK K HH
        have HH := Lib.hid HH'.out
        clear HH'
        try simp only [List.getElem_toArray, List.getElem_cons_succ, List.getElem_cons_zero, Act.put, List.setIfInBounds_toArray, List.set_cons_zero, List.set_cons_succ]
        refine wpAnyH_ready (rs := [5]) (by kernel_rfl) (by simp) (AllReadyH.cons rfl (fun K hK => ?_) AllReadyH.nil)
        rw [if_pos (by rfl)]
        refine wp_store_row 34 (.tmp 8) (.tmp 24) rfl (w1.heap.size) (bva s) rfl rfl 34 (bva zeroSum) (by rw [setRow_other _ _ _ _ (by omega)]; exact heap_alloc2_old _ _ _) HI.out (by rw [bva_size, bva_size, HS.out]; rfl) (bva_one _) ?_
        refine hK.out _ _ (by show Blk _ _ _ _; unfold Blk; rw [setRow_other _ _ _ _ (by omega)]; exact HH.out) (fun hh => ?_)
        have HH' := Lib.hid hh
        clear hh hK K HH
        have HH := Lib.hid HH'.out
        clear HH'
        refine wpAnyH_done (by kernel_rfl) ?_ _
        try simp only [List.getElem_toArray, List.getElem_cons_succ, List.getElem_cons_zero, Act.put, List.setIfInBounds_toArray, List.set_cons_zero, List.set_cons_succ]
        generalize hw4 : World.setRow _ _ _ = w4
        obtain ⟨f1, f2, f3⟩ : Blk w4 w1.heap.size (bva s) 34 ∧ Blk w4 (w1.heap.size + 1) (bva s) 34 ∧ Below w1.heap.size w1 w4 := by rw [← hw4]; first | exact two_rows_a _ _ _ _ | exact two_rows_b _ _ _ _
        clear hw4 HH
        have f4 := CB.out.trans (f3.mono CB.out.size)
        have hb0 : w.heap.size ≤ w1.heap.size := CB.out.size
        clear f3
        obtain ⟨X, hX⟩ : ∃ X, w1.heap.size + 1 = X := ⟨_, rfl⟩
        obtain ⟨Y, hY⟩ : ∃ Y, w1.heap.size = Y := ⟨_, rfl⟩
        have hXY : X ≠ Y := by omega
        have hYX : Y ≠ X := by omega
        have hXw : w.heap.size ≤ X := by omega
        have hYw : w.heap.size ≤ Y := by omega
        rw [hX] at f2
        rw [hY] at f1
        rw [hX]
        rw [hY]
        clear hX hY hb0
        have GX := Lib.hid f2
        have GY := Lib.hid f1
        have GB := Lib.hid f4
        clear f1 f2 f4
        exact hG X Y w4 ⟨hXY, hXw, hYw, GX.out, GY.out, GB.out⟩
    case rest =>
      intro X Y w4 ⟨hXY, hXw, hYw, hGX, hGY, hGB⟩
      have hYX : Y ≠ X := fun e => hXY e.symm
      have GX := Lib.hid hGX
      have GY := Lib.hid hGY
      have GB := Lib.hid hGB
      clear hGX hGY hGB C1 CB
      go_wp2_with fail
      go_loopw [9] (fun i wr => ∃ k : Nat, k ≤ n ∧ i = .int .i64 k ∧ Hid (∀ l ∈ ls.take k, l.length ≤ 100) ∧ Blk wr X (bva (chainsL (s) (ls.take k))) 34 ∧ Blk wr Y (bva s) 34 ∧ Below w.heap.size w wr) (fun i _ => n - (intOf i).toNat)
      case atStart => exact ⟨0, Nat.zero_le _, rfl, (fun l hl => by simp at hl), GX.out, GY.out, GB.out⟩
      case round =>
        clear GX GY GB
        obtain ⟨k, hk, rfl, H100, RX, RGY, RB⟩ := hrel
        have GX := Lib.hid RX
        have GB := Lib.hid RB
        have GY := Lib.hid RGY
        clear RX RB RGY
        by_cases hlt : k < n
        · have hkl : k < ls.length := by rw [HL.out]; exact hlt
          obtain ⟨ad, A6, c6, rfl, hadb, hcell0, hnc6, hcm6, hrd⟩ := RdB.at_ HR.out hkl
          obtain ⟨b, hb⟩ : ∃ b, b = ls[k] := ⟨_, rfl⟩
          rw [← hb] at hcell0 hnc6 hrd
          obtain ⟨n6, hn6⟩ : ∃ n6, b.length = n6 := ⟨_, rfl⟩
          rw [hn6] at hcell0 hnc6
          have HN6 := Lib.hid hn6
          have RD := Lib.hid hrd
          have hcell : wr.cell? (ad.add k) = some (.slice A6 n6 c6) := (GB.out.cell (by rw [add_block]; exact hadb)).trans hcell0
          have hcd : wr.drew.cell? (ad.add k) = some (.slice A6 n6 c6) := hcell
          have HKL := Lib.hid hkl
          have HB := Lib.hid hb
          have k0 : (0 : Int) ≤ (k : Int) := by omega
          have k1 : (k : Int) < (n : Int) := by omega
          have hcm7 := hcm6
          unfold maxLen at hcm7
          clear hb hn6 hrd hcell0
          by_cases hbig : n6 ≤ 100
          · have hdb : decide (100 < (n6 : Int)) = false := by simp; omega
            obtain ⟨u, hu⟩ : ∃ u, u = chainsL (s) (ls.take k) := ⟨_, rfl⟩
            have HU : Hid (u.length = 16) := by show _ = _; rw [hu]; exact chainsL_length HS.out _
            have HUI : Hid ((Try.prog.info? 34).map (·.size) = some (bva u).size) := by rw [bva_size, HU.out]; exact info_sum
            obtain ⟨nu, hnu⟩ : ∃ nu, chainL u b = nu := ⟨_, rfl⟩
            have HNU := Lib.hid hnu
            have HN16 : Hid (nu.length = 16) := by show _ = _; rw [← hnu]; exact chainL_length _ _
            have HNI : Hid ((Try.prog.info? 34).map (·.size) = some (bva nu).size) := by rw [bva_size, HN16.out]; exact info_sum
            have HNX : Hid (chainsL (s) (ls.take (k + 1)) = nu) := by show _ = _; rw [chainsL_take _ HKL.out, ← hu, ← HB.out]; exact hnu
            have H101 : Hid (∀ l ∈ ls.take (k + 1), l.length ≤ 100) := fun l hl => by
              rw [List.take_add_one, List.getElem?_eq_getElem HKL.out, Option.toList_some, List.mem_append, List.mem_singleton] at hl
              rcases hl with hl | hl
              · exact H100.out l hl
              · rw [hl, ← HB.out, HN6.out]; exact hbig
            rw [← hu] at GX
            clear hu hnu
            go_wp2_with fail
            refine wp_region_any (by kernel_rfl) ?_
            change wpAny _ _ _ _ _ _ _ (World.drew _)
            refine wpAny_take (i := 1) (v := ?vp1) rfl (by kernel_rfl) (by kernel_rfl) (by kernel_rfl) (fun _ _ _ h => h) (Or.inl ⟨by rfl, ?yp1⟩) ?_
            case yp1 => (intro w'; go_simp; try with_reducible rfl)
            refine wpAny_take (i := 2) (v := ?vp2) rfl (by kernel_rfl) (by kernel_rfl) (by kernel_rfl) (fun _ _ _ h => h) (Or.inl ⟨by rfl, ?yp2⟩) ?_
            case yp2 => (intro w'; go_simp; try with_reducible rfl)
            refine wpAny_take (i := 3) (v := ?vp3) rfl (by kernel_rfl) (by kernel_rfl) (by kernel_rfl) (fun _ _ _ h => h) (Or.inl ⟨by rfl, ?yp3⟩) ?_
            case yp3 => (intro w'; go_simp; try with_reducible rfl)
            refine wpAny_look (i := 0) (v := .agg (bva u)) rfl (by kernel_rfl) (by kernel_rfl) (by kernel_rfl) (fun _ _ _ h => h) (by rfl) ?yp0 ?_
            case yp0 => exact exec_load 34 (.tmp 7) rfl rfl (show Blk wr.drew X (bva u) 34 from GX.out) Try.underlying34 rfl HUI.out
            try simp only [List.getElem_toArray, List.getElem_cons_succ, List.getElem_cons_zero, Act.put, List.setIfInBounds_toArray, List.set_cons_zero, List.set_cons_succ]
            refine wpAny_look (i := 4) (v := .slice A6 n6 c6) rfl (by kernel_rfl) (by kernel_rfl) (by kernel_rfl) (fun _ _ _ h => h) (by rfl) ?yp4 ?_
            case yp4 => (go_simp; try with_reducible rfl)
            try simp only [List.getElem_toArray, List.getElem_cons_succ, List.getElem_cons_zero, Act.put, List.setIfInBounds_toArray, List.set_cons_zero, List.set_cons_succ]
            refine wpAny_ready (rs := [5]) (by kernel_rfl) (by simp) (AllReady.cons rfl (fun K hK => ?_) AllReady.nil)
            go_simp
            refine (chain_any u HU.out A6 n6 c6 b wr.drew HN6.out hnc6 hcm6 ((RD.out.below GB.out.drew).more GB.out.size) (by omega)).mono ?_
            rintro e w5 ⟨rfl, bw⟩
            rw [HNU.out]
            have KX := Lib.hid (Blk.below (w := wr.drew) GX.out bw)
            have KB := Lib.hid (GB.out.drew.trans (bw.mono GB.out.size))
            have KGY := Lib.hid (Blk.below (w := wr.drew) GY.out bw)
            clear bw GX GB GY
            go_simp
            refine hK _ _ ?_
            clear hK K
            try simp only [List.getElem_toArray, List.getElem_cons_succ, List.getElem_cons_zero, Act.put, List.setIfInBounds_toArray, List.set_cons_zero, List.set_cons_succ]
            refine wpAny_ready (rs := [6]) (by kernel_rfl) (by simp) (AllReady.cons rfl (fun K hK => ?_) AllReady.nil)
            rw [if_pos (by rfl)]
            refine wp_store_row 34 (.tmp 7) (.tmp 42) rfl X (bva nu) rfl rfl 34 (bva u) KX.out HNI.out (by rw [bva_size, bva_size, HN16.out, HU.out]) (bva_one _) ?_
            generalize hw9 : World.setRow _ _ _ = w9
            have q1 : Blk w9 X (bva nu) 34 := by rw [← hw9]; exact setRow_heap _ _ _ _ _ _ KX.out
            have q2 : Below w.heap.size w w9 := by rw [← hw9]; exact below_setRow KB.out hXw _
            have Q1 := Lib.hid q1
            have Q2 := Lib.hid q2
            have QGY : Hid (Blk w9 Y (bva s) 34) := by show Blk _ _ _ _; rw [← hw9]; unfold Blk; rw [setRow_other _ _ _ _ hYX]; exact KGY.out
            clear q1 q2 hw9 KX KB KGY
            refine hK _ _ ?_
            clear hK K
            refine wpAny_done (by kernel_rfl) ?_ _
            try simp only [List.getElem_toArray, List.getElem_cons_succ, List.getElem_cons_zero, Act.put, List.setIfInBounds_toArray, List.set_cons_zero, List.set_cons_succ]
            go_wp2_with fail
            go_roundw
            case rel => exact ⟨k + 1, by omega, by go_num, H101, by rw [HNX.out]; exact Q1.out, QGY.out, Q2.out⟩
            case measure => (simp [intOf]; try omega)
          · have hdb : decide (100 < (n6 : Int)) = true := by simp; omega
            go_wp2_with fail
            go_ret
            exact ⟨rfl, GB.out⟩
        · obtain rfl : n = k := by omega
          obtain ⟨t, ht⟩ : ∃ t, t = chainsL s (ls.take n) := ⟨_, rfl⟩
          have HT : Hid (t = chainsL s ls) := by show _ = _; rw [ht, List.take_of_length_le (by rw [HL.out]; exact Nat.le_refl _)]
          have HT16 : Hid (t.length = 16) := by show _ = _; rw [ht]; exact chainsL_length HS.out _
          have H1H : Hid (∀ l ∈ ls, l.length ≤ 100) := by
            have h := H100.out
            rw [List.take_of_length_le (by rw [HL.out]; exact Nat.le_refl _)] at h
            exact h
          rw [← ht] at GX
          clear ht H100
          go_wp2_with fail
          go_loopw [10] (fun i wr => ∃ k : Nat, k ≤ n' ∧ i = .int .i64 k ∧ Hid (∀ l ∈ ls'.take k, l.length ≤ 100) ∧ Blk wr X (bva (chainsL (t) (ls'.take k))) 34 ∧ Blk wr Y (bva s) 34 ∧ Below w.heap.size w wr) (fun i _ => n' - (intOf i).toNat)
          case atStart => exact ⟨0, Nat.zero_le _, rfl, (fun l hl => by simp at hl), GX.out, GY.out, GB.out⟩
          case round =>
            clear GX GY GB
            obtain ⟨k, hk, rfl, H100, RX, RGY, RB⟩ := hrel
            have GX := Lib.hid RX
            have GB := Lib.hid RB
            have GY := Lib.hid RGY
            clear RX RB RGY
            by_cases hlt : k < n'
            · have hkl : k < ls'.length := by rw [HL'.out]; exact hlt
              obtain ⟨ad, A6, c6, rfl, hadb, hcell0, hnc6, hcm6, hrd⟩ := RdB.at_ HR'.out hkl
              obtain ⟨b, hb⟩ : ∃ b, b = ls'[k] := ⟨_, rfl⟩
              rw [← hb] at hcell0 hnc6 hrd
              obtain ⟨n6, hn6⟩ : ∃ n6, b.length = n6 := ⟨_, rfl⟩
              rw [hn6] at hcell0 hnc6
              have HN6 := Lib.hid hn6
              have RD := Lib.hid hrd
              have hcell : wr.cell? (ad.add k) = some (.slice A6 n6 c6) := (GB.out.cell (by rw [add_block]; exact hadb)).trans hcell0
              have hcd : wr.drew.cell? (ad.add k) = some (.slice A6 n6 c6) := hcell
              have HKL := Lib.hid hkl
              have HB := Lib.hid hb
              have k0 : (0 : Int) ≤ (k : Int) := by omega
              have k1 : (k : Int) < (n' : Int) := by omega
              have hcm7 := hcm6
              unfold maxLen at hcm7
              clear hb hn6 hrd hcell0
              by_cases hbig : n6 ≤ 100
              · have hdb : decide (100 < (n6 : Int)) = false := by simp; omega
                obtain ⟨u, hu⟩ : ∃ u, u = chainsL (t) (ls'.take k) := ⟨_, rfl⟩
                have HU : Hid (u.length = 16) := by show _ = _; rw [hu]; exact chainsL_length HT16.out _
                have HUI : Hid ((Try.prog.info? 34).map (·.size) = some (bva u).size) := by rw [bva_size, HU.out]; exact info_sum
                obtain ⟨nu, hnu⟩ : ∃ nu, chainL u b = nu := ⟨_, rfl⟩
                have HNU := Lib.hid hnu
                have HN16 : Hid (nu.length = 16) := by show _ = _; rw [← hnu]; exact chainL_length _ _
                have HNI : Hid ((Try.prog.info? 34).map (·.size) = some (bva nu).size) := by rw [bva_size, HN16.out]; exact info_sum
                have HNX : Hid (chainsL (t) (ls'.take (k + 1)) = nu) := by show _ = _; rw [chainsL_take _ HKL.out, ← hu, ← HB.out]; exact hnu
                have H101 : Hid (∀ l ∈ ls'.take (k + 1), l.length ≤ 100) := fun l hl => by
                  rw [List.take_add_one, List.getElem?_eq_getElem HKL.out, Option.toList_some, List.mem_append, List.mem_singleton] at hl
                  rcases hl with hl | hl
                  · exact H100.out l hl
                  · rw [hl, ← HB.out, HN6.out]; exact hbig
                rw [← hu] at GX
                clear hu hnu
                go_wp2_with fail
                refine wp_region_any (by kernel_rfl) ?_
                change wpAny _ _ _ _ _ _ _ (World.drew _)
                refine wpAny_take (i := 1) (v := ?vq1) rfl (by kernel_rfl) (by kernel_rfl) (by kernel_rfl) (fun _ _ _ h => h) (Or.inl ⟨by rfl, ?yq1⟩) ?_
                case yq1 => (intro w'; go_simp; try with_reducible rfl)
                refine wpAny_take (i := 2) (v := ?vq2) rfl (by kernel_rfl) (by kernel_rfl) (by kernel_rfl) (fun _ _ _ h => h) (Or.inl ⟨by rfl, ?yq2⟩) ?_
                case yq2 => (intro w'; go_simp; try with_reducible rfl)
                refine wpAny_take (i := 3) (v := ?vq3) rfl (by kernel_rfl) (by kernel_rfl) (by kernel_rfl) (fun _ _ _ h => h) (Or.inl ⟨by rfl, ?yq3⟩) ?_
                case yq3 => (intro w'; go_simp; try with_reducible rfl)
                refine wpAny_look (i := 0) (v := .agg (bva u)) rfl (by kernel_rfl) (by kernel_rfl) (by kernel_rfl) (fun _ _ _ h => h) (by rfl) ?yq0 ?_
                case yq0 => exact exec_load 34 (.tmp 7) rfl rfl (show Blk wr.drew X (bva u) 34 from GX.out) Try.underlying34 rfl HUI.out
                try simp only [List.getElem_toArray, List.getElem_cons_succ, List.getElem_cons_zero, Act.put, List.setIfInBounds_toArray, List.set_cons_zero, List.set_cons_succ]
                refine wpAny_look (i := 4) (v := .slice A6 n6 c6) rfl (by kernel_rfl) (by kernel_rfl) (by kernel_rfl) (fun _ _ _ h => h) (by rfl) ?yq4 ?_
                case yq4 => (go_simp; try with_reducible rfl)
                try simp only [List.getElem_toArray, List.getElem_cons_succ, List.getElem_cons_zero, Act.put, List.setIfInBounds_toArray, List.set_cons_zero, List.set_cons_succ]
                refine wpAny_ready (rs := [5]) (by kernel_rfl) (by simp) (AllReady.cons rfl (fun K hK => ?_) AllReady.nil)
                go_simp
                refine (chain_any u HU.out A6 n6 c6 b wr.drew HN6.out hnc6 hcm6 ((RD.out.below GB.out.drew).more GB.out.size) (by omega)).mono ?_
                rintro e w5 ⟨rfl, bw⟩
                rw [HNU.out]
                have KX := Lib.hid (Blk.below (w := wr.drew) GX.out bw)
                have KB := Lib.hid (GB.out.drew.trans (bw.mono GB.out.size))
                have KGY := Lib.hid (Blk.below (w := wr.drew) GY.out bw)
                clear bw GX GB GY
                go_simp
                refine hK _ _ ?_
                clear hK K
                try simp only [List.getElem_toArray, List.getElem_cons_succ, List.getElem_cons_zero, Act.put, List.setIfInBounds_toArray, List.set_cons_zero, List.set_cons_succ]
                refine wpAny_ready (rs := [6]) (by kernel_rfl) (by simp) (AllReady.cons rfl (fun K hK => ?_) AllReady.nil)
                rw [if_pos (by rfl)]
                refine wp_store_row 34 (.tmp 7) (.tmp 60) rfl X (bva nu) rfl rfl 34 (bva u) KX.out HNI.out (by rw [bva_size, bva_size, HN16.out, HU.out]) (bva_one _) ?_
                generalize hw9 : World.setRow _ _ _ = w9
                have q1 : Blk w9 X (bva nu) 34 := by rw [← hw9]; exact setRow_heap _ _ _ _ _ _ KX.out
                have q2 : Below w.heap.size w w9 := by rw [← hw9]; exact below_setRow KB.out hXw _
                have Q1 := Lib.hid q1
                have Q2 := Lib.hid q2
                have QGY : Hid (Blk w9 Y (bva s) 34) := by show Blk _ _ _ _; rw [← hw9]; unfold Blk; rw [setRow_other _ _ _ _ hYX]; exact KGY.out
                clear q1 q2 hw9 KX KB KGY
                refine hK _ _ ?_
                clear hK K
                refine wpAny_done (by kernel_rfl) ?_ _
                try simp only [List.getElem_toArray, List.getElem_cons_succ, List.getElem_cons_zero, Act.put, List.setIfInBounds_toArray, List.set_cons_zero, List.set_cons_succ]
                go_wp2_with fail
                go_roundw
                case rel => exact ⟨k + 1, by omega, by go_num, H101, by rw [HNX.out]; exact Q1.out, QGY.out, Q2.out⟩
                case measure => (simp [intOf]; try omega)
              · have hdb : decide (100 < (n6 : Int)) = true := by simp; omega
                go_wp2_with fail
                go_ret
                exact ⟨rfl, GB.out⟩
            · obtain rfl : n' = k := by omega
              obtain ⟨t2, ht2⟩ : ∃ t2, t2 = chainsL t (ls'.take n') := ⟨_, rfl⟩
              have HT2 : Hid (chainsL s (ls ++ ls') = t2) := by show _ = _; rw [ht2, List.take_of_length_le (by rw [HL'.out]; exact Nat.le_refl _), chainsL_append, HT.out]
              have HT26 : Hid (t2.length = 16) := by show _ = _; rw [ht2]; exact chainsL_length HT16.out _
              have H2H : Hid (∀ l ∈ ls', l.length ≤ 100) := by
                have h := H100.out
                rw [List.take_of_length_le (by rw [HL'.out]; exact Nat.le_refl _)] at h
                exact h
              rw [← ht2] at GX
              clear ht2 H100
              obtain ⟨vs, hv1, hv2, hv3⟩ := HR.out
              obtain ⟨vs', hv1', hv2', hv3'⟩ := HR'.out
              have HV := Lib.hid hv2
              have HV' := Lib.hid hv2'
              have HVL : Hid (vs.length = n) := hv1.trans HL.out
              have HVL' : Hid (vs'.length = n') := hv1'.trans HL'.out
              have HO1 : Hid (∀ v ∈ vs, v.oneCell' = true) := rows_one hv1 hv3
              have HO1' : Hid (∀ v ∈ vs', v.oneCell' = true) := rows_one hv1' hv3'
              have HP : Hid (∀ k v l, (vs ++ vs')[k]? = some v → (ls ++ ls')[k]? = some l → IsB w.heap.size w v l) := rows_both hv1 hv3 hv3'
              clear hv1 hv2 hv3 hv1' hv2' hv3'
              have hXl := GX.out.lt
              have hYl := GY.out.lt
              obtain ⟨wo, rfl⟩ : ∃ wo : World, wo = wr := ⟨_, rfl⟩
              go_wp2_with (first
                | (at_builtin
                   refine wpList_app _ (by rfl) (.tmp 61) (.tmp 62) _ rfl rowsElt (base := wo.heap.size) (v := .slice (some ⟨wo.heap.size, 0, none⟩) 0 0) rfl (World.ownsRow_lit wo #[] 0 (Nat.le_refl _) (Nat.zero_le _) rfl) (m := n) rfl ((HV.out.below GB.out).below ((Below.refl _ _).alloc GB.out.size _)) HVL.out HO1.out ?_ ?_ ?_
                   · omega
                   · simp
                   intro A2 c2 wa ho2 hg2 _
                   have ho3 := own_eq ho2 (n' := n) (by omega) (xs' := vs) rfl
                   have DO := Lib.hid ho3
                   have DB := Lib.hid (app_below (GB.out.alloc GB.out.size _) (World.ownsRow_lit wo #[] 0 (Nat.le_refl _) (Nat.zero_le _) rfl) hg2 GB.out.size (by simp; have := GB.out.size; omega))
                   have DX := Lib.hid (blk_apart (GX.out.below ((Below.refl _ _).alloc (Nat.le_refl _) _)) hg2 (by simp [Value.ownBlock]; omega))
                   have DY := Lib.hid (blk_apart (GY.out.below ((Below.refl _ _).alloc (Nat.le_refl _) _)) hg2 (by simp [Value.ownBlock]; omega))
                   have hsa : Hid (wo.heap.size ≤ wa.heap.size) := by show _ ≤ _; have := hg2.size; simp at this; omega
                   have hbo := GB.out.size
                   clear ho2 ho3 hg2 GX GY GB)
                | (at_builtin
                   refine wpList_app _ (by rfl) (.tmp 63) (.tmp 64) _ rfl rowsElt (base := wo.heap.size) (v := .slice A2 n c2) rfl DO.out (m := n') rfl (HV'.out.below DB.out) HVL'.out HO1'.out ?_ ?_ ?_
                   · omega
                   · exact hsa.out
                   intro A3 c3 wb ho4 hg4 _
                   obtain ⟨N, hN⟩ : ∃ N, n + n' = N := ⟨_, rfl⟩
                   rw [hN] at ho4
                   rw [hN]
                   have hNb : N ≤ 40 := by omega
                   have EO := Lib.hid ho4
                   have EB := Lib.hid (app_below DB.out DO.out hg4 hbo DB.out.size)
                   have EX := Lib.hid (blk_apart DX.out hg4 (by intro e; have := (DO.out.lt _ e.symm).1; omega))
                   have EY := Lib.hid (blk_apart DY.out hg4 (by intro e; have := (DO.out.lt _ e.symm).1; omega))
                   have HLN : Hid ((ls ++ ls').length = N) := by show _ = _; rw [List.length_append, HL.out, HL'.out]; exact hN
                   clear ho4 hg4 DO DB DX DY hN))
              obtain ⟨Bq, hBq⟩ : ∃ Bq, wo.heap.size = Bq := ⟨_, rfl⟩
              rw [hBq] at hXl hYl hbo EO
              clear hBq
              obtain ⟨Lq, hLq⟩ : ∃ Lq, ls ++ ls' = Lq := ⟨_, rfl⟩
              obtain ⟨V, hV⟩ : ∃ V, vs ++ vs' = V := ⟨_, rfl⟩
              have HLH : Hid (∀ l ∈ Lq, l.length ≤ 100) := fun l hl => by
                rw [← hLq, List.mem_append] at hl
                rcases hl with hl | hl
                · exact H1H.out l hl
                · exact H2H.out l hl
              rw [hLq] at HT2 HLN HP
              rw [hV] at HP EO
              clear hLq hV HV HV' HVL HVL' HO1 HO1' hsa H1H H2H
              go_loopw [12] (fun i wr => ∃ k : Nat, k ≤ N ∧ i = .int .i64 k ∧ Blk wr Y (bva (chainsL s (Lq.take k))) 34 ∧ Blk wr X (bva t2) 34 ∧ wr.ownsRow Bq 28 1 (.slice A3 N c3) N V ∧ Below w.heap.size w wr) (fun i _ => N - (intOf i).toNat)
              case atStart => exact ⟨0, Nat.zero_le _, rfl, EY.out, EX.out, EO.out, EB.out⟩
              case round =>
                clear EY EX EO EB
                obtain ⟨k, hk, rfl, RY, RX, RO, RB⟩ := hrel
                by_cases hlt : k < N
                · have hkl : k < Lq.length := by rw [HLN.out]; exact hlt
                  obtain ⟨g, rfl, hgb, _, _⟩ := own_addr RO (by omega)
                  obtain ⟨v, hv⟩ : ∃ v, V[k]? = some v := ⟨_, List.getElem?_eq_getElem (by rw [own_len RO]; exact hlt)⟩
                  obtain ⟨b, hb⟩ : ∃ b, b = Lq[k] := ⟨_, rfl⟩
                  obtain ⟨A6, c6, rfl, hnc6, hcm6, hrd⟩ := HP.out k v b hv (by rw [hb]; exact List.getElem?_eq_getElem hkl)
                  obtain ⟨n6, hn6⟩ : ∃ n6, b.length = n6 := ⟨_, rfl⟩
                  rw [hn6] at hv hnc6
                  have hbig : n6 ≤ 100 := by rw [← hn6, hb]; exact HLH.out _ (List.getElem_mem hkl)
                  have hcell : wr.cell? ⟨g, k, none⟩ = some (.slice A6 n6 c6) := by
                    obtain ⟨ad, e, _, hcc⟩ := Rd.own RO k _ hv
                    injection e with e
                    subst e
                    rw [add_head] at hcc
                    exact hcc
                  have hcd : wr.drew.cell? ⟨g, k, none⟩ = some (.slice A6 n6 c6) := hcell
                  have HN6 := Lib.hid hn6
                  have RD := Lib.hid hrd
                  have HB := Lib.hid hb
                  have HKL := Lib.hid hkl
                  have k0 : (0 : Int) ≤ (k : Int) := by omega
                  have k1 : (k : Int) < (N : Int) := by omega
                  have hcm7 := hcm6
                  unfold maxLen at hcm7
                  obtain ⟨u, hu⟩ : ∃ u, u = chainsL s (Lq.take k) := ⟨_, rfl⟩
                  have HU : Hid (u.length = 16) := by show _ = _; rw [hu]; exact chainsL_length HS.out _
                  have HUI : Hid ((Try.prog.info? 34).map (·.size) = some (bva u).size) := by rw [bva_size, HU.out]; exact info_sum
                  obtain ⟨nu, hnu⟩ : ∃ nu, chainL u b = nu := ⟨_, rfl⟩
                  have HNU := Lib.hid hnu
                  have HN16 : Hid (nu.length = 16) := by show _ = _; rw [← hnu]; exact chainL_length _ _
                  have HNI : Hid ((Try.prog.info? 34).map (·.size) = some (bva nu).size) := by rw [bva_size, HN16.out]; exact info_sum
                  have HNX : Hid (chainsL s (Lq.take (k + 1)) = nu) := by show _ = _; rw [chainsL_take _ HKL.out, ← hu, ← HB.out]; exact hnu
                  rw [← hu] at RY
                  have GX := Lib.hid RY
                  have GW := Lib.hid RX
                  have GO := Lib.hid RO
                  have GB := Lib.hid RB
                  clear hu hnu hb hn6 hrd hv RY RX RO RB
                  go_wp2_with fail
                  refine wp_region_any (by kernel_rfl) ?_
                  change wpAny _ _ _ _ _ _ _ (World.drew _)
                  refine wpAny_take (i := 1) (v := ?vr1) rfl (by kernel_rfl) (by kernel_rfl) (by kernel_rfl) (fun _ _ _ h => h) (Or.inl ⟨by rfl, ?yr1⟩) ?_
                  case yr1 => (intro w'; go_simp; try with_reducible rfl)
                  refine wpAny_take (i := 2) (v := ?vr2) rfl (by kernel_rfl) (by kernel_rfl) (by kernel_rfl) (fun _ _ _ h => h) (Or.inl ⟨by rfl, ?yr2⟩) ?_
                  case yr2 => (intro w'; go_simp; try with_reducible rfl)
                  refine wpAny_take (i := 3) (v := ?vr3) rfl (by kernel_rfl) (by kernel_rfl) (by kernel_rfl) (fun _ _ _ h => h) (Or.inl ⟨by rfl, ?yr3⟩) ?_
                  case yr3 => (intro w'; go_simp; try with_reducible rfl)
                  refine wpAny_look (i := 0) (v := .agg (bva u)) rfl (by kernel_rfl) (by kernel_rfl) (by kernel_rfl) (fun _ _ _ h => h) (by rfl) ?yr0 ?_
                  case yr0 => exact exec_load 34 (.tmp 8) rfl rfl (show Blk wr.drew Y (bva u) 34 from GX.out) Try.underlying34 rfl HUI.out
                  try simp only [List.getElem_toArray, List.getElem_cons_succ, List.getElem_cons_zero, Act.put, List.setIfInBounds_toArray, List.set_cons_zero, List.set_cons_succ]
                  refine wpAny_look (i := 4) (v := .slice A6 n6 c6) rfl (by kernel_rfl) (by kernel_rfl) (by kernel_rfl) (fun _ _ _ h => h) (by rfl) ?yr4 ?_
                  case yr4 => (go_simp; try with_reducible rfl)
                  try simp only [List.getElem_toArray, List.getElem_cons_succ, List.getElem_cons_zero, Act.put, List.setIfInBounds_toArray, List.set_cons_zero, List.set_cons_succ]
                  refine wpAny_ready (rs := [5]) (by kernel_rfl) (by simp) (AllReady.cons rfl (fun K hK => ?_) AllReady.nil)
                  go_simp
                  refine (chain_any u HU.out A6 n6 c6 b wr.drew HN6.out hnc6 hcm6 ((RD.out.below GB.out.drew).more GB.out.size) (by omega)).mono ?_
                  rintro e w5 ⟨rfl, bw⟩
                  rw [HNU.out]
                  have KX := Lib.hid (Blk.below (w := wr.drew) GX.out bw)
                  have KB := Lib.hid (GB.out.drew.trans (bw.mono GB.out.size))
                  have KGW := Lib.hid (Blk.below (w := wr.drew) GW.out bw)
                  have KGO := Lib.hid (own_below (w := wr.drew) GO.out bw)
                  clear bw GX GB GW GO
                  go_simp
                  refine hK _ _ ?_
                  clear hK K
                  try simp only [List.getElem_toArray, List.getElem_cons_succ, List.getElem_cons_zero, Act.put, List.setIfInBounds_toArray, List.set_cons_zero, List.set_cons_succ]
                  refine wpAny_ready (rs := [6]) (by kernel_rfl) (by simp) (AllReady.cons rfl (fun K hK => ?_) AllReady.nil)
                  rw [if_pos (by rfl)]
                  refine wp_store_row 34 (.tmp 8) (.tmp 77) rfl Y (bva nu) rfl rfl 34 (bva u) KX.out HNI.out (by rw [bva_size, bva_size, HN16.out, HU.out]) (bva_one _) ?_
                  generalize hw9 : World.setRow _ _ _ = w9
                  have q1 : Blk w9 Y (bva nu) 34 := by rw [← hw9]; exact setRow_heap _ _ _ _ _ _ KX.out
                  have q2 : Below w.heap.size w w9 := by rw [← hw9]; exact below_setRow KB.out hYw _
                  have Q1 := Lib.hid q1
                  have Q2 := Lib.hid q2
                  have QGW : Hid (Blk w9 X (bva t2) 34) := by show Blk _ _ _ _; rw [← hw9]; unfold Blk; rw [setRow_other _ _ _ _ hXY]; exact KGW.out
                  have QGO := Lib.hid (own_far KGO.out (by rw [← hw9]; exact grown_setRow _ _ _ : World.grownBy _ w9 (some Y)) (fun j hj => by have := (KGO.out.lt j hj).1; omega))
                  clear q1 q2 hw9 KX KB KGW KGO
                  refine hK _ _ ?_
                  clear hK K
                  refine wpAny_done (by kernel_rfl) ?_ _
                  try simp only [List.getElem_toArray, List.getElem_cons_succ, List.getElem_cons_zero, Act.put, List.setIfInBounds_toArray, List.set_cons_zero, List.set_cons_succ]
                  go_wp2_with fail
                  go_roundw
                  case rel => exact ⟨k + 1, by omega, by go_num, by rw [HNX.out]; exact Q1.out, QGW.out, QGO.out, Q2.out⟩
                  case measure => (simp [intOf]; try omega)
                · obtain rfl : N = k := by omega
                  have RY' : Blk wr Y (bva t2) 34 := by
                    rw [List.take_of_length_le (by rw [HLN.out]; exact Nat.le_refl _), HT2.out] at RY
                    exact RY
                  have HTI : Hid ((Try.prog.info? 34).map (·.size) = some (bva t2).size) := by rw [bva_size, HT26.out]; exact info_sum
                  have heq := eq_sum t2 HT26.out
                  have GX := Lib.hid RX
                  have GY := Lib.hid RY'
                  have GB := Lib.hid RB
                  clear RX RY RY' RO RB
                  go_wp2_with (first
                    | (refine wpList_load_row rfl 34 (.tmp 7) rfl X rfl 34 (bva t2) (0, 0) _ GX.out Try.underlying34 rfl HTI.out ?_)
                    | (refine wpList_load_row rfl 34 (.tmp 8) rfl Y rfl 34 (bva t2) (0, 0) _ GY.out Try.underlying34 rfl HTI.out ?_))
                  go_ret
                  exact ⟨rfl, GB.out⟩
      
  · go_enter Try.func8, Try.ntmps8
    go_wp2_with fail
    refine (seAwake_any _).mono ?_
    rintro e w1 ⟨rfl, bw⟩
    have CB := Lib.hid (BB.out.trans (bw.mono BB.out.size))
    clear bw B1 BB
    by_cases h1 : n ≤ 20
    · have hd1 : decide (20 < (n : Int)) = false := by simp; omega
      have hd2 : decide (20 < (n' : Int)) = true := by simp; omega
      go_wp2_with fail
      go_ret
      exact ⟨rfl, CB.out⟩
    · have hd1 : decide (20 < (n : Int)) = true := by simp; omega
      go_wp2_with fail
      go_ret
      exact ⟨rfl, CB.out⟩
theorem sealRows_own : ownKnob Try.prog.godebug = none := by kernel_rfl
theorem sealRows_laid : laidOutB Try.prog = true := by kernel_rfl

set_option maxRecDepth 100000 in
theorem sealRows_lifted (os : Os) (started : os.Started) (H : Type) (enc : TypeId × Value → H) :
    ReturnsInHanded {} Try.checked os 8 .any (Rows.sealRowsSpec.pre6 enc Try.prog Try.f8 Rows.sealRowsRow.domain false) (Rows.sealRowsSpec.post enc Try.prog Try.f8 false true false false) := by
  refine returnsInHanded_of_change (C := Try.checked) sealRows_own started (by kernel_rfl) Try.func8
    (ChangeSpec.witness6 (enc := enc) (C := Try.checked) false ⟨#[], #[.agg #[.int .u8 0, .int .u8 0, .int .u8 0, .int .u8 0, .int .u8 0, .int .u8 0, .int .u8 0, .int .u8 0, .int .u8 0, .int .u8 0, .int .u8 0, .int .u8 0, .int .u8 0, .int .u8 0, .int .u8 0, .int .u8 0], .slice none 0 0, .slice none 0 0], []⟩ 8 (by kernel_rfl) (by kernel_rfl) (by kernel_rfl) (by kernel_rfl)) ?_
  intro W base args ds gs before hval0 hW _ _
  have hval : ∀ (j : Nat) t v, Try.f8.params[j]? = some t → args[j]? = some v → Value.okWide Try.prog W .any base t v := hval0
  have hW' := hW
  obtain ⟨p, q, hA0, hV, rfl, hfz, hnd⟩ := hW
  have hA : DataW.TrodAll enc Try.prog W 0 (fun _ => true) true Try.f8.params.toList args.toList ds p := hA0
  rw [Try.params8] at hA hval
  obtain ⟨v0, vs0, d0, ds0, p0, q0, hargs, rfl, rfl, h0, r0⟩ := trodAll_cons hA
  obtain ⟨v1, vs1, d1, ds1, p1, q1, rfl, rfl, rfl, h1, r1⟩ := trodAll_cons r0
  obtain ⟨v2, vs2, d2, ds2, p2, q2, rfl, rfl, rfl, h2, r2⟩ := trodAll_cons r1
  obtain ⟨rfl, rfl, rfl⟩ := trodAll_nil r2
  obtain rfl : args = #[v0, v1, v2] := by cases args; simp_all
  obtain ⟨rfl, rfl⟩ := trodVars_none hV
  have lt0 : ∀ x ∈ p0, x.block < W.heap.size := by obtain ⟨m, hm⟩ := h0; exact DataW.trod_lt m _ _ _ hm
  obtain ⟨l0, hl0, rfl⟩ := open_u8s Try.underlying34 Try.underlying5 (by kernel_rfl) (by kernel_rfl) (hval 0 34 v0 rfl rfl) h0
  obtain ⟨a1, n1, c1, rfl⟩ := okWide_slice Try.underlying40 (hval 1 40 v1 rfl rfl)
  have lt1 : ∀ x ∈ p1, x.block < W.heap.size := by obtain ⟨m, hm⟩ := h1; exact DataW.trod_lt m _ _ _ hm
  obtain ⟨l1, hl1, hc1, hm1, hr1⟩ := open_rows Try.underlying40 Try.underlying28 Try.underlying5 (by kernel_rfl) (by kernel_rfl) h1
  obtain ⟨a2, n2, c2, rfl⟩ := okWide_slice Try.underlying40 (hval 2 40 v2 rfl rfl)
  have lt2 : ∀ x ∈ p2, x.block < W.heap.size := by obtain ⟨m, hm⟩ := h2; exact DataW.trod_lt m _ _ _ hm
  obtain ⟨l2, hl2, hc2, hm2, hr2⟩ := open_rows Try.underlying40 Try.underlying28 Try.underlying5 (by kernel_rfl) (by kernel_rfl) h2
  clear hA0 hval0
  refine (sealRows_any W l0 hl0 a1 n1 c1 l1 hl1 hc1 hm1 hr1 a2 n2 c2 l2 hl2 hc2 hm2 hr2).mono fun e W' ⟨he, bel⟩ => ?_
  subst he
  exact ⟨_, rfl, _, _, _, [], _, [], hW', trodAll_mk1 (shut_bool Try.underlying4 _), (trodAll_cons_mk (Below.trod sealRows_laid (by kernel_rfl) (of_decide_eq_true (by kernel_rfl)) h0 bel lt0) (trodAll_cons_mk (Below.trod sealRows_laid (by kernel_rfl) (of_decide_eq_true (by kernel_rfl)) h1 bel lt1) (trodAll_cons_mk (Below.trod sealRows_laid (by kernel_rfl) (of_decide_eq_true (by kernel_rfl)) h2 bel lt2) trodAll_mk0))), rfl, bel.frame _, fun h => by cases h⟩

theorem sealRows_holds : Rows.SealRowsSaid :=
  OpenClaim.holds_of_wide 8 Try.f8 rfl rfl rfl rfl rfl rfl rfl ⟨rfl, rfl, rfl, rfl, rfl⟩ rfl rfl rfl rfl rfl (by kernel_rfl) Try.func8 (by kernel_rfl)
    (of_decide_eq_true (by kernel_rfl)) (by unfold Func.isWrapper; rw [if_neg (of_decide_eq_false (by kernel_rfl))]; exact ⟨rfl, rfl⟩)
    (fun os started H enc _ => sealRows_lifted os started H enc)

#print axioms sealRows_holds

end Go.Proofs.Ytdemfaolkmillaa
