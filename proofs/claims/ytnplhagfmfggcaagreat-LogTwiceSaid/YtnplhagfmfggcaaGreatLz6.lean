/-
  Texts of this seat, one behind the other: LoCmp, LoLay, LoSort, LoSearch, LoOpen, LoSrch, LoTwO.
-/
import Derived.Shelf.SlSortCmp.WholeK
import Derived.OrdersHeld
import Derived.Deep.RegionHeld
import Derived.Shelf.SlGeneric
import Derived.Ground.SlsfProg
import Derived.Test.YtnplhagfmfggcaaGreatProg
import Derived.Shelf.SlSortCmp.NoneTotal
import Derived.Test.YtnplhagfmfggcaaGreatLz5
/-
  How what is found is held against each other: by the generation, and of one generation by the place.
-/
namespace Go.Proofs.YtnplhagfmfggcaaGreat.Lo
open Go.RowKit Go.Shelf Go.Sort Mi
attribute [local go_sem ↓] Go.wp_at_zero Go.wp_at_succ
/-- -1, 0, 1. -/
def cmpI (a b : Int) : Int := if a < b then -1 else if b < a then 1 else 0
theorem cmpI_neg (a b : Int) : cmpI a b < 0 ↔ a < b := by unfold cmpI; split <;> (try split) <;> omega
theorem cmpI_zero (a b : Int) : cmpI a b = 0 ↔ a = b := by unfold cmpI; split <;> (try split) <;> omega
set_option maxRecDepth 100000 in
theorem cmpU_any (a b : Nat) (w : World) : Calls Tryz.prog 35 #[.int .u64 (a : Int), .int .u64 (b : Int)] w (fun e w' => e = .returned (.int .i64 (cmpI a b)) ∧ w' = w) := by
  have e1 : ((a : Int) != (a : Int)) = false := by simp
  have e2 : ((b : Int) != (b : Int)) = false := by simp
  by_cases h1 : a < b
  · have HV := Lib.hid (show cmpI a b = -1 by rw [cmpI, if_pos (by omega)])
    rw [HV.out]
    clear HV
    go_enter Tryz.func35, Tryz.ntmps35
    go_wp2
    all_goals (first | omega | (go_ret; exact ⟨rfl, rfl⟩))
  · by_cases h2 : b < a
    · have HV := Lib.hid (show cmpI a b = 1 by rw [cmpI, if_neg (by omega), if_pos (by omega)])
      rw [HV.out]
      clear HV
      go_enter Tryz.func35, Tryz.ntmps35
      go_wp2
      all_goals (first | omega | (go_ret; exact ⟨rfl, rfl⟩))
    · have HV := Lib.hid (show cmpI a b = 0 by rw [cmpI, if_neg (by omega), if_neg (by omega)])
      rw [HV.out]
      clear HV
      go_enter Tryz.func35, Tryz.ntmps35
      go_wp2
      all_goals (first | omega | (go_ret; exact ⟨rfl, rfl⟩))
set_option maxRecDepth 100000 in
theorem cmpI_any (a b : Int) (w : World) : Calls Tryz.prog 36 #[.int .i64 a, .int .i64 b] w (fun e w' => e = .returned (.int .i64 (cmpI a b)) ∧ w' = w) := by
  have e1 : ((a : Int) != (a : Int)) = false := by simp
  have e2 : ((b : Int) != (b : Int)) = false := by simp
  by_cases h1 : a < b
  · have HV := Lib.hid (show cmpI a b = -1 by rw [cmpI, if_pos (by omega)])
    rw [HV.out]
    clear HV
    go_enter Tryz.func36, Tryz.ntmps36
    go_wp2
    all_goals (first | omega | (go_ret; exact ⟨rfl, rfl⟩))
  · by_cases h2 : b < a
    · have HV := Lib.hid (show cmpI a b = 1 by rw [cmpI, if_neg (by omega), if_pos (by omega)])
      rw [HV.out]
      clear HV
      go_enter Tryz.func36, Tryz.ntmps36
      go_wp2
      all_goals (first | omega | (go_ret; exact ⟨rfl, rfl⟩))
    · have HV := Lib.hid (show cmpI a b = 0 by rw [cmpI, if_neg (by omega), if_neg (by omega)])
      rw [HV.out]
      clear HV
      go_enter Tryz.func36, Tryz.ntmps36
      go_wp2
      all_goals (first | omega | (go_ret; exact ⟨rfl, rfl⟩))
/-- The first of two that isn't 0. -/
def orI (x y : Int) : Int := if x = 0 then y else x
set_option maxRecDepth 100000 in
theorem cmpOr_any (b : Nat) (x y : Int) (w : World) (h : Blk w b #[.int .i64 x, .int .i64 y] 3) : Calls Tryz.prog 34 #[.slice (some ⟨b, 0, none⟩) 2 2] w (fun e w' => e = .returned (.int .i64 (orI x y)) ∧ w' = w) := by
  have c0 : w.cell? ⟨b, 0, none⟩ = some (.int .i64 x) := h.cell 0
  have c1 : w.cell? ⟨b, 1, none⟩ = some (.int .i64 y) := h.cell 1
  clear h
  go_enter Tryz.func34, Tryz.ntmps34
  go_wp2_with fail
  go_loop [8] (fun i => i = .int .i64 0 ∨ (i = .int .i64 1 ∧ x = 0) ∨ (i = .int .i64 2 ∧ x = 0 ∧ y = 0)) (fun i => 2 - (intOf i).toNat)
  case atStart => exact .inl rfl
  case round =>
    rcases hrel with rfl | ⟨rfl, hx⟩ | ⟨rfl, hx, hy⟩
    · by_cases hz : x = 0
      · subst hz
        go_wp2_with fail
        go_round
        case rel => simp
        case measure => decide
      · have e1 : (x != 0) = true := bne_iff_ne.2 hz
        have HV := Lib.hid (show orI x y = x from if_neg hz)
        clear hz
        go_wp2_with fail
        go_ret
        exact ⟨by rw [HV.out]; rfl, rfl⟩
    · subst hx
      have HV := Lib.hid (show orI 0 y = y from if_pos rfl)
      by_cases hz : y = 0
      · subst hz
        go_wp2_with fail
        go_round
        case rel => simp
        case measure => decide
      · have e1 : (y != 0) = true := bne_iff_ne.2 hz
        clear hz
        go_wp2_with fail
        go_ret
        exact ⟨by rw [HV.out]; rfl, rfl⟩
    · subst hx
      subst hy
      go_wp2_with fail
      go_ret
      exact ⟨by rfl, rfl⟩
end Go.Proofs.YtnplhagfmfggcaaGreat.Lo
/-
  The sort of what is found: the library's contract over any program, laid at this program: a table of numbers, and one theorem.
-/
namespace Go.Proofs.YtnplhagfmfggcaaGreat.Lo
open Go.Shelf
def sortFd_ren : Go.Shelf.Ren := ⟨fun | 6 => 32 | 15 => 61 | 14 => 60 | 28 => 86 | 29 => 87 | 20 => 78 | 21 => 79 | 22 => 80 | 23 => 81 | 24 => 82 | 25 => 83 | 26 => 84 | 27 => 85 | 46 => 92 | 47 => 93 | 48 => 94 | 49 => 95 | 50 => 96 | 57 => 98 | n => n, fun | 22 => 42 | 24 => 57 | 25 => 90 | 3 => 3 | 39 => 125 | 0 => 0 | 53 => 149 | 55 => 50 | 4 => 4 | 46 => 143 | 45 => 142 | 50 => 109 | 5 => 5 | 9 => 9 | 66 => 156 | 70 => 160 | 76 => 162 | 77 => 58 | n => n, fun | n => n⟩
theorem sortFd : Go.Proofs.SlLaysF0.n6 Tryz.prog sortFd_ren := {
  mixed := by kernel_rfl
  f6 := ⟨Tryz.f32.name, by decide, Tryz.func32.trans (congrArg some (by kernel_rfl))⟩
  f14 := ⟨Tryz.f60.name, by decide, Tryz.func60.trans (congrArg some (by kernel_rfl))⟩
  f15 := Tryz.func61.trans (congrArg some (by kernel_rfl))
  f20 := ⟨Tryz.f78.name, by decide, Tryz.func78.trans (congrArg some (by kernel_rfl))⟩
  f21 := ⟨Tryz.f79.name, by decide, Tryz.func79.trans (congrArg some (by kernel_rfl))⟩
  f22 := ⟨Tryz.f80.name, by decide, Tryz.func80.trans (congrArg some (by kernel_rfl))⟩
  f23 := ⟨Tryz.f81.name, by decide, Tryz.func81.trans (congrArg some (by kernel_rfl))⟩
  f24 := ⟨Tryz.f82.name, by decide, Tryz.func82.trans (congrArg some (by kernel_rfl))⟩
  f25 := ⟨Tryz.f83.name, by decide, Tryz.func83.trans (congrArg some (by kernel_rfl))⟩
  f26 := ⟨Tryz.f84.name, by decide, Tryz.func84.trans (congrArg some (by kernel_rfl))⟩
  f27 := ⟨Tryz.f85.name, by decide, Tryz.func85.trans (congrArg some (by kernel_rfl))⟩
  f28 := Tryz.func86.trans (congrArg some (by kernel_rfl))
  f29 := Tryz.func87.trans (congrArg some (by kernel_rfl))
  f46 := ⟨Tryz.f92.name, by decide, Tryz.func92.trans (congrArg some (by kernel_rfl))⟩
  f47 := Tryz.func93.trans (congrArg some (by kernel_rfl))
  f48 := Tryz.func94.trans (congrArg some (by kernel_rfl))
  f49 := ⟨Tryz.f95.name, by decide, Tryz.func95.trans (congrArg some (by kernel_rfl))⟩
  f50 := ⟨Tryz.f96.name, by decide, Tryz.func96.trans (congrArg some (by kernel_rfl))⟩
  f57 := ⟨Tryz.f98.name, by decide, Tryz.func98.trans (congrArg some (by kernel_rfl))⟩
  t0 := Tryz.underlying0
  a0 := Tryz.isAgg0
  z0 := Tryz.sizeOf0
  v0 := Tryz.zeroValue0
  t3 := Tryz.underlying3
  a3 := Tryz.isAgg3
  z3 := Tryz.sizeOf3
  v3 := Tryz.zeroValue3
  t4 := Tryz.underlying4
  a4 := Tryz.isAgg4
  z4 := Tryz.sizeOf4
  v4 := Tryz.zeroValue4
  t5 := Tryz.underlying5
  a5 := Tryz.isAgg5
  z5 := Tryz.sizeOf5
  v5 := Tryz.zeroValue5
  t9 := Tryz.underlying9
  a9 := Tryz.isAgg9
  z9 := Tryz.sizeOf9
  v9 := Tryz.zeroValue9
  t22 := Tryz.underlying42
  a22 := Tryz.isAgg42
  z22 := Tryz.sizeOf42
  v22 := Tryz.zeroValue42
  t25 := Tryz.underlying90
  a25 := Tryz.isAgg90
  z25 := Tryz.sizeOf90
  v25 := Tryz.zeroValue90
  t39 := Tryz.underlying125
  a39 := Tryz.isAgg125
  z39 := Tryz.sizeOf125
  v39 := Tryz.zeroValue125
  t45 := Tryz.underlying142
  a45 := Tryz.isAgg142
  z45 := Tryz.sizeOf142
  v45 := Tryz.zeroValue142
  t46 := Tryz.underlying143
  a46 := Tryz.isAgg143
  z46 := Tryz.sizeOf143
  v46 := Tryz.zeroValue143
  t50 := Tryz.underlying109
  a50 := Tryz.isAgg109
  z50 := Tryz.sizeOf109
  v50 := Tryz.zeroValue109
  t53 := Tryz.underlying149
  a53 := Tryz.isAgg149
  z53 := Tryz.sizeOf149
  v53 := Tryz.zeroValue149
  t55 := Tryz.underlying50
  a55 := Tryz.isAgg50
  z55 := Tryz.sizeOf50
  v55 := Tryz.zeroValue50
  t66 := Tryz.underlying156
  a66 := Tryz.isAgg156
  z66 := Tryz.sizeOf156
  v66 := Tryz.zeroValue156
  t70 := Tryz.underlying160
  a70 := Tryz.isAgg160
  z70 := Tryz.sizeOf160
  v70 := Tryz.zeroValue160
  t76 := Tryz.underlying162
  a76 := Tryz.isAgg162
  z76 := Tryz.sizeOf162
  v76 := Tryz.zeroValue162
  t77 := Tryz.underlying58
  a77 := Tryz.isAgg58
  z77 := Tryz.sizeOf58
  v77 := Tryz.zeroValue58 }
end Go.Proofs.YtnplhagfmfggcaaGreat.Lo
/-
  The function by which what is found is sorted, and the sort.
-/
namespace Go.Proofs.YtnplhagfmfggcaaGreat.Lo
open Go.RowKit Go.Shelf Go.Sort Mi
attribute [local go_sem ↓] Go.wp_at_zero Go.wp_at_succ
def cfFd (x y : Fd) : Int := orI (cmpI (x.gen : Int) (y.gen : Int)) (cmpI (x.at_ : Int) (y.at_ : Int))
theorem cfFd_neg (x y : Fd) : cfFd x y < 0 ↔ ltF x.it y.it := by
  unfold cfFd orI ltF
  have e1 : (cmpI (x.gen : Int) (y.gen : Int) = 0) ↔ x.gen = y.gen := by rw [cmpI_zero]; omega
  have e2 : (cmpI (x.gen : Int) (y.gen : Int) < 0) ↔ x.gen < y.gen := by rw [cmpI_neg]; omega
  have e3 : (cmpI (x.at_ : Int) (y.at_ : Int) < 0) ↔ x.at_ < y.at_ := by rw [cmpI_neg]; omega
  show _ ↔ (x.gen < y.gen ∨ (x.gen = y.gen ∧ x.at_ < y.at_))
  by_cases h : cmpI (x.gen : Int) (y.gen : Int) = 0
  · rw [if_pos h, e3]; have := e1.1 h; omega
  · rw [if_neg h, e2]; have : ¬ x.gen = y.gen := fun e => h (e1.2 e); omega
theorem ltOf_cf (x y : Fd) : ltOf cfFd x y = true ↔ ltF x.it y.it := by
  unfold ltOf; rw [decide_eq_true_iff]; exact cfFd_neg x y
theorem ltOf_cf_no (x y : Fd) : ltOf cfFd x y = false ↔ ¬ ltF x.it y.it := by
  rw [← ltOf_cf]; simp
theorem ltFdef (x y : Fd) : ltF x.it y.it ↔ (x.gen < y.gen ∨ (x.gen = y.gen ∧ x.at_ < y.at_)) := Iff.rfl
theorem swoFd : SWO (ltOf cfFd) where
  irrefl x := by rw [ltOf_cf_no, ltFdef]; omega
  trans x y z h1 h2 := by rw [ltOf_cf, ltFdef] at *; omega
  ntrans x y z h1 h2 := by rw [ltOf_cf_no, ltFdef] at *; omega
set_option maxRecDepth 100000 in
set_option maxHeartbeats 3200000 in
theorem closure_any (x y : Fd) (w : World) : Calls Tryz.prog 33 #[.agg #[.int .i64 (x.at_ : Int), .int .u64 (x.gen : Int), .slice x.A x.b.length x.c], .agg #[.int .i64 (y.at_ : Int), .int .u64 (y.gen : Int), .slice y.A y.b.length y.c]] w
    (fun e w' => e = .returned (.int .i64 (cfFd x y)) ∧ ∃ q os, w' = Sort.grow (w.drewN q) os) := by
  obtain ⟨xs, hxs⟩ : ∃ l : Array Value, l = #[.int .i64 (x.at_ : Int), .int .u64 (x.gen : Int), .slice x.A x.b.length x.c] := ⟨_, rfl⟩
  obtain ⟨ys, hys⟩ : ∃ l : Array Value, l = #[.int .i64 (y.at_ : Int), .int .u64 (y.gen : Int), .slice y.A y.b.length y.c] := ⟨_, rfl⟩
  obtain ⟨w2, hw2⟩ : ∃ w2, w2 = (w.alloc (.cells xs 57)).alloc (.cells ys 57) := ⟨_, rfl⟩
  have B0 := Lib.hid (show Blk w2 w.heap.size xs 57 by rw [hw2]; exact (show Blk (w.alloc _) w.heap.size xs 57 from heap_alloc_new _ _).below ((Below.refl _ _).alloc (Nat.le_refl _) _))
  have B1 := Lib.hid (show Blk w2 (w.heap.size + 1) ys 57 by rw [hw2]; exact heap_alloc2_new _ _ _)
  have HW2 := Lib.hid hw2
  have HXS := Lib.hid hxs
  have HYS := Lib.hid hys
  rw [← hxs, ← hys]
  obtain ⟨cv, hcv⟩ : ∃ v, v = cfFd x y := ⟨_, rfl⟩
  have HCV := Lib.hid hcv
  rw [← hcv]
  clear hxs hys hcv
  go_enter Tryz.func33, Tryz.ntmps33
  go_upto_region 1 with fail
  rw [← hw2]
  obtain ⟨b0, hb0⟩ : ∃ b, b = w.heap.size := ⟨_, rfl⟩
  rw [← hb0] at B0 B1
  rw [← hb0]
  clear hw2 hb0
  refine wp_region_held_drew (S := (fun w' => Blk w' b0 xs 57 ∧ Blk w' (b0 + 1) ys 57)) (by kernel_rfl) ⟨(show Blk (World.drew _) _ _ _ from B0.out), (show Blk (World.drew _) _ _ _ from B1.out)⟩ (fun hh => ?_)
  have HH := Lib.hid hh
  clear hh
  refine wpAnyH_take (i := 0) (v := ?vc0) rfl (by kernel_rfl) (by kernel_rfl) (by kernel_rfl) (fun _ _ _ h => h) (Or.inl ⟨by rfl, fun w' _ => ?yc0⟩) HH.out ?_
  case yc0 => (go_simp; try with_reducible rfl)
  refine wpAnyH_take (i := 1) (v := .int .u64 (x.gen : Int)) rfl (by kernel_rfl) (by kernel_rfl) (by kernel_rfl) (fun _ _ _ h => h) (Or.inl ⟨by rfl, fun w' hw' => ?la1⟩) HH.out ?_
  case la1 =>
    have hc : w'.cell? ⟨b0, 1, none⟩ = some (.int .u64 (x.gen : Int)) := by rw [Blk.cell hw'.1 1, HXS.out]; rfl
    go_simp; try with_reducible rfl
  try simp only [List.getElem_toArray, List.getElem_cons_succ, List.getElem_cons_zero, Act.put, List.setIfInBounds_toArray, List.set_cons_zero, List.set_cons_succ]
  try simp only [List.getElem_toArray, List.getElem_cons_succ, List.getElem_cons_zero, Act.put, List.setIfInBounds_toArray, List.set_cons_zero, List.set_cons_succ]
  refine wpAnyH_take (i := 2) (v := ?vc2) rfl (by kernel_rfl) (by kernel_rfl) (by kernel_rfl) (fun _ _ _ h => h) (Or.inl ⟨by rfl, fun w' _ => ?yc2⟩) HH.out ?_
  case yc2 => (go_simp; try with_reducible rfl)
  refine wpAnyH_take (i := 3) (v := .int .u64 (y.gen : Int)) rfl (by kernel_rfl) (by kernel_rfl) (by kernel_rfl) (fun _ _ _ h => h) (Or.inl ⟨by rfl, fun w' hw' => ?la3⟩) HH.out ?_
  case la3 =>
    have hc : w'.cell? ⟨b0 + 1, 1, none⟩ = some (.int .u64 (y.gen : Int)) := by rw [Blk.cell hw'.2 1, HYS.out]; rfl
    go_simp; try with_reducible rfl
  try simp only [List.getElem_toArray, List.getElem_cons_succ, List.getElem_cons_zero, Act.put, List.setIfInBounds_toArray, List.set_cons_zero, List.set_cons_succ]
  refine wpAnyH_take (i := 5) (v := ?vc5) rfl (by kernel_rfl) (by kernel_rfl) (by kernel_rfl) (fun _ _ _ h => h) (Or.inl ⟨by rfl, fun w' _ => ?yc5⟩) HH.out ?_
  case yc5 => (go_simp; try with_reducible rfl)
  try simp only [List.getElem_toArray, List.getElem_cons_succ, List.getElem_cons_zero, Act.put, List.setIfInBounds_toArray, List.set_cons_zero, List.set_cons_succ]
  refine wpAnyH_take (i := 6) (v := .int .i64 (x.at_ : Int)) rfl (by kernel_rfl) (by kernel_rfl) (by kernel_rfl) (fun _ _ _ h => h) (Or.inl ⟨by rfl, fun w' hw' => ?la6⟩) HH.out ?_
  case la6 =>
    have hc : w'.cell? ⟨b0, 0, none⟩ = some (.int .i64 (x.at_ : Int)) := by rw [Blk.cell hw'.1 0, HXS.out]; rfl
    go_simp; try with_reducible rfl
  try simp only [List.getElem_toArray, List.getElem_cons_succ, List.getElem_cons_zero, Act.put, List.setIfInBounds_toArray, List.set_cons_zero, List.set_cons_succ]
  refine wpAnyH_take (i := 7) (v := ?vc7) rfl (by kernel_rfl) (by kernel_rfl) (by kernel_rfl) (fun _ _ _ h => h) (Or.inl ⟨by rfl, fun w' _ => ?yc7⟩) HH.out ?_
  case yc7 => (go_simp; try with_reducible rfl)
  refine wpAnyH_take (i := 8) (v := .int .i64 (y.at_ : Int)) rfl (by kernel_rfl) (by kernel_rfl) (by kernel_rfl) (fun _ _ _ h => h) (Or.inl ⟨by rfl, fun w' hw' => ?la8⟩) HH.out ?_
  case la8 =>
    have hc : w'.cell? ⟨b0 + 1, 0, none⟩ = some (.int .i64 (y.at_ : Int)) := by rw [Blk.cell hw'.2 0, HYS.out]; rfl
    go_simp; try with_reducible rfl
  try simp only [List.getElem_toArray, List.getElem_cons_succ, List.getElem_cons_zero, Act.put, List.setIfInBounds_toArray, List.set_cons_zero, List.set_cons_succ]
  try simp only [List.getElem_toArray, List.getElem_cons_succ, List.getElem_cons_zero, Act.put, List.setIfInBounds_toArray, List.set_cons_zero, List.set_cons_succ]
  refine wpAnyH_ready (rs := [4]) (by kernel_rfl) (by simp) (AllReadyH.cons rfl (fun K hK => ?_) AllReadyH.nil)
  go_simp
  refine (cmpU_any x.gen y.gen _).mono ?_
  rintro e w' ⟨rfl, rfl⟩
  obtain ⟨c1, hc1⟩ : ∃ c, c = cmpI (x.gen : Int) (y.gen : Int) := ⟨_, rfl⟩
  rw [← hc1]
  have HC1 := Lib.hid hc1
  clear hc1
  go_simp
  refine hK.out _ _ HH.out (fun hh => ?_)
  have HH' := Lib.hid hh
  clear hh hK K HH 
  have HH := Lib.hid HH'.out
  clear HH'
  try simp only [List.getElem_toArray, List.getElem_cons_succ, List.getElem_cons_zero, Act.put, List.setIfInBounds_toArray, List.set_cons_zero, List.set_cons_succ]
  refine wpAnyH_ready (rs := [9]) (by kernel_rfl) (by simp) (AllReadyH.cons rfl (fun K hK => ?_) AllReadyH.nil)
  go_simp
  refine (cmpI_any (x.at_ : Int) (y.at_ : Int) _).mono ?_
  rintro e w' ⟨rfl, rfl⟩
  obtain ⟨c2, hc2⟩ : ∃ c, c = cmpI (x.at_ : Int) (y.at_ : Int) := ⟨_, rfl⟩
  rw [← hc2]
  have HC2 := Lib.hid hc2
  clear hc2
  go_simp
  refine hK.out _ _ HH.out (fun hh => ?_)
  have HH' := Lib.hid hh
  clear hh hK K HH 
  have HH := Lib.hid HH'.out
  clear HH'
  try simp only [List.getElem_toArray, List.getElem_cons_succ, List.getElem_cons_zero, Act.put, List.setIfInBounds_toArray, List.set_cons_zero, List.set_cons_succ]
  refine wpAnyH_ready (rs := [10]) (by kernel_rfl) (by simp) (AllReadyH.cons rfl (fun K hK => ?_) AllReadyH.nil)
  rw [if_pos (by rfl)]
  refine wp_buildSliceN 126 2 #[(0, .tmp 9), (1, .tmp 14)] rfl (v := .slice (some ⟨w2.drew.heap.size, 0, none⟩) 2 2) (w' := w2.drew.alloc (.cells #[.int .i64 c1, .int .i64 c2] 3)) (by simp only [List.map_toArray, List.map_cons, List.map_nil]; kernel_rfl) ?_
  have BC := Lib.hid (show Blk (w2.drew.alloc (.cells #[.int .i64 c1, .int .i64 c2] 3)) w2.drew.heap.size #[.int .i64 c1, .int .i64 c2] 3 from heap_alloc_new _ _)
  have bb : Below w2.drew.heap.size w2.drew (w2.drew.alloc (.cells #[.int .i64 c1, .int .i64 c2] 3)) := (Below.refl _ _).alloc (Nat.le_refl _) _
  refine hK.out _ _ ⟨Blk.below HH.out.1 bb, Blk.below HH.out.2 bb⟩ (fun hh => ?_)
  have HH' := Lib.hid hh
  clear hh hK K HH bb
  have HH := Lib.hid HH'.out
  clear HH'
  try simp only [List.getElem_toArray, List.getElem_cons_succ, List.getElem_cons_zero, Act.put, List.setIfInBounds_toArray, List.set_cons_zero, List.set_cons_succ]
  try simp only [List.getElem_toArray, List.getElem_cons_succ, List.getElem_cons_zero, Act.put, List.setIfInBounds_toArray, List.set_cons_zero, List.set_cons_succ]
  refine wpAnyH_ready (rs := [11]) (by kernel_rfl) (by simp) (AllReadyH.cons rfl (fun K hK => ?_) AllReadyH.nil)
  go_simp
  refine (cmpOr_any _ c1 c2 _ BC.out).mono ?_
  rintro e w' ⟨rfl, rfl⟩
  go_simp
  refine hK.out _ _ HH.out (fun hh => ?_)
  have HH' := Lib.hid hh
  clear hh hK K HH 
  have HH := Lib.hid HH'.out
  clear HH'
  refine wpAnyH_take (i := 12) (v := ?vc12) rfl (by kernel_rfl) (by kernel_rfl) (by kernel_rfl) (fun _ _ _ h => h) (Or.inl ⟨by rfl, fun w' _ => ?yc12⟩) HH.out ?_
  case yc12 => (go_simp; try with_reducible rfl)
  try simp only [List.getElem_toArray, List.getElem_cons_succ, List.getElem_cons_zero, Act.put, List.setIfInBounds_toArray, List.set_cons_zero, List.set_cons_succ]
  refine wpAnyH_done (by kernel_rfl) ?_ _
  go_wp2_with fail
  go_ret
  refine ⟨by rw [HCV.out, cfFd, HC1.out, HC2.out]; rfl, 1, #[.cells xs 57, .cells ys 57, .cells #[.int .i64 c1, .int .i64 c2] 3], ?_⟩
  simp only [HW2.out, alloc_eq_grow, grow_grow, drew_grow]
  rfl
/-! ### The row, sorted -/
instance : Inhabited Fd := ⟨⟨0, 0, [], none, 0⟩⟩
theorem fdV_one (x : Fd) : ∀ v ∈ fdV x, v.oneCell' = true := by
  intro v hv
  simp [fdV] at hv
  rcases hv with rfl | rfl | rfl <;> rfl
theorem fds_at {l : List Fd} {k c : Nat} (hk : k < l.length) (hc : c < 3) : (fds l)[k * 3 + c]? = some ((fdV l[k])[c]!) := by
  obtain ⟨h0, h1, h2⟩ := fds_get (List.getElem?_eq_getElem hk)
  have : c = 0 ∨ c = 1 ∨ c = 2 := by omega
  rcases this with rfl | rfl | rfl
  · exact h0
  · exact h1
  · exact h2
theorem flat_fds (d : Array Fd) : flatK fdV 3 d = (fds d.toList).toArray := by
  apply Array.ext
  · rw [size_flatK]; simp [fds_length]
  · intro t h1 h2
    have ht : t < d.size * 3 := by rwa [size_flatK] at h1
    have hk : t / 3 < d.toList.length := by rw [Array.length_toList]; omega
    have e := fds_at (l := d.toList) (c := t % 3) hk (by omega)
    rw [show t / 3 * 3 + t % 3 = t by omega] at e
    have e2 := get_flatK fdV 3 d t ht
    rw [getElem!_pos _ t (by rw [size_flatK]; exact ht)] at e2
    rw [e2]
    have e3 : (fds d.toList).toArray[t]'h2 = (fds d.toList)[t]'(by simpa using h2) := by simp
    rw [e3]
    have e4 := List.getElem?_eq_getElem (l := fds d.toList) (i := t) (by simpa using h2)
    rw [e] at e4
    injection e4 with e4
    rw [← e4, getElem!_pos d (t / 3) (by omega)]
    simp
theorem holds_fds {w : World} {g base n c : Nat} {l : List Fd} (h : w.ownsRow base 57 3 (.slice (some ⟨g, 0, none⟩) n c) n (fds l)) : HoldsK fdV 3 w g 0 l.toArray := by
  intro j hj
  have hf := flat_fds l.toArray
  rw [hf] at hj ⊢
  simp only [id, Nat.zero_add] at *
  have hj' : j < (fds l).length := by simpa using hj
  obtain ⟨g', cap, cur, hv, _, hb, _, _, hsz, htk⟩ := h.2.resolve_left (fun h0 => by cases h0.1)
  injection hv with hv _ hc
  injection hv with hv
  injection hv with hv
  subst hv
  have hB : Blk w g cur 57 := hb
  refine ⟨?_, hB.free j⟩
  rw [hB.cell j, getElem!_pos _ j (by simpa using hj)]
  have hjc : j < n * 3 := by have := h.1; omega
  have e : (cur.toList.take (n * 3))[j]? = some ((fds l)[j]) := by rw [htk, List.getElem?_eq_getElem hj']
  rw [List.getElem?_take_of_lt hjc] at e
  simpa using e
theorem own_sorted {w : World} {g base n c : Nat} {l : List Fd} (h : w.ownsRow base 57 3 (.slice (some ⟨g, 0, none⟩) n c) n (fds l)) (d : Array Fd) (hd : d.size = n) (m : Nat) (os : Array Obj) :
    (sortWorldK fdV 3 w g 0 m d os).ownsRow base 57 3 (.slice (some ⟨g, 0, none⟩) n c) n (fds d.toList) ∧ But (fun k => k = g) w (sortWorldK fdV 3 w g 0 m d os) := by
  have hH := holds_fds h
  have hl : l.toArray.size = n := by have := h.1; rw [fds_length] at this; simp; omega
  obtain ⟨g', cap, cur, hv, hbase, hb, hnc, hcm, hsz, htk⟩ := h.2.resolve_left (fun h0 => by cases h0.1)
  injection hv with hv _ hc
  injection hv with hv
  injection hv with hv
  subst hv
  subst hc
  have hlt : g < w.heap.size := (Array.getElem?_eq_some_iff.1 hb).1
  obtain ⟨Fl, hFl⟩ : ∃ Fl, Fl = fds d.toList := ⟨_, rfl⟩
  have hFz : Fl.length = n * 3 := by rw [hFl, fds_length]; simp [hd]
  have hfl : flatK fdV 3 d = Fl.toArray := by rw [flat_fds, hFl]
  have hmod : ∀ k, k < w.heap.size → (sortWorldK fdV 3 w g 0 m d os).heap[k]? = if g = k then some (.cells (putCells id 0 Fl.toArray cur) 57 (0, 0)) else w.heap[k]? := by
    intro k hk
    unfold sortWorldK putRowK putRow mapBlock
    rw [heap_grow_old _ _ (by simp; exact hk), hfl]
    show ((Sort.ahead w m).heap.modify g _)[k]? = _
    rw [Array.getElem?_modify]
    by_cases e : g = k
    · subst e
      rw [if_pos rfl, if_pos rfl]
      show (w.heap[g]?).map _ = _
      rw [hb]; rfl
    · rw [if_neg e, if_neg e]; rfl
  refine ⟨⟨by rw [fds_length]; simp [hd], .inr ⟨g, c, putCells id 0 Fl.toArray cur, rfl, hbase, ?_, hnc, hcm, ?_, ?_⟩⟩, ?_⟩
  · rw [hmod g hlt, if_pos rfl]
  · rw [putCells, Array.size_mapIdx]; exact hsz
  · rw [← hFl]
    apply List.ext_getElem?
    intro j
    by_cases hj : j < n * 3
    · rw [List.getElem?_take_of_lt hj]
      have hjc : j < cur.size := by rw [hsz]; have := Nat.mul_le_mul_right 3 hnc; omega
      have hjF : j < Fl.length := by omega
      rw [Array.getElem?_toList, putCells, Array.getElem?_mapIdx, Array.getElem?_eq_getElem hjc]
      simp [hjF]
    · rw [List.getElem?_eq_none (by rw [List.length_take]; omega), List.getElem?_eq_none (by omega)]
  · refine ⟨rfl, rfl, rfl, ?_, fun k hk hS => ?_⟩
    · unfold sortWorldK putRowK putRow mapBlock
      rw [size_grow]
      simp [Sort.ahead]
    · rw [hmod k hk, if_neg (fun e => hS e.symm)]
/-- What is found is put in order. -/
theorem sort_any {w : World} {l : List Fd} {A : Option Addr} {n c : Nat} {F : Nat → Prop} (h : (FdL A n c).At w l F) (hn : n < 1000000) :
    Calls Tryz.prog 32 #[.slice A n c, .func (.func 33) #[] #[]] w (fun e w' => e = .returned (.tuple #[]) ∧ ∃ l', l'.Perm l ∧ l'.Pairwise (fun x y => ¬ ltF y.it x.it) ∧ (FdL A n c).At w' l' F ∧ But F w w') := by
  cases A with
  | none =>
    have hl : l = [] ∧ n = 0 := by
      have h1 := h.1.row.2
      rcases h1 with ⟨_, h0⟩ | ⟨g, cap, cur, hv, _⟩
      · have := fd_len h
        subst h0
        exact ⟨List.eq_nil_of_length_eq_zero this, rfl⟩
      · injection hv with hv; cases hv
    obtain ⟨rfl, rfl⟩ := hl
    have hc := AnyF.slices_SortFunc_none sortFd none c (.func (.func 33) #[] #[]) w
    refine Calls.mono (show Calls Tryz.prog 32 _ _ _ from hc) ?_
    rintro e w' ⟨rfl, rfl⟩
    exact ⟨rfl, [], List.Perm.refl _, List.Pairwise.nil, h, But.refl _⟩
  | some ad =>
    have hrow := h.1.row
    have hform := hrow.2.resolve_left (fun h0 => by cases h0.1)
    obtain ⟨g, cap, cur, hv, hbase, hb, hnc, hcm, hsz, htk⟩ := hform
    injection hv with hv _ hcc
    injection hv with hv
    subst hv
    subst hcc
    have hlt : g < w.heap.size := (Array.getElem?_eq_some_iff.1 hb).1
    have hl : l.toArray.size = n := by have := fd_len h; simpa using this
    have hg : F g := h.2.1 g (.inl rfl)
    have eg : ∀ args w, (callFunc 33 args).run Tryz.prog w = .ok (.enter 33 args) w := fun _ _ => by kernel_rfl
    have hC := AnyQ.slices_SortFunc sortFd 3 (fun _ => by kernel_rfl) (fun _ => by kernel_rfl) fdV (fun _ => rfl) fdV_one cfFd swoFd 33 #[] g 0 c l.toArray w eg (fun _ _ _ _ x y => closure_any x y _) (holds_fds hrow) hlt (by rw [hl]; omega)
    rw [hl] at hC
    refine Calls.mono (show Calls Tryz.prog 32 _ _ _ from hC) ?_
    rintro e w' ⟨rfl, d', m, os, hp, hs, rfl⟩
    have hd : d'.size = n := by rw [hp.1, hl]
    obtain ⟨ho, hbut⟩ := own_sorted hrow d' hd m os
    have hperm : d'.toList.Perm l := by
      have h3 := hp.2.2
      have e1 : d'.extract 0 n = d' := by rw [← hd]; simp
      have e2 : l.toArray.extract 0 n = l.toArray := by rw [← hl]; simp
      rw [e1, e2] at h3
      simpa using h3
    refine ⟨rfl, d'.toList, hperm, ?_, ⟨⟨ho, fun x hx => ?_⟩, ?_, fun k hk => Nat.lt_of_lt_of_le (h.2.2 k hk) hbut.size⟩, hbut.mono (fun k hk => by rw [hk]; exact hg)⟩
    · rw [List.pairwise_iff_getElem]
      intro i j hi hj hij
      have h1 := hs i j (Nat.zero_le _) hij (by rw [Array.length_toList] at hj; omega)
      rw [Array.length_toList] at hi hj
      rw [getElem!_pos d' i hi, getElem!_pos d' j hj, ltOf_cf_no] at h1
      simpa using h1
    · have hx2 := hperm.mem_iff.1 hx
      refine Own.but (h.1.bod x hx2) hbut (fun k hk e => ?_)
      subst e
      obtain ⟨cs, hcs⟩ := row_type (h.1.bod x hx2) k hk
      rw [hb] at hcs
      injection hcs with hcs
      injection hcs with _ hcs
      exact absurd hcs (by decide)
    · rintro k (hk | ⟨x, hx, hk⟩)
      · exact h.2.1 k (.inl hk)
      · exact h.2.1 k (.inr ⟨x, hperm.mem_iff.1 hx, hk⟩)
end Go.Proofs.YtnplhagfmfggcaaGreat.Lo
/-
  What search tells: all that is found, slot by slot; both devices have it then.
-/
namespace Go.Proofs.YtnplhagfmfggcaaGreat.Lo
open Go.RowKit Go.Maps Kd Mi Sx Sg
attribute [local go_sem ↓] Go.wp_at_zero Go.wp_at_succ
/-- What is found at the first places, and what the mirror is then. -/
def srchX (f : List UInt8 → List UInt8 → List UInt8) (gf : Int → List UInt8 → Bool) (x : Md) : Nat → Md × List (Nat × Nat × List UInt8)
  | 0 => (x, [])
  | k + 1 => match pickL f ((k + 2 : Nat) : Int) ((srchX f gf x k).1.both gf ((k + 2 : Nat) : Int)) with
    | some y => (((srchX f gf x k).1.write ((k + 2 : Nat) : Int) y).2, (srchX f gf x k).2 ++ [(k + 2, genS y, bodyS y)])
    | none => srchX f gf x k
theorem srch_len (f : List UInt8 → List UInt8 → List UInt8) (gf : Int → List UInt8 → Bool) (x : Md) : ∀ k, (srchX f gf x k).2.length ≤ k
  | 0 => Nat.le_refl _
  | k + 1 => by
    have ih := srch_len f gf x k
    rw [srchX]
    split
    · rw [List.length_append]; simpa using ih
    · omega
theorem foundElt : EltN Tryz.prog 42 57 (.agg #[.int .i64 0, .int .u64 0, .slice none 0 0]) 3 40 := ⟨Tryz.underlying42, by kernel_rfl, rfl, by omega, by omega⟩
theorem fd_snoc {w w' : World} {l : List Fd} {A A' : Option Addr} {n c c' : Nat} {F : Nat → Prop} (h : (FdL A n c).At w l F) (x : Fd) {base : Nat} (hb : w.ownsRow base 5 1 (.slice x.A x.b.length x.c) x.b.length (bv x.b))
    (ho : w'.ownsRow 0 57 3 (.slice A' (n + 1) c') (n + 1) (fds l ++ fdV x)) (hg : w.grownBy w' (Value.slice A n c).ownBlock) (hl : (Value.slice A' (n + 1) c').ownBlock = (Value.slice A n c).ownBlock ∨ (Value.slice A' (n + 1) c').ownBlock = some w.heap.size) :
    (FdL A' (n + 1) c').At w' (l ++ [x]) (fun k => F k ∨ (Value.slice x.A x.b.length x.c).ownBlock = some k ∨ (k = w.heap.size ∧ k < w'.heap.size)) ∧ But F w w' := by
  have hbut : But (fun k => (Value.slice A n c).ownBlock = some k) w w' := (But.refl w).grown hg (fun k hk => .inl hk)
  have hdis : ∀ {xs : List Value} {v : Value} {m b0 : Nat}, w.ownsRow b0 5 1 v m xs → ∀ k, v.ownBlock = some k → (Value.slice A n c).ownBlock = some k → False := by
    intro xs v m b0 hv k h1 h2
    obtain ⟨cs, e1⟩ := row_type hv k h1
    obtain ⟨cs', e2⟩ := row_type h.1.row k h2
    rw [e1] at e2
    injection e2 with e2
    injection e2 with _ e2
    exact absurd e2 (by decide)
  refine ⟨⟨⟨by rw [fds_append, fds, fds, List.append_nil]; exact ho, fun y hy => ?_⟩, ?_, ?_⟩, hbut.mono (fun k hk => h.2.1 k (.inl hk))⟩
  · rw [List.mem_append, List.mem_singleton] at hy
    rcases hy with hy | rfl
    · exact Own.but (h.1.bod y hy) hbut (hdis (h.1.bod y hy))
    · exact own_more (Own.but hb hbut (hdis hb)) (Nat.zero_le _)
  · rintro k (hk | ⟨y, hy, hk⟩)
    · rcases hl with e | e
      · rw [e] at hk; exact .inl (h.2.1 k (.inl hk))
      · rw [e] at hk
        injection hk with hk
        exact .inr (.inr ⟨hk.symm, by rw [← hk]; exact (ho.lt w.heap.size e).2⟩)
    · rw [List.mem_append, List.mem_singleton] at hy
      rcases hy with hy | rfl
      · exact .inl (h.2.1 k (.inr ⟨y, hy, hk⟩))
      · exact .inr (.inl hk)
  · rintro k (hk | hk | hk)
    · exact Nat.lt_of_lt_of_le (h.2.2 k hk) hbut.size
    · exact Nat.lt_of_lt_of_le (hb.lt k hk).2 hbut.size
    · exact hk.2
theorem logr_mlA {C : Duo} {G : Gd} {g q : Nat} {ci : SCiph} {w : World} {s : Mr C} {r : Rl} {F : Nat → Prop} (h : (LogR C G g q ci).At w (s, r) F) : ∃ F1, (ML C G g).At w s F1 ∧ ∀ {v : Value} {e : Ending} {s' : Mr C} {w' : World}, RetA (ML C G g) v s' F1 w e w' → RetA (LogR C G g q ci) v (s', r) F w e w' := by
  obtain ⟨F1, F2, h1, ⟨bm, ho, hq, hbm, h3⟩, hd, hF⟩ := h
  refine ⟨F1, h1, ?_⟩
  rintro v e s' w' ⟨rfl, F', hm⟩
  exact ⟨rfl, _, fin_own ⟨hq, hbm, h3, hd, hF⟩ hm (ho.but hm.but (fun h => hd q h hq) (fun h => hd bm h hbm)) (But.refl _)⟩
section
variable {p g1 g2 g q : Nat} {G : Gd} {ci : SCiph} {w w' : World} {s s' : Mr (Mu.one p g1 g2)} {r : Rl} {F : Nat → Prop} {x : Md} {m : Nat}
/-- So far. -/
def SrR (p g1 g2 g q : Nat) (G : Gd) (ci : SCiph) (w : World) (r : Rl) (F : Nat → Prop) (x : Md) (m k : Nat) (v : Value) (w' : World) : Prop :=
  ∃ (A : Option Addr) (n c : Nat) (l : List Fd) (s' : Mr (Mu.one p g1 g2)) (F' FF : Nat → Prop), v = .slice A n c ∧ Mv (LogR (Mu.one p g1 g2) G g q ci) w F w' (s', r) F' ∧ Mu.Sees s' (srchX ci.f G.f x k).1 (m + 2 * k) ∧ Mu.Dry s' (srchX ci.f G.f x k).1 ∧ (FdL A n c).At w' l FF ∧ l.map Fd.it = (srchX ci.f G.f x k).2 ∧ (∀ j, FF j → w.heap.size ≤ j) ∧ (∀ j, F' j → FF j → False)
theorem SrR.below {k : Nat} {v : Value} {w1 : World} (h : SrR p g1 g2 g q G ci w r F x m k v w1) (hb : Below w1.heap.size w1 w') : SrR p g1 g2 g q G ci w r F x m k v w' := by
  obtain ⟨A, n, c, l, s', F', FF, h1, h2, h3, h4, h5, h6⟩ := h
  exact ⟨A, n, c, l, s', F', FF, h1, h2.below hb, h3, h4, (FdL A n c).below h5 hb, h6⟩
set_option maxRecDepth 100000 in
set_option maxHeartbeats 12800000 in
theorem search_any (h : (LogR (Mu.one p g1 g2) G g q ci).At w (s, r) F) (hs : Mu.Sees s x m) (hd : Mu.Dry s x) (hm : m + 2 * (r.segs * r.size) < 900000) :
    Calls Tryz.prog 30 #[.pointer (some ⟨q, 0, none⟩)] w (fun e w' => ∃ v, e = .returned v ∧ SrR p g1 g2 g q G ci w r F x m (r.segs * r.size) v w') := by
  obtain ⟨bm, ho⟩ := logr_own h
  have hok := ho.ok
  have c2 : w.cell? ⟨q, 2, none⟩ = some (.int .i64 (r.segs : Int)) := ho.blk.cell 2
  have hsm := hok.small
  have HSM := Lib.hid (show r.segs ≤ 64 ∧ r.size ≤ 32 by omega)
  have HOK := Lib.hid hok
  have HM := Lib.hid hm
  have S0 := Lib.hid (show SrR p g1 g2 g q G ci w r F x m 0 (.slice none 0 0) w from ⟨none, 0, 0, [], s, F, fun _ => False, rfl, Mv.start h, hs, hd, ⟨⟨World.ownsRow_nil _ _ _ _, fun y hy => by cases hy⟩, (fun k hk => by rcases hk with hk | ⟨y, hy, _⟩ <;> (first | cases hk | cases hy)), fun k hk => hk.elim⟩, rfl, fun j hj => hj.elim, fun j _ hj => hj.elim⟩)
  clear h ho hs hd hm hok hsm
  go_enter Tryz.func30, Tryz.ntmps30
  go_wp2_with fail
  go_loopw [2, 15] (fun v i wr => ∃ a : Nat, a ≤ r.segs ∧ i = .int .i64 a ∧ Hid (SrR p g1 g2 g q G ci w r F x m (a * r.size) v wr)) (fun _ i _ => r.segs - (intOf i).toNat)
  case atStart => exact ⟨0, Nat.zero_le _, rfl, by rw [Nat.zero_mul]; exact S0⟩
  case round =>
    obtain ⟨a, ha, rfl, HR⟩ := hrel
    by_cases hlt : a < r.segs
    · have HLT := Lib.hid hlt
      have j0 : (0 : Int) ≤ (a : Int) := by omega
      have j1 : (a : Int) < (r.segs : Int) := by omega
      have wp1 : IntKind.i64.wrap ((a : Int) + 1) = ((a + 1 : Nat) : Int) := IntWalk.i64_in _ (by have := HSM.out; omega)
      have hq : ∃ bm, RlO g q bm ci wr r := by
        obtain ⟨A, n, c, l, s', F', FF, _, h2, _⟩ := HR.out
        exact logr_own h2.at_
      obtain ⟨bm2, OR⟩ := hq
      have c3 : wr.cell? ⟨q, 3, none⟩ = some (.int .i64 (r.size : Int)) := OR.blk.cell 3
      clear ha hlt OR
      go_wp2_with fail
      go_loopw [2, 23] (fun v i wr => ∃ b : Nat, b ≤ r.size ∧ i = .int .i64 b ∧ Hid (SrR p g1 g2 g q G ci w r F x m (a * r.size + b) v wr)) (fun _ i _ => r.size - (intOf i).toNat)
      case atStart => exact ⟨0, Nat.zero_le _, rfl, HR⟩
      case round =>
        obtain ⟨b, hb, rfl, HR1⟩ := hrel
        by_cases hlb : b < r.size
        · have HLB := Lib.hid hlb
          have k0 : (0 : Int) ≤ (b : Int) := by omega
          have k1 : (b : Int) < (r.size : Int) := by omega
          have wp2 : IntKind.i64.wrap ((b : Int) + 1) = ((b + 1 : Nat) : Int) := IntWalk.i64_in _ (by have := HSM.out; omega)
          obtain ⟨k, hk⟩ : ∃ k, k = a * r.size + b := ⟨_, rfl⟩
          have hkN : k + 1 ≤ r.segs * r.size := by
            have h1 : (a + 1) * r.size ≤ r.segs * r.size := Nat.mul_le_mul_right _ HLT.out
            rw [Nat.add_mul, Nat.one_mul] at h1
            omega
          have hN : r.segs * r.size ≤ 64 * 32 := Nat.mul_le_mul HSM.out.1 HSM.out.2
          have hat : 2 + (a : Int) * (r.size : Int) + (b : Int) = ((k + 2 : Nat) : Int) := by rw [hk]; push_cast; omega
          have hse := fun W => sector_yes (r.segs : Int) (r.size : Int) (a : Int) (b : Int) ⟨HOK.out.shape, by omega, by omega⟩ W
          simp only [hat] at hse
          have HSE := Lib.hid hse
          have HR2 := HR1.out
          rw [← hk] at HR2
          obtain ⟨A, n, c, l, s1, F1, FF, rfl, hmv, hse1, hdr, hfd, hit, hf1, hf2⟩ := HR2
          have HKN := Lib.hid (show k + 1 ≤ r.segs * r.size ∧ k < 2048 ∧ m + 2 * k < 900000 by have := HM.out; omega)
          have HK := Lib.hid hk
          have M1 := Lib.hid hmv
          have SE1 := Lib.hid hse1
          have DR1 := Lib.hid hdr
          have FD1 := Lib.hid hfd
          have HIT := Lib.hid hit
          have HFF := Lib.hid (And.intro hf1 hf2)
          have FD1L := Lib.hid (show ∀ j, FF j → j < wr.heap.size from hfd.2.2)
          have MSZ := Lib.hid (And.intro hmv.but.size (show ∀ j, F1 j → j < wr.heap.size from (LogR (Mu.one p g1 g2) G g q ci).lt hmv.at_))
          have HNK := Lib.hid (show n ≤ k by
            have h1 := srch_len ci.f G.f x k
            rw [← hit, List.length_map, fd_len hfd] at h1
            exact h1)
          have hno : ∀ W, Below wr.heap.size wr W → Calls Tryz.prog 57 #[.pointer (some ⟨q, 0, none⟩), .int .i64 ((k + 2 : Nat) : Int)] W (RetNw ((k + 2 : Nat) : Int) (pickL ci.f ((k + 2 : Nat) : Int) ((srchX ci.f G.f x k).1.both G.f ((k + 2 : Nat) : Int))) W) := fun W hb => by
            have hc := newest_any ((LogR (Mu.one p g1 g2) G g q ci).below hmv.at_ hb) ((k + 2 : Nat) : Int)
            rwa [hse1.both] at hc
          obtain ⟨o, hoo⟩ : ∃ o, o = pickL ci.f ((k + 2 : Nat) : Int) ((srchX ci.f G.f x k).1.both G.f ((k + 2 : Nat) : Int)) := ⟨_, rfl⟩
          simp only [← hoo] at hno
          have HNO := Lib.hid hno
          have HOO := Lib.hid hoo
          have HFS := Lib.hid (show (fsO o).length = 128 by
            cases hx : o with
            | none => exact zeroS_length
            | some y =>
              have h1 := (pickL_ok (hoo.symm.trans hx)).2
              rw [← hse1.both] at h1
              obtain ⟨F9, hml, _⟩ := logr_mlA hmv.at_
              unfold bothL at h1
              split at h1
              · exact bothTo_len hml ((k + 2 : Nat) : Int) 2 (Nat.le_refl _) y h1
              · cases h1)
          obtain ⟨bm2, OR⟩ := logr_own hmv.at_
          have cq2 : wr.cell? ⟨q, 2, none⟩ = some (.int .i64 (r.segs : Int)) := OR.blk.cell 2
          have cq3 : wr.cell? ⟨q, 3, none⟩ = some (.int .i64 (r.size : Int)) := OR.blk.cell 3
          have c0s := fun W (h : RlO g q bm2 ci W r) => (show W.cell? ⟨q, 0, none⟩ = some (.pointer (some ⟨g, 0, none⟩)) from h.blk.cell 0)
          obtain ⟨z, hz0⟩ : ∃ z : List UInt8, z = zeroS := ⟨_, rfl⟩
          have hz : ∀ W, (zeroValue 101).run Tryz.prog W = .ok (.agg (bva z)) W := fun _ => by rw [hz0]; kernel_rfl
          have hzf : ∀ W, (zeroValue 57).run Tryz.prog W = .ok (.agg #[.int .i64 0, .int .u64 0, .slice none 0 0]) W := fun _ => by kernel_rfl
          have HZ3 := Lib.hid (show z.length = 128 by rw [hz0]; exact zeroS_length)
          obtain ⟨y1, hy1⟩ : ∃ y, y = fsO o := ⟨_, rfl⟩
          have HY3 := Lib.hid (show y1.length = 128 by rw [hy1]; exact HFS.out)
          have HIY : Hid ((Tryz.prog.info? 101).map (·.size) = some (bva y1).size) := by rw [bva_size, HY3.out]; exact info_sec
          have HY1 := Lib.hid hy1
          obtain ⟨ka, hka⟩ : ∃ v : Int, v = ((k + 2 : Nat) : Int) := ⟨_, rfl⟩
          obtain ⟨fa, hfa⟩ : ∃ v : Int, v = faO ka o := ⟨_, rfl⟩
          obtain ⟨fg, hfg⟩ : ∃ v : Nat, v = fgO o := ⟨_, rfl⟩
          obtain ⟨os, hos⟩ : ∃ v : Bool, v = o.isSome := ⟨_, rfl⟩
          have HFA := Lib.hid (And.intro hfa (And.intro hfg hos))
          have HKA := Lib.hid hka
          rw [← hka] at HSE HNO
          clear hb hlb hk hkN hN hat hse hse1 hdr hfd hit hf1 hf2 hno hoo hmv OR hz0 hy1 hfa hfg hos hka HR1
          go_wp2_with fail
          refine (HSE.out wr).mono ?_
          rintro e w2 ⟨rfl, bw2⟩
          have BW2 := Lib.hid bw2
          clear bw2 cq2 cq3
          go_wp2_with fail
          refine (HNO.out w2 BW2.out).mono ?_
          rintro e w3 ⟨Ab, nb, cb, he, hown, bw3⟩
          rw [← HFA.out.1, ← HFA.out.2.1, ← HFA.out.2.2, ← HY1.out] at he
          subst he
          have BW3 := Lib.hid (BW2.out.trans (bw3.mono BW2.out.size))
          have OB3 := Lib.hid (show w3.ownsRow wr.heap.size 5 1 (.slice Ab nb cb) nb (bv (fbO o)) from own_more hown BW2.out.size)
          clear hown bw3 BW2
          go_wp2_with (show wpList _ _ _ ({ dst := none, op := .store 101 (.tmp 8) (.tmp 41), type := _, pos := _, after := _, guard := _ } :: _) _ _; apply Classical.byContradiction; intro hneg)
          refine hneg ?_
          clear hneg
          refine wpList_store_row rfl 101 (.tmp 8) (.tmp 41) rfl (w3.heap.size + 1) (bva y1) rfl rfl 101 (bva z) (heap_alloc2_new _ _ _) HIY.out (by rw [bva_size, bva_size, HY3.out, HZ3.out]) (bva_one _) ?_
          obtain ⟨w4, hw4⟩ : ∃ w4, w4 = World.setRow ((w3.alloc (.cells #[.int .i64 fa, .int .u64 (fg : Int), .slice Ab nb cb] 57)).alloc (.cells (bva z) 101)) (w3.heap.size + 1) (bva y1) := ⟨_, rfl⟩
          have bw : Below w3.heap.size w3 w4 := by rw [hw4]; exact below_setRow (((Below.refl _ _).alloc (Nat.le_refl _) _).alloc (by simp) _) (by omega) _
          have X7 := Lib.hid (show Blk w4 w3.heap.size #[.int .i64 fa, .int .u64 (fg : Int), .slice Ab nb cb] 57 by
            rw [hw4]
            exact Blk.but (S := fun k => k = w3.heap.size + 1) ((show Blk (w3.alloc _) w3.heap.size _ 57 from heap_alloc_new _ _).below ((Below.refl _ _).alloc (Nat.le_refl _) _)) (But.setRow (S := fun k => k = w3.heap.size + 1) (But.refl _) (Or.inl rfl) _) (by omega))
          have X8 := Lib.hid (show Blk w4 (w3.heap.size + 1) (bva y1) 101 by rw [hw4]; exact setRow_heap _ _ _ _ _ _ (heap_alloc2_new _ _ _))
          have BW4 := Lib.hid (BW3.out.trans (bw.mono BW3.out.size))
          have OB4 := Lib.hid (own_below OB3.out bw)
          rw [← hw4]
          obtain ⟨b7, hb7⟩ : ∃ b, b = w3.heap.size := ⟨_, rfl⟩
          have HB7 := Lib.hid (show wr.heap.size ≤ b7 by rw [hb7]; exact BW3.out.size)
          rw [← hb7] at X7 X8
          rw [← hb7]
          clear hw4 bw BW3 OB3 hb7 HSE HNO
          have M4 := Lib.hid (M1.out.below BW4.out)
          have FD4 := Lib.hid ((FdL A n c).below FD1.out BW4.out)
          clear M1 FD1
          have h70 : w4.cell? ⟨b7, 0, none⟩ = some (.int .i64 fa) := X7.out.cell 0
          have h71 : w4.cell? ⟨b7, 1, none⟩ = some (.int .u64 (fg : Int)) := X7.out.cell 1
          have h72 : w4.cell? ⟨b7, 2, none⟩ = some (.slice Ab nb cb) := X7.out.cell 2
          cases o with
          | none =>
            obtain rfl : os = false := HFA.out.2.2
            have HNX := Lib.hid (show srchX ci.f G.f x (k + 1) = srchX ci.f G.f x k by rw [srchX, ← HOO.out])
            go_wp2_with fail
            go_round
            case rel =>
              refine ⟨b + 1, HLB.out, rfl, Lib.hid ?_⟩
              rw [← Nat.add_assoc, ← HK.out]
              refine ⟨A, n, c, l, s1, F1, FF, rfl, M4.out, ?_, ?_, FD4.out, ?_, HFF.out.1, HFF.out.2⟩
              · rw [HNX.out]; exact SE1.out.more (by omega)
              · rw [HNX.out]; exact DR1.out
              · rw [HNX.out]; exact HIT.out
            case measure => have := HLB.out; simp [intOf]; omega
          | some y =>
            obtain rfl : os = true := HFA.out.2.2
            go_wp2_with (at_builtin; apply Classical.byContradiction; intro hneg)
            refine hneg ?_
            clear hneg
            have hnb : (bodyS y).length = nb := by
              have h1 := OB4.out.1
              rw [show fbO (some y) = bodyS y from rfl, bv_length] at h1
              omega
            subst hnb
            have hfa : fa = ((k + 2 : Nat) : Int) := by rw [HFA.out.1, HKA.out]; rfl
            have hfg : fg = genS y := HFA.out.2.1
            obtain ⟨w5, hw5⟩ : ∃ W, W = w4.alloc (.cells #[.int .i64 fa, .int .u64 (fg : Int), .slice Ab (bodyS y).length cb] 57) := ⟨_, rfl⟩
            have bw : Below w4.heap.size w4 w5 := by rw [hw5]; exact (Below.refl _ _).alloc (Nat.le_refl _) _
            have X9 := Lib.hid (show Blk w5 w4.heap.size #[.int .i64 fa, .int .u64 (fg : Int), .slice Ab (bodyS y).length cb] 57 by rw [hw5]; exact heap_alloc_new _ _)
            rw [← hw5]
            obtain ⟨b9, hb9⟩ : ∃ b, b = w4.heap.size := ⟨_, rfl⟩
            rw [← hb9] at X9
            rw [← hb9]
            have BW5 := Lib.hid (BW4.out.trans (bw.mono BW4.out.size))
            have OB5 := Lib.hid (own_below OB4.out bw)
            have M5 := Lib.hid (M4.out.below bw)
            have FD5 := Lib.hid ((FdL A n c).below FD4.out bw)
            have X85 := Lib.hid (X8.out.below bw)
            clear hw5 bw hb9 OB4 M4 FD4 X7 X8 h70 h71 h72 BW4
            have RA := Lib.hid (show Rd w5.heap.size w5 (some ⟨b9, 0, none⟩) [.int .i64 fa, .int .u64 (fg : Int), .slice Ab (bodyS y).length cb] from fun j v hv => ⟨_, rfl, X9.out.lt, by rw [addr0, X9.out.cell]; simpa using hv⟩)
            refine wpList_appN _ rfl (.tmp 44) (.tmp 46) 42 rfl foundElt (base := 0) (v := .slice A n c) (n := n) (xs := fds l) rfl FD5.out.1.row (m := 1) rfl RA.out (by rfl) (by simp [Value.oneCell']) (by have := HNK.out; have := HKN.out; omega) (Nat.zero_le _) ?_
            intro A6 c6 w6 ho6 hg6 hl6
            obtain ⟨fd6, bt6⟩ := fd_snoc FD5.out ⟨k + 2, genS y, bodyS y, Ab, cb⟩ OB5.out (by rw [show fdV ⟨k + 2, genS y, bodyS y, Ab, cb⟩ = [.int .i64 fa, .int .u64 (fg : Int), .slice Ab (bodyS y).length cb] by rw [hfa, hfg]; rfl]; exact ho6) hg6 hl6
            have FD6 := Lib.hid fd6
            have M6 := Lib.hid (M5.out.own bt6 HFF.out.1 HFF.out.2)
            have X86 := Lib.hid (X85.out.but bt6 (fun hf => by have h1 := FD1L.out _ hf; have := HB7.out; omega))
            have HFF6 := Lib.hid (show (∀ j, (FF j ∨ (Value.slice Ab (bodyS y).length cb).ownBlock = some j ∨ (j = w5.heap.size ∧ j < w6.heap.size)) → w.heap.size ≤ j) ∧ (∀ j, F1 j → (FF j ∨ (Value.slice Ab (bodyS y).length cb).ownBlock = some j ∨ (j = w5.heap.size ∧ j < w6.heap.size)) → False) by
              have hb := fun j hj => (OB5.out.lt j hj).1
              have hwr : w.heap.size ≤ wr.heap.size := MSZ.out.1
              have hf1 := MSZ.out.2
              refine ⟨fun j hj => ?_, fun j h1 hj => ?_⟩
              · rcases hj with hj | hj | hj
                · exact HFF.out.1 j hj
                · have := hb j hj; omega
                · have := BW5.out.size; omega
              · have h2 := hf1 j h1
                rcases hj with hj | hj | hj
                · exact HFF.out.2 j h1 hj
                · have := hb j hj; omega
                · have := BW5.out.size; omega)
            clear fd6 bt6 ho6 hg6 hl6 FD5 M5 X85 OB5 RA X9
            obtain ⟨bm6, O6⟩ := logr_own M6.out.at_
            have m6d := M6.out.below (Below.refl w6.heap.size w6).drew
            obtain ⟨F9, hml, hback⟩ := logr_mlA m6d.at_
            have hch := mchoose_any hml SE1.out.ok ka y1 HY3.out (Nat.lt_of_le_of_lt SE1.out.most HKN.out.2.2)
            obtain ⟨ce, hce⟩ : ∃ e, e = (s1.choose ka y1).1 := ⟨_, rfl⟩
            rw [← hce] at hch
            have M6D := Lib.hid m6d
            have HCH := Lib.hid (hch.mono fun e w' hr => hback hr)
            have FD6D := Lib.hid ((FdL A6 (n + 1) c6).below FD6.out (Below.refl w6.heap.size w6).drew)
            have hy : y1 = y := HY1.out
            have HNX := Lib.hid (show srchX ci.f G.f x (k + 1) = (((srchX ci.f G.f x k).1.write ka y1).2, (srchX ci.f G.f x k).2 ++ [(k + 2, genS y, bodyS y)]) by rw [srchX, ← HOO.out, hy, HKA.out])
            clear hml hback hch m6d hce hy
            go_wp2_with fail
            refine wp_region_held_drew (S := (fun w' => w'.cell? ⟨q, 0, none⟩ = some (.pointer (some ⟨g, 0, none⟩)) ∧ Blk w' (b7 + 1) (bva y1) 101)) (by kernel_rfl) ⟨(show (World.drew _).cell? _ = _ from O6.blk.cell 0), (show Blk (World.drew _) _ _ _ from X86.out)⟩ (fun hh => ?_)
            have HH := Lib.hid hh
            clear hh
            refine wpAnyH_take (i := 0) (v := ?vh0) rfl (by kernel_rfl) (by kernel_rfl) (by kernel_rfl) (fun _ _ _ h => h) (Or.inl ⟨by rfl, fun w' _ => ?yh0⟩) HH.out ?_
            case yh0 => (go_simp; try with_reducible rfl)
            refine wpAnyH_take (i := 1) (v := ?vh1) rfl (by kernel_rfl) (by kernel_rfl) (by kernel_rfl) (fun _ _ _ h => h) (Or.inl ⟨by rfl, fun w' _ => ?yh1⟩) HH.out ?_
            case yh1 => (go_simp; try with_reducible rfl)
            try simp only [List.getElem_toArray, List.getElem_cons_succ, List.getElem_cons_zero, Act.put, List.setIfInBounds_toArray, List.set_cons_zero, List.set_cons_succ]
            refine wpAnyH_take (i := 2) (v := ?vh2) rfl (by kernel_rfl) (by kernel_rfl) (by kernel_rfl) (fun _ _ _ h => h) (Or.inl ⟨by rfl, fun w' _ => ?yh2⟩) HH.out ?_
            case yh2 => (go_simp; try with_reducible rfl)
            refine wpAnyH_take (i := 3) (v := .pointer (some ⟨g, 0, none⟩)) rfl (by kernel_rfl) (by kernel_rfl) (by kernel_rfl) (fun _ _ _ h => h) (Or.inl ⟨by rfl, fun w' hw' => ?lw3⟩) HH.out ?_
            case lw3 => (have hc := hw'.1; go_simp; try with_reducible rfl)
            try simp only [List.getElem_toArray, List.getElem_cons_succ, List.getElem_cons_zero, Act.put, List.setIfInBounds_toArray, List.set_cons_zero, List.set_cons_succ]
            refine wpAnyH_take (i := 4) (v := ?vh4) rfl (by kernel_rfl) (by kernel_rfl) (by kernel_rfl) (fun _ _ _ h => h) (Or.inl ⟨by rfl, fun w' _ => ?yh4⟩) HH.out ?_
            case yh4 => (go_simp; try with_reducible rfl)
            try simp only [List.getElem_toArray, List.getElem_cons_succ, List.getElem_cons_zero, Act.put, List.setIfInBounds_toArray, List.set_cons_zero, List.set_cons_succ]
            refine wpAnyH_take (i := 5) (v := .agg (bva y1)) rfl (by kernel_rfl) (by kernel_rfl) (by kernel_rfl) (fun _ _ _ h => h) (Or.inl ⟨by rfl, fun w' hw' => ?yh5⟩) HH.out ?_
            case yh5 => exact exec_load 101 (.tmp 8) rfl rfl hw'.2 Tryz.underlying101 rfl HIY.out
            try simp only [List.getElem_toArray, List.getElem_cons_succ, List.getElem_cons_zero, Act.put, List.setIfInBounds_toArray, List.set_cons_zero, List.set_cons_succ]
            refine wpAnyH_ready (rs := [6]) (by kernel_rfl) (by simp) (AllReadyH.cons rfl (fun K hK => ?_) AllReadyH.nil)
            go_simp
            refine HCH.out.mono ?_
            rintro e w7 ⟨rfl, F7, hm7⟩
            have M7 := Lib.hid (M6D.out.trans hm7)
            have O7' : w7.cell? ⟨q, 0, none⟩ = some (.pointer (some ⟨g, 0, none⟩)) := (logr_own hm7.at_).elim fun _ O => O.blk.cell 0
            have X87 := Lib.hid ((show Blk w6.drew (b7 + 1) _ _ from X86.out).but hm7.but (fun hf => by have h1 := MSZ.out.2 _ hf; have := HB7.out; omega))
            have FD7 := Lib.hid ((FdL A6 (n + 1) c6).but FD6D.out hm7.but (fun j h1 h2 => HFF6.out.2 j h2 h1))
            have HD7 := Lib.hid (fun j (h1 : F7 j) h2 => (hm7.new j h1).elim (fun h => HFF6.out.2 j h h2) (fun h => by have h3 := FD6D.out.2.2 j h2; omega))
            clear hm7
            go_simp
            refine hK.out _ _ ⟨O7', X87.out⟩ (fun hh => ?_)
            have HH' := Lib.hid hh
            clear hh hK K HH M6D FD6D FD6 M6 X86 HCH O7'
            have HH := Lib.hid HH'.out
            clear HH'
            try simp only [List.getElem_toArray, List.getElem_cons_succ, List.getElem_cons_zero, Act.put, List.setIfInBounds_toArray, List.set_cons_zero, List.set_cons_succ]
            refine wpAnyH_done (by kernel_rfl) ?_ _
            clear HH
            go_wp2_with fail
            go_round
            case rel =>
              refine ⟨b + 1, HLB.out, rfl, Lib.hid ?_⟩
              rw [← Nat.add_assoc, ← HK.out]
              refine ⟨A6, n + 1, c6, l ++ [⟨k + 2, genS y, bodyS y, Ab, cb⟩], (s1.choose ka y1).2, F7, _, rfl, M7.out, ?_, ?_, FD7.out, ?_, HFF6.out.1, HD7.out⟩
              · rw [HNX.out]; exact (SE1.out.choose ka y1).2.more (by omega)
              · rw [HNX.out]; exact DR1.out.choose SE1.out ka y1
              · rw [HNX.out, List.map_append, HIT.out]; rfl
            case measure => have := HLB.out; simp [intOf]; omega
        · obtain rfl : r.size = b := by omega
          go_wp2_with fail
          go_round
          case rel => exact ⟨a + 1, HLT.out, rfl, by rw [Nat.add_mul, Nat.one_mul]; exact HR1⟩
          case measure => have := HLT.out; simp [intOf]; omega
    · obtain rfl : r.segs = a := by omega
      go_wp2_with fail
      go_ret
      exact ⟨_, rfl, HR.out⟩
end
end Go.Proofs.YtnplhagfmfggcaaGreat.Lo
/-
  What Open tells: the log that stands on the mirror, and all that was found in it, in its order.
-/
namespace Go.Proofs.YtnplhagfmfggcaaGreat.Lo
open Go.RowKit Go.Maps Kd Mi Sx Sg
attribute [local go_sem ↓] Go.wp_at_zero Go.wp_at_succ
theorem srch_mem (f : List UInt8 → List UInt8 → List UInt8) (gf : Int → List UInt8 → Bool) (x : Md) : ∀ k, ∀ y ∈ (srchX f gf x k).2, 2 ≤ y.1 ∧ y.1 < 2 + k ∧ y.2.1 < 18446744073709551616
  | 0 => fun y hy => by cases hy
  | k + 1 => fun y hy => by
    have ih := srch_mem f gf x k
    rw [srchX] at hy
    split at hy
    · rw [List.mem_append, List.mem_singleton] at hy
      rcases hy with hy | rfl
      · obtain ⟨h1, h2, h3⟩ := ih y hy; exact ⟨h1, by omega, h3⟩
      · exact ⟨by show 2 ≤ k + 2; omega, by show k + 2 < 2 + (k + 1); omega, genS_lt _⟩
    · obtain ⟨h1, h2, h3⟩ := ih y hy; exact ⟨h1, by omega, h3⟩
theorem open_nilM (ci : Value) (a b : Int) (w : World) : Calls Tryz.prog 12 #[.pointer none, ci, .agg #[.int .i64 a, .int .i64 b]] w (RetB (.tuple #[.pointer none, .slice none 0 0, .int .i64 1]) w) := by
  have c00 : (w.alloc (.cells #[.int .i64 a, .int .i64 b] 32)).cell? ⟨w.heap.size, 0, none⟩ = some (.int .i64 a) := (show Blk _ w.heap.size #[.int .i64 a, .int .i64 b] 32 from heap_alloc_new _ _).cell 0
  have BB := Lib.hid (show Below w.heap.size w (w.alloc (.cells #[.int .i64 a, .int .i64 b] 32)) from (Below.refl _ _).alloc (Nat.le_refl _) _)
  go_enter Tryz.func12, Tryz.ntmps12
  go_wp2_with fail
  refine (lnew_nilM ci a b _).mono ?_
  rintro e w2 ⟨rfl, bw⟩
  have B2 := Lib.hid (BB.out.trans (bw.mono BB.out.size))
  clear bw
  go_wp2_with fail
  exact bodyPost_ret (results_tmp3 Tryz.results12 _ _ _) rfl ⟨rfl, B2.out⟩
theorem open_nilC (g : Nat) (a b : Int) (w : World) : Calls Tryz.prog 12 #[.pointer (some ⟨g, 0, none⟩), .nilIface, .agg #[.int .i64 a, .int .i64 b]] w (RetB (.tuple #[.pointer none, .slice none 0 0, .int .i64 1]) w) := by
  have c00 : (w.alloc (.cells #[.int .i64 a, .int .i64 b] 32)).cell? ⟨w.heap.size, 0, none⟩ = some (.int .i64 a) := (show Blk _ w.heap.size #[.int .i64 a, .int .i64 b] 32 from heap_alloc_new _ _).cell 0
  have BB := Lib.hid (show Below w.heap.size w (w.alloc (.cells #[.int .i64 a, .int .i64 b] 32)) from (Below.refl _ _).alloc (Nat.le_refl _) _)
  go_enter Tryz.func12, Tryz.ntmps12
  go_wp2_with fail
  refine (lnew_nilC g a b _).mono ?_
  rintro e w2 ⟨rfl, bw⟩
  have B2 := Lib.hid (BB.out.trans (bw.mono BB.out.size))
  clear bw
  go_wp2_with fail
  exact bodyPost_ret (results_tmp3 Tryz.results12 _ _ _) rfl ⟨rfl, B2.out⟩
section
variable {C : Duo} {G : Gd} {g : Nat} {w : World} {s : Mr C} {F : Nat → Prop}
set_option maxRecDepth 100000 in
theorem open_shape (h : (ML C G g).At w s F) (ci : SCiph) (a b : Int) (hn : ¬(okS a b ∧ 2 + a * b ≤ (s.a.length : Int))) :
    Calls Tryz.prog 12 #[.pointer (some ⟨g, 0, none⟩), ci.v, .agg #[.int .i64 a, .int .i64 b]] w (RetB (.tuple #[.pointer none, .slice none 0 0, .int .i64 2]) w) := by
  have BB := Lib.hid (show Below w.heap.size w (w.alloc (.cells #[.int .i64 a, .int .i64 b] 32)) from (Below.refl _ _).alloc (Nat.le_refl _) _)
  have HC := Lib.hid (lnew_shape ((ML C G g).below h BB.out) ci a b hn)
  clear h hn
  go_enter Tryz.func12, Tryz.ntmps12
  go_wp2_with fail
  refine HC.out.mono ?_
  rintro e w2 ⟨rfl, bw⟩
  have B2 := Lib.hid (BB.out.trans (bw.mono BB.out.size))
  clear bw
  go_wp2_with fail
  exact bodyPost_ret (results_tmp3 Tryz.results12 _ _ _) rfl ⟨rfl, B2.out⟩
end
section
variable {p g1 g2 g : Nat} {G : Gd} {ci : SCiph} {w w' : World} {s s' : Mr (Mu.one p g1 g2)} {F : Nat → Prop} {x : Md} {m : Nat}
/-- It tells the log q, and what is found, in its order; the mirror is as search made it. -/
def RetOp (p g1 g2 g : Nat) (G : Gd) (ci : SCiph) (a b : Nat) (x : Md) (F : Nat → Prop) (w : World) (e : Ending) (w' : World) : Prop :=
  ∃ (q : Nat) (A : Option Addr) (n c : Nat) (l : List Fd) (s' : Mr (Mu.one p g1 g2)) (F' FF : Nat → Prop), e = .returned (.tuple #[.pointer (some ⟨q, 0, none⟩), .slice A n c, .int .i64 0]) ∧
    (LogR (Mu.one p g1 g2) G g q ci).At w' (s', (l.map Fd.it).foldl Rl.learn (Rl.new a b)) F' ∧ Mu.Sees s' (srchX ci.f G.f x (a * b)).1 0 ∧ Mu.Dry s' (srchX ci.f G.f x (a * b)).1 ∧
    (FdL A n c).At w' l FF ∧ (l.map Fd.it).Perm (srchX ci.f G.f x (a * b)).2 ∧ l.Pairwise (fun x y => ¬ ltF y.it x.it) ∧
    (∀ j, F' j → F j ∨ w.heap.size ≤ j) ∧ (∀ j, FF j → w.heap.size ≤ j) ∧ (∀ j, F' j → FF j → False) ∧ But F w w'
set_option maxRecDepth 100000 in
set_option maxHeartbeats 6400000 in
theorem open_raw (h : (ML (Mu.one p g1 g2) G g).At w s F) (hs : Mu.Sees s x m) (hd : Mu.Dry s x) (a b : Nat) (hok : okS (a : Int) (b : Int)) (hm : m + 2 * (a * b) < 900000) (hn : 2 + a * b ≤ x.a.length) (hup : ((srchX ci.f G.f x (a * b)).1.o0 && (srchX ci.f G.f x (a * b)).1.o1) = false) :
    Calls Tryz.prog 12 #[.pointer (some ⟨g, 0, none⟩), ci.v, .agg #[.int .i64 a, .int .i64 b]] w (RetOp p g1 g2 g G ci a b x F w) := by
  have BB := Lib.hid (show Below w.heap.size w (w.alloc (.cells #[.int .i64 (a : Int), .int .i64 (b : Int)] 32)) from (Below.refl _ _).alloc (Nat.le_refl _) _)
  have HC := Lib.hid (rnew_any ((ML (Mu.one p g1 g2) G g).below h BB.out) ci a b hok (by rw [hs.a]; exact hn))
  have HS := Lib.hid (And.intro hs hd)
  have HM := Lib.hid hm
  have HUP := Lib.hid hup
  have HAB := Lib.hid (show a * b ≤ 64 * 32 by unfold Sg.okS at hok; exact Nat.mul_le_mul (by omega) (by omega))
  clear h hs hd hm hn hup hok
  go_enter Tryz.func12, Tryz.ntmps12
  go_wp2_with fail
  refine HC.out.mono ?_
  rintro e w2 ⟨q, F2, rfl, hat, hf2, bw⟩
  have A2 := Lib.hid hat
  have N2 := Lib.hid (show ∀ k, F2 k → F k ∨ w.heap.size ≤ k from fun k hk => (hf2 k hk).imp id (fun h => Nat.le_trans BB.out.size h))
  have B2 := Lib.hid (BB.out.trans (bw.mono BB.out.size))
  clear hat hf2 bw HC BB
  go_wp2_with fail
  refine (search_any A2.out HS.out.1 HS.out.2 HM.out).mono ?_
  rintro e w3 ⟨v, rfl, A, n, c, l, s3, F3, FF, rfl, hmv, hse, hdr, hfd, hit, hff, hdj⟩
  have M3 := Lib.hid hmv
  have SE3 := Lib.hid (show Mu.Sees s3 (srchX ci.f G.f x (a * b)).1 (m + 2 * (a * b)) from hse)
  have DR3 := Lib.hid (show Mu.Dry s3 (srchX ci.f G.f x (a * b)).1 from hdr)
  have FD3 := Lib.hid hfd
  have HIT := Lib.hid (show l.map Fd.it = (srchX ci.f G.f x (a * b)).2 from hit)
  have HFF := Lib.hid (And.intro hff hdj)
  obtain ⟨F9, hml, hback⟩ := logr_mlA hmv.at_
  have hfl := mflushm_any hml
  obtain ⟨h1, h2⟩ := hse.flush hdr
  obtain ⟨s4, hs4⟩ : ∃ x, x = s3.flush.2 := ⟨_, rfl⟩
  rw [show s3.flush.1 = 0 by rw [h1]; exact if_neg (fun h => Bool.noConfusion (HUP.out.symm.trans h)), ← hs4] at hfl
  have SE4 := Lib.hid (show Mu.Sees s4 (srchX ci.f G.f x (a * b)).1 0 by rw [hs4]; exact h2)
  have HFL := Lib.hid (hfl.mono fun e w' hr => hback hr)
  have HNL := Lib.hid (show l.length = n ∧ n < 1000000 by
    have h3 := srch_len ci.f G.f x (a * b)
    have h4 := congrArg List.length HIT.out
    rw [List.length_map] at h4
    have h5 : l.length = n := fd_len hfd
    have := HAB.out
    omega)
  clear hmv hse hdr hfd hit hff hdj hml hback hfl h1 h2 hs4
  go_wp2_with fail
  refine HFL.out.mono ?_
  rintro e w4 ⟨rfl, F4, hm4⟩
  have M4 := Lib.hid (M3.out.trans hm4)
  have FD4 := Lib.hid ((FdL A n c).but FD3.out hm4.but (fun j h1 h2 => HFF.out.2 j h2 h1))
  have HD4 := Lib.hid (fun j (h1 : F4 j) h2 => (hm4.new j h1).elim (fun h => HFF.out.2 j h h2) (fun h => by have h3 := FD3.out.2.2 j h2; omega))
  clear hm4 HFL FD3 M3
  go_wp2_with fail
  refine (sort_any FD4.out HNL.out.2).mono ?_
  rintro e w5 ⟨rfl, l5, hp5, hs5, hfd5, hb5⟩
  have FD5 := Lib.hid hfd5
  have P5 := Lib.hid hp5
  have S5 := Lib.hid hs5
  have M5 := Lib.hid (M4.out.own hb5 HFF.out.1 HD4.out)
  clear hp5 hs5 hfd5 hb5 FD4 M4
  obtain ⟨bm, ho, hq, hbm, hstep⟩ := logr_step M5.out.at_
  have HLE := learn_any ho FD5.out (fun h => HD4.out q hq h) (fun h => HD4.out bm hbm h) (fun x hx => by
    have h1 : x.it ∈ (srchX ci.f G.f ‹Md› (a * b)).2 := by rw [← HIT.out]; exact List.mem_map_of_mem ((P5.out.mem_iff).1 hx)
    exact srch_mem _ _ _ _ _ h1) HNL.out.2
  have HL := Lib.hid HLE
  have HST := Lib.hid (fun w' r' => @hstep w' r')
  have HQQ := Lib.hid (And.intro hq hbm)
  clear ho hq hbm hstep HLE
  go_wp2_with fail
  refine HL.out.mono ?_
  rintro e w6 ⟨rfl, ho6, hb6⟩
  obtain ⟨F6, hm6⟩ := HST.out _ _ ho6 hb6
  have M6 := Lib.hid (M5.out.trans hm6)
  have FD6 := Lib.hid ((FdL A n c).but FD5.out hb6 (fun j h1 h2 => h2.elim (fun e => HD4.out j (e ▸ HQQ.out.1) h1) (fun e => HD4.out j (e ▸ HQQ.out.2) h1)))
  have HD6 := Lib.hid (fun j (h1 : F6 j) h2 => (hm6.new j h1).elim (fun h => HD4.out j h h2) (fun h => by have h3 := FD5.out.2.2 j h2; omega))
  clear ho6 hb6 hm6 M5 FD5 HL HST
  go_wp2_with fail
  refine bodyPost_ret (results_tmp3 Tryz.results12 _ _ _) rfl ⟨q, A, n, c, l5, s4, F6, FF, rfl, M6.out.at_, SE4.out, SE4.out.dry, FD6.out, ?_, S5.out, ?_, ?_, HD6.out, ?_⟩
  · rw [← HIT.out]; exact P5.out.map _
  · intro j hj
    rcases M6.out.new j hj with h1 | h1
    · exact N2.out j h1
    · exact .inr (Nat.le_trans B2.out.size h1)
  · exact fun j hj => Nat.le_trans B2.out.size (HFF.out.1 j hj)
  · exact Mi.but_step (but_below (T := F) B2.out) M6.out.but (fun j hj => N2.out j hj)
set_option maxRecDepth 100000 in
set_option maxHeartbeats 6400000 in
theorem open_down (h : (ML (Mu.one p g1 g2) G g).At w s F) (hs : Mu.Sees s x m) (hd : Mu.Dry s x) (a b : Nat) (hok : Sg.okS (a : Int) (b : Int)) (hm : m + 2 * (a * b) < 900000) (hn : 2 + a * b ≤ x.a.length) (hup : ((srchX ci.f G.f x (a * b)).1.o0 && (srchX ci.f G.f x (a * b)).1.o1) = true) :
    Calls Tryz.prog 12 #[.pointer (some ⟨g, 0, none⟩), ci.v, .agg #[.int .i64 a, .int .i64 b]] w (fun e w' => e = .returned (.tuple #[.pointer none, .slice none 0 0, .int .i64 13]) ∧ But F w w') := by
  have BB := Lib.hid (show Below w.heap.size w (w.alloc (.cells #[.int .i64 (a : Int), .int .i64 (b : Int)] 32)) from (Below.refl _ _).alloc (Nat.le_refl _) _)
  have HC := Lib.hid (rnew_any ((ML (Mu.one p g1 g2) G g).below h BB.out) ci a b hok (by rw [hs.a]; exact hn))
  have HS := Lib.hid (And.intro hs hd)
  have HM := Lib.hid hm
  have HUP := Lib.hid hup
  clear h hs hd hm hn hup hok
  go_enter Tryz.func12, Tryz.ntmps12
  go_wp2_with fail
  refine HC.out.mono ?_
  rintro e w2 ⟨q, F2, rfl, hat, hf2, bw⟩
  have A2 := Lib.hid hat
  have N2 := Lib.hid (show ∀ k, F2 k → F k ∨ w.heap.size ≤ k from fun k hk => (hf2 k hk).imp id (fun h => Nat.le_trans BB.out.size h))
  have B2 := Lib.hid (BB.out.trans (bw.mono BB.out.size))
  clear hat hf2 bw HC BB
  go_wp2_with fail
  refine (search_any A2.out HS.out.1 HS.out.2 HM.out).mono ?_
  rintro e w3 ⟨v, rfl, A, n, c, l, s3, F3, FF, rfl, hmv, hse, hdr, hfd, hit, hff, hdj⟩
  have M3 := Lib.hid hmv
  obtain ⟨F9, hml, hback⟩ := logr_mlA hmv.at_
  have hfl := mflushm_any hml
  obtain ⟨h1, h2⟩ := hse.flush hdr
  obtain ⟨s4, hs4⟩ : ∃ x, x = s3.flush.2 := ⟨_, rfl⟩
  rw [show s3.flush.1 = 13 by rw [h1]; exact if_pos HUP.out, ← hs4] at hfl
  have HFL := Lib.hid (hfl.mono fun e w' hr => hback hr)
  clear hmv hse hdr hfd hit hff hdj hml hback hfl h1 h2 hs4
  go_wp2_with fail
  refine HFL.out.mono ?_
  rintro e w4 ⟨rfl, F4, hm4⟩
  have M4 := Lib.hid (M3.out.trans hm4)
  clear hm4 HFL M3
  go_wp2_with fail
  exact bodyPost_ret (results_tmp3 Tryz.results12 _ _ _) rfl ⟨rfl, Mi.but_step (but_below (T := F) B2.out) M4.out.but (fun j hj => N2.out j hj)⟩
end
end Go.Proofs.YtnplhagfmfggcaaGreat.Lo
/-
  What is found, as search goes on, on two devices that are both in; its order. No program.
-/
namespace Go.Proofs.YtnplhagfmfggcaaGreat.Lo
open Go.RowKit Kd Mi Sx
theorem srch_sorted (f : List UInt8 → List UInt8 → List UInt8) (gf : Int → List UInt8 → Bool) (x : Md) : ∀ k, (srchX f gf x k).2.Pairwise (fun a b => a.1 < b.1)
  | 0 => List.Pairwise.nil
  | k + 1 => by
    have ih := srch_sorted f gf x k
    rw [srchX]
    split
    · rw [List.pairwise_append]
      refine ⟨ih, List.pairwise_singleton _ _, fun a ha b hb => ?_⟩
      rw [List.mem_singleton] at hb
      subst hb
      have := (srch_mem f gf x k a ha).2.1
      show a.1 < k + 2
      omega
    · exact ih
/-- What was sorted is in its order, each behind the one ahead of it. -/
theorem strict_of {l : List Fd} {base : List (Nat × Nat × List UInt8)} (hp : (l.map Fd.it).Perm base) (hb : base.Pairwise (fun a b => a.1 < b.1)) (hs : l.Pairwise (fun x y => ¬ ltF y.it x.it)) : (l.map Fd.it).Pairwise ltF := by
  have h1 : (base.map (·.1)).Nodup := by
    rw [List.Nodup, List.pairwise_map]
    exact hb.imp (fun h => Nat.ne_of_lt h)
  have h2 : ((l.map Fd.it).map (·.1)).Nodup := ((hp.map (·.1)).nodup_iff).2 h1
  rw [List.Nodup, List.pairwise_map, List.pairwise_map] at h2
  rw [List.pairwise_map]
  exact hs.imp₂ (fun x y h3 h4 => by unfold ltF at *; omega) h2
section
variable {f : List UInt8 → List UInt8 → List UInt8} {gf : Int → List UInt8 → Bool} (hgf : ∀ k s, gf k s = okS f k s)
include hgf
theorem both_start {L0 L1 : List (List UInt8)} {n k : Nat} (hk : k < n) : (Sc.startM L0 L1 n).both gf (k : Int) = (if okS f k (L0.getD k zeroS) then [L0.getD k zeroS] else []) ++ (if okS f k (L1.getD k zeroS) then [L1.getD k zeroS] else []) := by
  have hh : (Sc.startM L0 L1 n).has (k : Int) = true := by rw [Md.has, Sc.start_len]; simp; omega
  obtain ⟨y0, e0⟩ : ∃ y, y = L0.getD k zeroS := ⟨_, rfl⟩
  obtain ⟨y1, e1⟩ : ∃ y, y = L1.getD k zeroS := ⟨_, rfl⟩
  have hb : (Sc.startM L0 L1 n).bothTo gf k 2 = ([] ++ (if !false && gf (k : Int) (L0.getD k zeroS) then [L0.getD k zeroS] else [])) ++ (if !false && gf (k : Int) (L1.getD k zeroS) then [L1.getD k zeroS] else []) := rfl
  rw [Md.both, hh, if_pos rfl, Int.toNat_natCast, hb, ← e0, ← e1, hgf, hgf, List.nil_append]
  simp
theorem pick_best {L0 L1 : List (List UInt8)} {n k : Nat} (hk : k < n) : pickL f (k : Int) ((Sc.startM L0 L1 n).both gf (k : Int)) = bestS f L0 L1 k := by
  rw [both_start hgf hk]
  unfold bestS pickL
  cases h0 : okS f (k : Int) (L0.getD k zeroS) <;> cases h1 : okS f (k : Int) (L1.getD k zeroS)
  · rfl
  · show (if (okS f (k : Int) (L1.getD k zeroS) && true) = true then some (L1.getD k zeroS) else none) = _
    rw [h1]; rfl
  · show (if (okS f (k : Int) (L0.getD k zeroS) && true) = true then some (L0.getD k zeroS) else none) = _
    rw [h0]; rfl
  · show pickT f (k : Int) (if (okS f (k : Int) (L0.getD k zeroS) && true) = true then some (L0.getD k zeroS) else none) (L1.getD k zeroS) = _
    rw [h0]
    show (if (okS f (k : Int) (L1.getD k zeroS) && decide (genS (L0.getD k zeroS) < genS (L1.getD k zeroS))) = true then some (L1.getD k zeroS) else some (L0.getD k zeroS)) = _
    rw [h1]; rfl
omit hgf in
theorem write_start {L0 L1 : List (List UInt8)} {n k : Nat} (hk : k < n) (y : List UInt8) : ((Sc.startM L0 L1 n).write (k : Int) y).2 = Sc.startM (L0.set k y) (L1.set k y) n := by
  have hh : (Sc.startM L0 L1 n).has (k : Int) = true := by rw [Md.has, Sc.start_len]; simp; omega
  have hr : (List.replicate n false).set k false = List.replicate n false := by
    apply List.ext_getElem
    · simp
    · intro i h1 h2
      rw [List.getElem_set]
      simp
  rw [Md.write, hh, if_pos rfl, if_neg (by show ¬ (false && false) = true; simp), Int.toNat_natCast]
  show (⟨L0.set k y, L1.set k y, false, false, (List.replicate n false).set k false, (List.replicate n false).set k false⟩ : Md) = _
  rw [hr]; rfl
/-- Where both are in: what is found is what both lists have, and then both have it. -/
theorem srch_start {L0 L1 : List (List UInt8)} {n : Nat} (h0 : L0.length = n) (h1 : L1.length = n) : ∀ k, k + 2 ≤ n → srchX f gf (Sc.startM L0 L1 n) k = (Sc.startM (chosen f L0 L1 L0 k) (chosen f L0 L1 L1 k) n, baseF f L0 L1 (k + 2))
  | 0, _ => rfl
  | k + 1, hk => by
    have ih := srch_start h0 h1 k (by omega)
    have hbest : bestS f (chosen f L0 L1 L0 k) (chosen f L0 L1 L1 k) (k + 2) = bestS f L0 L1 (k + 2) := by
      unfold bestS
      rw [chosen_at f L0 L1 L0 (by omega), chosen_at f L0 L1 L1 (by omega), if_neg (show ¬(2 ≤ k + 2 ∧ k + 2 < k + 2) by omega), if_neg (show ¬(2 ≤ k + 2 ∧ k + 2 < k + 2) by omega)]
    have hbase : baseF f L0 L1 (k + 1 + 2) = baseF f L0 L1 (k + 2) ++ (match bestS f L0 L1 (k + 2) with | some s => [(k + 2, genS s, bodyS s)] | none => []) := by
      unfold baseF
      rw [show k + 1 + 2 - 2 = k + 1 by omega, show k + 2 - 2 = k by omega, List.range_succ, List.filterMap_append]
      congr 1
      unfold foundAt
      cases hx : bestS f L0 L1 (k + 2) <;> simp [hx]
    rw [srchX, ih, hbase]
    have hp := pick_best hgf (L0 := chosen f L0 L1 L0 k) (L1 := chosen f L0 L1 L1 k) (n := n) (k := k + 2) (by omega)
    rw [hbest] at hp
    show (match pickL f ((k + 2 : Nat) : Int) ((Sc.startM (chosen f L0 L1 L0 k) (chosen f L0 L1 L1 k) n).both gf ((k + 2 : Nat) : Int)) with | some y => (((Sc.startM (chosen f L0 L1 L0 k) (chosen f L0 L1 L1 k) n).write ((k + 2 : Nat) : Int) y).2, baseF f L0 L1 (k + 2) ++ [(k + 2, genS y, bodyS y)]) | none => (Sc.startM (chosen f L0 L1 L0 k) (chosen f L0 L1 L1 k) n, baseF f L0 L1 (k + 2))) = _
    rw [hp, chosen, chosen]
    cases hb : bestS f L0 L1 (k + 2) with
    | none => simp
    | some y =>
      show ((Md.write _ _ _).2, _) = _
      rw [write_start (by omega)]
end
/-- Learnt in their order. -/
theorem learn_all : ∀ (l : List (Nat × Nat × List UInt8)) (L : Lg), (∀ x ∈ l, 1 ≤ x.2.1 ∧ L.last ≤ x.2.1 ∧ 2 ≤ x.1 ∧ x.1 < 2 + L.gens.length * L.size) → l.Pairwise ltF → (∀ g ∈ L.gens, g ≤ L.last) → (L.h = none → L.last = 0) → 0 < L.size → L.Fine →
    l.foldl Rl.learn (rlOf L) = rlOf (l.foldl Lg.learn L) ∧ (l.foldl Lg.learn L).Fine
  | [], L, _, _, _, _, _, hf => ⟨rfl, hf⟩
  | x :: l, L, hx, hs, hg, hn, h0, hf => by
    obtain ⟨x1, x2, x3, x4⟩ := hx x (List.mem_cons_self ..)
    rw [List.pairwise_cons] at hs
    have hi : (x.1 - 2) / L.size < L.gens.length := (Nat.div_lt_iff_lt_mul h0).2 (by omega)
    have hj : (x.1 - 2) % L.size < L.size := Nat.mod_lt _ h0
    have hlast : (L.learn x).last = x.2.1 := by show max L.last x.2.1 = _; omega
    have hle : ∀ g ∈ (L.learn x).gens, g ≤ (L.learn x).last := by
      intro g hm
      rw [hlast]
      rcases List.mem_or_eq_of_mem_set hm with h | h
      · exact Nat.le_trans (hg g h) x2
      · have : L.gens.getD ((x.1 - 2) / L.size) 0 ≤ L.last := by
          rw [List.getD_eq_getElem?_getD, List.getElem?_eq_getElem hi]
          exact hg _ (List.getElem_mem _)
        omega
    have hset : ∀ s, (L.learn x).gens.getD s 0 = if s = (x.1 - 2) / L.size then max (L.gens.getD ((x.1 - 2) / L.size) 0) x.2.1 else L.gens.getD s 0 := by
      intro s
      show (L.gens.set _ _).getD s 0 = _
      by_cases e : s = (x.1 - 2) / L.size
      · rw [if_pos e, e, List.getD_eq_getElem?_getD, List.getElem?_set_self hi]; rfl
      · rw [if_neg e, List.getD_eq_getElem?_getD, List.getElem?_set_ne (fun h => e h.symm), ← List.getD_eq_getElem?_getD]
    have hfine : (L.learn x).Fine := by
      refine ⟨fun s t hh => ?_, hle⟩
      have hl : (L.learn x).gens.length = L.gens.length := List.length_set
      have hz : (L.learn x).size = L.size := rfl
      have hhe : (L.learn x).h = if L.last < x.2.1 ∨ (L.last = x.2.1 ∧ L.h.map (·.1) = some ((x.1 - 2) / L.size)) then some ((x.1 - 2) / L.size, (x.1 - 2) % L.size + 1) else L.h := rfl
      rw [hhe] at hh
      split at hh
      · injection hh with hh
        injection hh with e1 e2
        subst e1 e2
        exact ⟨by rw [hl]; exact hi, by rw [hz]; exact hj, Nat.succ_pos _, by rw [hset, if_pos rfl]; omega⟩
      · obtain ⟨k1, k2, k3, k4⟩ := hf.head s t hh
        refine ⟨by rw [hl]; exact k1, by rw [hz]; exact k2, k3, ?_⟩
        rw [hset]
        split
        · omega
        · exact k4
    have hnone : (L.learn x).h = none → (L.learn x).last = 0 := by
      intro hh
      exfalso
      have hhe : (L.learn x).h = if L.last < x.2.1 ∨ (L.last = x.2.1 ∧ L.h.map (·.1) = some ((x.1 - 2) / L.size)) then some ((x.1 - 2) / L.size, (x.1 - 2) % L.size + 1) else L.h := rfl
      rw [hhe] at hh
      split at hh
      · cases hh
      · rename_i hc
        have := hn hh
        exact hc (.inl (by omega))
    have ih := learn_all l (L.learn x) (fun y hy => by
      obtain ⟨y1, _, y3, y4⟩ := hx y (List.mem_cons_of_mem _ hy)
      have h5 := hs.1 y hy
      refine ⟨y1, ?_, y3, ?_⟩
      · rw [hlast]; unfold ltF at h5; omega
      · rw [show (L.learn x).gens.length = L.gens.length from List.length_set]; exact y4) hs.2 hle hnone h0 hfine
    rw [List.foldl_cons, List.foldl_cons, ← rl_learn x1 x2 hg hn]
    exact ih
end Go.Proofs.YtnplhagfmfggcaaGreat.Lo
/-
  A log that is opened, whatever stands on its two devices: its devices, what it knows, what is found. How a power failure that came in is opened.
-/
namespace Go.Proofs.YtnplhagfmfggcaaGreat.Lo
open Go.RowKit Kd Mi Sx Sg
/-- It tells the log q, and what is found, in its order; the devices are as search left them. -/
def RetTO (p g1 g2 g : Nat) (a sz : Nat) (w0 : World) (L0 L1 : List (List UInt8)) (F : Nat → Prop) (w : World) (e : Ending) (w' : World) : Prop :=
  ∃ (q : Nat) (A : Option Addr) (k c : Nat) (fd : List Fd) (d : Sy) (F1 F2 FF : Nat → Prop), e = .returned (.tuple #[.pointer (some ⟨q, 0, none⟩), .slice A k c, .int .i64 0]) ∧
    Mu.LD p g1 g2 w0 w' d F1 (chosen litS.f L0 L1 L0 (a * sz)) (chosen litS.f L0 L1 L1 (a * sz)) false false 0 ∧
    (OwnR g q litS).At w' ((fd.map Fd.it).foldl Rl.learn (Rl.new a sz)) F2 ∧ (FdL A k c).At w' fd FF ∧
    (fd.map Fd.it).Perm (baseF litS.f L0 L1 (2 + a * sz)) ∧ (fd.map Fd.it).Pairwise ltF ∧
    (∀ j, F1 j → F2 j → False) ∧ (∀ j, F1 j ∨ F2 j → FF j → False) ∧ (∀ j, F1 j ∨ F2 j → F j ∨ w.heap.size ≤ j) ∧ (∀ j, FF j → w.heap.size ≤ j) ∧ But F w w'
section
variable {p g1 g2 g b : Nat} {w0 w : World} {s : Mr (Mu.one p g1 g2)} {F : Nat → Prop} {n : Nat} {L0 L1 : List (List UInt8)}
theorem gdS_tf (b : Nat) : ∀ k y, (gdS litS b).f k y = okS litS.f k y := fun _ _ => rfl
theorem topen_any (h : Mu.LM p g1 g2 (gdS litS b) g w0 w s F (Sc.startM L0 L1 n) 0) (h0 : L0.length = n) (h1 : L1.length = n) (a sz : Nat) (hok : Sg.okS (a : Int) (sz : Int)) (hn : 2 + a * sz ≤ n) :
    Calls Tryz.prog 12 #[.pointer (some ⟨g, 0, none⟩), litS.v, .agg #[.int .i64 a, .int .i64 sz]] w (RetTO p g1 g2 g a sz w0 L0 L1 F w) := by
  have hN : a * sz ≤ 64 * 32 := by unfold Sg.okS at hok; exact Nat.mul_le_mul (by omega) (by omega)
  have hsr := srch_start (gdS_tf b) h0 h1 (a * sz) (by omega)
  rw [Nat.add_comm (a * sz) 2] at hsr
  have hst : (Sc.startM L0 L1 n).a.length = n := Sc.start_len
  refine (open_raw h.live.at_ h.sees h.dry a sz hok (by omega) (by rw [hst]; exact hn) (by rw [hsr]; rfl)).mono ?_
  rintro e w' ⟨q, A, k, c, l, s', F', FF, rfl, hat, hse, hdr, hfd, hp, hs, hf1, hf2, hf3, hb⟩
  rw [hsr] at hse hdr hp
  have hstr : (l.map Fd.it).Pairwise ltF := by
    have h2 := srch_sorted litS.f (gdS litS b).f (Sc.startM L0 L1 n) (a * sz)
    rw [hsr] at h2
    exact strict_of hp h2 hs
  obtain ⟨G1, G2, hml, how, hdj, hF⟩ := hat
  obtain ⟨A', n', c', B', m', e', F3, hr, k1, _⟩ := hml
  have k2 : ∀ j, F3 j → G1 j := fun j hj => k1 j (.inr (.inr (.inr (.inl hj))))
  have hnew := h.live.new
  have hbel : Below w0.heap.size w0 w' := h.live.bel.trans (hb.below (fun j hj hF => by have := hnew j hF; omega) h.live.bel.size)
  have hin : ∀ j, F3 j ∨ G2 j → F' j := fun j hj => (hF j).2 (hj.imp (k2 j) id)
  refine ⟨q, A, k, c, l, s'.d, F3, G2, FF, rfl, ⟨⟨hr.d, fun j hj => ?_, hbel⟩, hse.d0, hse.d1⟩, how, hfd, hp, hstr, fun j hj => hdj j (k2 j hj), fun j hj => hf3 j (hin j hj), fun j hj => hf1 j (hin j hj), hf2, hb⟩
  exact (hf1 j (hin j (.inl hj))).elim (hnew j) (Nat.le_trans h.live.bel.size)
end
theorem Bz.go {w0 w w' : World} {F F' : Nat → Prop} {b : Nat} {cs : Array Value} {t : TypeId} (h : Bz w0 w F b cs t) (hn : ∀ j, F' j → F j ∨ w.heap.size ≤ j) (hb : But F w w') : Bz w0 w' F' b cs t :=
  ⟨h.1.but hb h.2.2, h.2.1, fun hf => (hn b hf).elim h.2.2 (fun h1 => by have := h.1.lt; omega)⟩
theorem rig_under : Tryz.prog.underlying 34 = some (.struct (Tryz.prog.fieldsOf 34)) := by kernel_rfl
theorem rig_info : (Tryz.prog.info? 34).map (·.size) = some 7 := by kernel_rfl
theorem own_rlo {g q : Nat} {ci : SCiph} {w : World} {r : Rl} {F : Nat → Prop} (h : (OwnR g q ci).At w r F) : ∃ bm, RlO g q bm ci w r := by
  obtain ⟨bm, h, _⟩ := h
  exact ⟨bm, h⟩
theorem it_eq {fd fe : List Fd} (h : fd.map Fd.it = fe.map Fd.it) {t : Nat} {x y : Fd} (hx : fd[t]? = some x) (hy : fe[t]? = some y) : y.at_ = x.at_ ∧ y.gen = x.gen ∧ y.b = x.b := by
  have h1 : (fd.map Fd.it)[t]? = some x.it := by rw [List.getElem?_map, hx]; rfl
  have h2 : (fe.map Fd.it)[t]? = some y.it := by rw [List.getElem?_map, hy]; rfl
  rw [h, h2] at h1
  injection h1 with h1
  have h3 : (y.at_, y.gen, y.b) = (x.at_, x.gen, x.b) := h1
  injection h3 with e1 e2
  injection e2 with e2 e3
  exact ⟨e1, e2, e3⟩
section
open Go.ChangeShapes Go.WideShapes
variable {H : Type} {enc : TypeId × Value → H} {w : World} {base : Nat} {spare : Nat → Bool} {held : Bool} {r : Reach} {b0 : Nat}
/-- A power failure: five bytes. -/
def crashV (a b c d e : Int) : Array Value := #[.int .u8 a, .int .u8 b, .int .u8 c, .int .u8 d, .int .u8 e]
def byteB (n : Int) : Prop := 0 ≤ n ∧ n ≤ 255
theorem crash_fields : (Tryz.prog.fieldsOf 24).toList.map (fun f => (f.name == "_", f.type, f.offset)) = [(false, 5, 0), (false, 5, 1), (false, 5, 2), (false, 5, 3), (false, 5, 4)] := by kernel_rfl
theorem crash_under : Tryz.prog.underlying 24 = some (.struct (Tryz.prog.fieldsOf 24)) := by kernel_rfl
set_option maxRecDepth 100000 in
theorem crash_of_trod {fuel : Nat} {cs : List Value} {x : DataW H × List MemPlace} (h : DataW.trod enc Tryz.prog w base spare held fuel 24 cs = some x) :
    ∃ a b c d e : Int, cs = (crashV a b c d e).toList ∧ byteB a ∧ byteB b ∧ byteB c ∧ byteB d ∧ byteB e := by
  obtain ⟨xs, n, _, _, hl, hlen, hf⟩ := DataW.trod_struct crash_under h
  have hfs := crash_fields
  have hcn : Tryz.prog.cellsOf 24 = 5 := by kernel_rfl
  have hci : Tryz.prog.cellsOf 5 = 1 := by kernel_rfl
  generalize Tryz.prog.fieldsOf 24 = fs at hfs hlen hf
  rw [hcn] at hl
  obtain ⟨L⟩ := fs
  have hL5 : L.length = 5 := by simpa using congrArg List.length hfs
  match L, hL5, hfs, hf, hlen with
  | [f0, f1, f2, f3, f4], _, hfs, hf, hlen =>
    simp only [List.map_cons, List.map_nil, List.cons.injEq, Prod.mk.injEq, and_true] at hfs
    obtain ⟨⟨_, t0, o0⟩, ⟨_, t1, o1⟩, ⟨_, t2, o2⟩, ⟨_, t3, o3⟩, ⟨_, t4, o4⟩⟩ := hfs
    have h5 : xs.length = 5 := hlen
    have g0 := hf 0 f0 rfl
    have g1 := hf 1 f1 rfl
    have g2 := hf 2 f2 rfl
    have g3 := hf 3 f3 rfl
    have g4 := hf 4 f4 rfl
    rw [t0, o0, hci, List.getElem?_eq_getElem (by omega)] at g0
    rw [t1, o1, hci, List.getElem?_eq_getElem (by omega)] at g1
    rw [t2, o2, hci, List.getElem?_eq_getElem (by omega)] at g2
    rw [t3, o3, hci, List.getElem?_eq_getElem (by omega)] at g3
    rw [t4, o4, hci, List.getElem?_eq_getElem (by omega)] at g4
    obtain ⟨a0, e0, _, w0⟩ := DataW.trod_int Tryz.underlying5 g0
    obtain ⟨a1, e1, _, w1⟩ := DataW.trod_int Tryz.underlying5 g1
    obtain ⟨a2, e2, _, w2⟩ := DataW.trod_int Tryz.underlying5 g2
    obtain ⟨a3, e3, _, w3⟩ := DataW.trod_int Tryz.underlying5 g3
    obtain ⟨a4, e4, _, w4⟩ := DataW.trod_int Tryz.underlying5 g4
    match cs, hl with
    | [u0, u1, u2, u3, u4], _ =>
      simp at e0 e1 e2 e3 e4
      exact ⟨a0, a1, a2, a3, a4, by rw [e0, e1, e2, e3, e4]; rfl, bounds_u8 w0, bounds_u8 w1, bounds_u8 w2, bounds_u8 w3, bounds_u8 w4⟩
set_option maxRecDepth 100000 in
/-- A power failure that came in by value. -/
theorem open_crash {v : Value} {d : DataW H} {ps : List MemPlace} (hval : Value.okWide Tryz.prog w r b0 24 v) (h : DataW.Trod enc Tryz.prog w base spare held 24 v d ps) :
    ∃ a b c d e : Int, v = .agg (crashV a b c d e) ∧ byteB a ∧ byteB b ∧ byteB c ∧ byteB d ∧ byteB e := by
  obtain ⟨cs, rfl, hsz⟩ : ∃ cs, v = .agg cs ∧ cs.size = 5 := by
    have h1 := hval
    simp only [Value.okWide, crash_under] at h1
    obtain ⟨cs, e1, e2, _⟩ := h1
    exact ⟨cs, e1, by rw [e2]; kernel_rfl⟩
  obtain ⟨fuel, hf⟩ := h
  obtain ⟨a, b, c, d, e, he, ha⟩ := crash_of_trod hf
  refine ⟨a, b, c, d, e, ?_, ha⟩
  congr 1
  exact Array.toList_inj.1 he
end
end Go.Proofs.YtnplhagfmfggcaaGreat.Lo
